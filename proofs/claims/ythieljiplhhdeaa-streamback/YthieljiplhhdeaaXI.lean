/-
  Bytes turned by blocks, by the program.
-/
import Derived.Test.YthieljiplhhdeaaXG
import Derived.Test.YthieljiplhhdeaaXH
namespace Go.Proofs.Ythieljiplhhdeaa.sh
open Go Go.RowKit
set_option linter.unusedVariables false
set_option linter.unusedSimpArgs false

theorem run_c3264 {o : Oper} {a : Act} {x : Operand} {z : Nat} (ho : o.op = .convert 24 37 x) (hx : a.eval x = .int .u32 (z : Int)) (hz : z < 4294967296) (w : World) : (execOp a.eval o).run Try.prog w = .ok (.value (.int .u64 (z : Int))) w := by
  unfold execOp
  simp only [ho, hx]
  simp [go_sem, IntKind.wrap_u64]
  omega
theorem run_c364 {o : Oper} {a : Act} {x : Operand} {z : Nat} (ho : o.op = .convert 3 37 x) (hx : a.eval x = .int .i64 (z : Int)) (hz : z < 4611686018427387904) (w : World) : (execOp a.eval o).run Try.prog w = .ok (.value (.int .u64 (z : Int))) w := by
  unfold execOp
  simp only [ho, hx]
  simp [go_sem, IntKind.wrap_u64]
  omega
theorem run_add64 {o : Oper} {a : Act} {x y : Operand} {m n z : Nat} (ho : o.op = .binOp .add 37 x y 37) (hx : a.eval x = .int .u64 (m : Int)) (hy : a.eval y = .int .u64 (n : Int)) (hz : z = m + n) (h62 : z < 4611686018427387904) (w : World) : (execOp a.eval o).run Try.prog w = .ok (.value (.int .u64 (z : Int))) w := by
  unfold execOp
  simp only [ho, hx, hy]
  simp [go_sem, IntKind.wrap_u64]
  omega
theorem run_gtr64c {o : Oper} {a : Act} {x : Operand} {m : Nat} {b : Bool} (ho : o.op = .binOp .gtr 37 x (.const (.int .u64 4294967296)) 37) (hx : a.eval x = .int .u64 (m : Int)) (hb : b = decide (4294967296 < m)) (w : World) : (execOp a.eval o).run Try.prog w = .ok (.value (.bool b)) w := by
  have e3 : a.eval (.const (.int .u64 4294967296)) = .int .u64 4294967296 := rfl
  unfold execOp
  simp only [ho, hx, e3]
  simp [go_sem, hb]
  omega
theorem run_gtrI {o : Oper} {a : Act} {x : Operand} {m : Nat} {b : Bool} (c : Nat) (ho : o.op = .binOp .gtr 3 x (.const (.int .i64 (c : Int))) 3) (hx : a.eval x = .int .i64 (m : Int)) (hb : b = decide (c < m)) (w : World) : (execOp a.eval o).run Try.prog w = .ok (.value (.bool b)) w := by
  have e3 : a.eval (.const (.int .i64 (c : Int))) = .int .i64 (c : Int) := rfl
  unfold execOp
  simp only [ho, hx, e3]
  simp [go_sem, hb]
theorem run_c332 {o : Oper} {a : Act} {x : Operand} {z : Nat} (ho : o.op = .convert 3 24 x) (hx : a.eval x = .int .i64 (z : Int)) (hz : z < 4294967296) (w : World) : (execOp a.eval o).run Try.prog w = .ok (.value (.int .u32 (z : Int))) w := by
  unfold execOp
  simp only [ho, hx]
  simp [go_sem, IntKind.wrap_u32']
  omega
theorem run_min2' {o : Oper} {a : Act} {x y : Operand} {m n z : Nat} {ts : Array TypeId} (ho : o.op = .call { callee := .builtin .min, args := #[x, y], argTypes := ts }) (hx : a.eval x = .int .i64 (m : Int)) (hy : a.eval y = .int .i64 (n : Int)) (hz : z = min m n) (w : World) : (execOp a.eval o).run Try.prog w = .ok (.value (.int .i64 (z : Int))) w := by exact run_min2 ho hx hy hz w
theorem run_addZ {o : Oper} {a : Act} {x : Operand} {i z : Nat} (c : Nat) (ho : o.op = .binOp .add 3 x (.const (.int .i64 (c : Int))) 3) (hx : a.eval x = .int .i64 (i : Int)) (hz : z = i + c) (hi : z < 4611686018427387904) (w : World) : (execOp a.eval o).run Try.prog w = .ok (.value (.int .i64 (z : Int))) w := by
  subst hz
  exact run_addI c ho hx hi w
theorem run_subZ {o : Oper} {a : Act} {x : Operand} {i z : Nat} (c : Nat) (ho : o.op = .binOp .sub 3 x (.const (.int .i64 (c : Int))) 3) (hx : a.eval x = .int .i64 (i : Int)) (hz : i = z + c) (hi : i < 4611686018427387904) (w : World) : (execOp a.eval o).run Try.prog w = .ok (.value (.int .i64 (z : Int))) w := by
  have h := run_subI c ho hx (by omega) hi w
  rw [show i - c = z by omega] at h
  exact h
set_option maxHeartbeats 400000 in
theorem blocks_any (n B : Nat) (w : World) (hn : n < 1000000000000) (hB : B = (n + 63) / 64) :
    Calls Try.prog 13 #[.int .i64 (n : Int)] w fun e w' => e = .returned (.int .i64 (B : Int)) ∧ w' = w := by
  obtain ⟨n4, h4⟩ : ∃ m, m = n + 64 := ⟨_, rfl⟩
  obtain ⟨n3, h3⟩ : ∃ m, m = n + 63 := ⟨_, rfl⟩
  have E4 : Kept _ := ⟨h4⟩
  have E3 : Kept (n4 = n3 + 1) := ⟨by omega⟩
  have EB : Kept (B = n3 / 64) := ⟨by rw [hB, h3]⟩
  have L4 : n4 < 4611686018427387904 := by omega
  have L3 : n3 < 4611686018427387904 := by omega
  clear hB h3 h4
  go_enter Try.func13, Try.ntmps13
  go_wp2_with (first | ((with_reducible refine wv_val (d := 4) ?hd ?hw (.int .i64 (n4 : Int)) ?hr ?_); (case hd => rfl); (case hw => kernel_rfl); (case hr => intro w; exact run_addZ 64 rfl (by kernel_rfl) E4.out L4 w); simp only [Act.put, List.setIfInBounds_toArray, List.set_cons_succ, List.set_cons_zero]) | ((with_reducible refine wv_val (d := 5) ?hd ?hw (.int .i64 (n3 : Int)) ?hr ?_); (case hd => rfl); (case hw => kernel_rfl); (case hr => intro w; exact run_subZ 1 rfl (by kernel_rfl) E3.out L4 w); simp only [Act.put, List.setIfInBounds_toArray, List.set_cons_succ, List.set_cons_zero]) | ((with_reducible refine wv_val (d := 6) ?hd ?hw (.int .i64 (B : Int)) ?hr ?_); (case hd => rfl); (case hw => kernel_rfl); (case hr => intro w; exact run_quo64 rfl (by kernel_rfl) EB.out L3 w); simp only [Act.put, List.setIfInBounds_toArray, List.set_cons_succ, List.set_cons_zero]))
  go_ret
  exact ⟨rfl, rfl⟩
theorem W2_below (w : World) (k n : Array Value) : Below w.heap.size w ((w.alloc (.cells k 22)).alloc (.cells n 23)) := ((Below.refl _ _).alloc (Nat.le_refl _) _).alloc (by simp) _

set_option maxRecDepth 100000 in
set_option maxHeartbeats 1000000 in
theorem Xor_big (key nonce b : List Nat) (count : Nat) (vb : Value) (w : World) (hvb : BytesV vb w b) (h : 65536 < b.length) :
    Calls Try.prog 9 #[.agg (ints .u8 key), .agg (ints .u8 nonce), .int .u32 (count : Int), vb] w fun e w' => e = .returned (.tuple #[.slice none 0 0, .int .i64 3]) ∧ Below w.heap.size w w' := by
  obtain ⟨p, c, rfl, _, _⟩ := hvb
  obtain ⟨n, hn⟩ : ∃ n, n = b.length := ⟨_, rfl⟩
  rw [← hn] at h ⊢
  have Q0 := W2_below w (ints .u8 key) (ints .u8 nonce)
  have h' : (65536 : Int) < (n : Int) := by omega
  clear hn
  go_enter Try.func9, Try.ntmps9
  go_wp2_with fail
  go_ret2
  exact ⟨rfl, Q0⟩
set_option maxRecDepth 100000 in
set_option maxHeartbeats 1000000 in
theorem Xor_end (key nonce b : List Nat) (count : Nat) (vb : Value) (w : World) (hvb : BytesV vb w b) (hc : count < 4294967296) (h : b.length ≤ 65536) (he : 4294967296 < count + (b.length + 63) / 64) :
    Calls Try.prog 9 #[.agg (ints .u8 key), .agg (ints .u8 nonce), .int .u32 (count : Int), vb] w fun e w' => e = .returned (.tuple #[.slice none 0 0, .int .i64 12]) ∧ Below w.heap.size w w' := by
  obtain ⟨p, c, rfl, _, _⟩ := hvb
  obtain ⟨n, hn⟩ : ∃ n, n = b.length := ⟨_, rfl⟩
  rw [← hn] at h he ⊢
  obtain ⟨B, hB⟩ : ∃ B, B = (n + 63) / 64 := ⟨_, rfl⟩
  obtain ⟨S, hS⟩ : ∃ S, S = count + B := ⟨_, rfl⟩
  have hBB : Kept (true = decide (4294967296 < S)) := ⟨(decide_eq_true (by omega)).symm⟩
  have HS : Kept _ := ⟨hS⟩
  have HB : Kept _ := ⟨hB⟩
  have hB62 : B < 4611686018427387904 := by omega
  have hS62 : S < 4611686018427387904 := by omega
  have Q0 := W2_below w (ints .u8 key) (ints .u8 nonce)
  have h' : ¬ (65536 : Int) < (n : Int) := by omega
  clear hn hB hS he
  go_enter Try.func9, Try.ntmps9
  go_wp2_with fail
  refine (blocks_any n B _ (by omega) HB.out).mono ?_
  rintro e w' ⟨rfl, hw'⟩
  obtain rfl := hw'.symm
  go_wp2_with (first | ((with_reducible refine wv_val (d := 24) ?hd ?hw (.bool true) ?hr ?_); (case hd => rfl); (case hw => kernel_rfl); (case hr => intro w; exact run_gtr64c rfl (by kernel_rfl) hBB.out w); simp only [Act.put, List.setIfInBounds_toArray, List.set_cons_succ, List.set_cons_zero]) | ((with_reducible refine wv_val (d := 18) ?hd ?hw (.int .u64 (count : Int)) ?hr ?_); (case hd => rfl); (case hw => kernel_rfl); (case hr => intro w; exact run_c3264 rfl (by kernel_rfl) hc w); simp only [Act.put, List.setIfInBounds_toArray, List.set_cons_succ, List.set_cons_zero]) | ((with_reducible refine wv_val (d := 22) ?hd ?hw (.int .u64 (B : Int)) ?hr ?_); (case hd => rfl); (case hw => kernel_rfl); (case hr => intro w; exact run_c364 rfl (by kernel_rfl) hB62 w); simp only [Act.put, List.setIfInBounds_toArray, List.set_cons_succ, List.set_cons_zero]) | ((with_reducible refine wv_val (d := 23) ?hd ?hw (.int .u64 (S : Int)) ?hr ?_); (case hd => rfl); (case hw => kernel_rfl); (case hr => intro w; exact run_add64 rfl (by kernel_rfl) (by kernel_rfl) HS.out hS62 w); simp only [Act.put, List.setIfInBounds_toArray, List.set_cons_succ, List.set_cons_zero]))
  go_ret2
  exact ⟨rfl, Q0⟩
end Go.Proofs.Ythieljiplhhdeaa.sh
