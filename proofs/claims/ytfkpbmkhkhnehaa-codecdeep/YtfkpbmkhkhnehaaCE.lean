/-
  What goes through a text: bytes, number, text; where it is too short they panic.
-/
import Derived.Test.YtfkpbmkhkhnehaaCD
namespace Go.Proofs.Ytfkpbmkhkhnehaa.sh
open Go Go.RowKit
set_option linter.unusedVariables false
set_option linter.unusedSimpArgs false

section
variable {ops : Array Oper} {rest : List Oper} {o : Oper} {a : Act} {w : World} {Q : Exit → Act → World → Prop}
/-- A cell is written, whatever value of one cell it gets. -/
theorem wl_set1 (hgd : o.guard = none) (e : TypeId) (sz : ∀ w, (sizeOf e).run Try.prog w = .ok 1 w) (x y : Operand) (ho : o.op = .store e x y) (g k : Nat) (v : Value) (hx : a.eval x = .pointer (some ⟨g, k, none⟩)) (hy : a.eval y = v) (h1 : v.oneCell' = true) {t : TypeId} (A : Array Value)
    (hg : Blk w g t A) (hk : k < A.size) (h : ∀ w', Blk w' g t (A.setIfInBounds k v) → Put w w' g → wpList Try.prog ops Q rest (a.put o.dst undef) w') : wpList Try.prog ops Q (o :: rest) a w :=
  wpList_plain hgd fun K hK => by
    have hc : w.cell? ⟨g, k, none⟩ = some A[k] := cell_row hg (Array.getElem?_eq_getElem hk)
    have hf : w.frozen? ⟨g, k, none⟩ = false := frozen_of_row w g k A _ hg
    have hv : v.cells = #[v] := by cases v <;> simp_all [Value.oneCell', Value.cells]
    have hv' := hv
    unfold Value.cells at hv'
    have hrun : (execOp a.eval o).run Try.prog w = .ok .skip (w.setCell ⟨g, k, none⟩ v) := by
      unfold execOp
      simp only [ho, hx, hy, Instr.storeAt, Instr.sureAddr, Sem.run_bind, Sem.run_pure, Result.andThen_ok]
      simp [storeVar, storeCells, sz, go_sem, hc, hf, hv']
      rw [run_store _ _ _ _ _ h1, hc]
      simp [hf]
    unfold Oper.wp
    rw [hrun]
    exact hK _ _ (h _ (heap_setCell_same _ _ _ _ _ _ hg) ⟨⟨rfl, rfl, rfl, by simp, fun j _ hj => heap_setCell_other w ⟨g, k, none⟩ j _ (fun e => hj (by rw [e]))⟩, by simp⟩)
end
/-- A text that is gone through, in a block. -/
def Wk (b : Nat) (l : List Nat) (w : World) : Prop := Blk w b 71 #[.string (strOf l)]

set_option maxRecDepth 100000 in
set_option maxHeartbeats 1000000 in
theorem bytes_ok {b n : Nat} {l : List Nat} {w : World} (h : Wk b l w) (hn : n ≤ l.length) (hm : l.length < 4611686018427387904) :
    Calls Try.prog 37 #[.pointer (some ⟨b, 0, none⟩), .int .i64 (n : Int)] w fun e w' => e = .returned (.string (strOf (l.take n))) ∧ Wk b (l.drop n) w' ∧ Put w w' b := by
  obtain ⟨T, hT⟩ : ∃ T, T = l.take n := ⟨_, rfl⟩
  obtain ⟨D, hD⟩ : ∃ D, D = l.drop n := ⟨_, rfl⟩
  obtain ⟨m, hM⟩ : ∃ m, m = l.length := ⟨_, rfl⟩
  rw [← hT, ← hD]
  have KT : Kept _ := ⟨hT⟩
  have KD : Kept _ := ⟨hD⟩
  have KM : Kept _ := ⟨hM⟩
  have KN : Kept _ := ⟨hn⟩
  have KH : Kept _ := ⟨h⟩
  have h1 : ¬ (m : Int) < (n : Int) := by omega
  clear hT hD hM hn h
  go_enter Try.func37, Try.ntmps37
  go_wp2_with (first | ((with_reducible refine wv_elem (d := 10) ?hd ?hw 9 ag_str (.tmp 9) ?ho (⟨b, 0, none⟩) ?hx (.string (strOf l)) ?hc ?_); (case hd => rfl); (case hw => kernel_rfl); (case ho => rfl); (case hx => kernel_rfl); (case hc => exact (cell_row KH.out rfl)); simp only [Act.put, List.setIfInBounds_toArray, List.set_cons_succ, List.set_cons_zero]) | ((with_reducible refine wv_val (d := 11) ?hd ?hw (.int .i64 (m : Int)) ?hr ?_); (case hd => rfl); (case hw => kernel_rfl); (case hr => intro w; exact run_slen rfl (by kernel_rfl) KM.out w); simp only [Act.put, List.setIfInBounds_toArray, List.set_cons_succ, List.set_cons_zero]) | ((with_reducible refine wv_elem (d := 17) ?hd ?hw 9 ag_str (.tmp 16) ?ho (⟨b, 0, none⟩) ?hx (.string (strOf l)) ?hc ?_); (case hd => rfl); (case hw => kernel_rfl); (case ho => rfl); (case hx => kernel_rfl); (case hc => exact (cell_row KH.out rfl)); simp only [Act.put, List.setIfInBounds_toArray, List.set_cons_succ, List.set_cons_zero]) | ((with_reducible refine wv_val (d := 19) ?hd ?hw (.string (strOf T)) ?hr ?_); (case hd => rfl); (case hw => kernel_rfl); (case hr => intro w; exact run_scutT rfl (by kernel_rfl) (by kernel_rfl) KN.out KT.out w); simp only [Act.put, List.setIfInBounds_toArray, List.set_cons_succ, List.set_cons_zero]) | ((with_reducible refine wv_elem (d := 24) ?hd ?hw 9 ag_str (.tmp 23) ?ho (⟨b, 0, none⟩) ?hx (.string (strOf l)) ?hc ?_); (case hd => rfl); (case hw => kernel_rfl); (case ho => rfl); (case hx => kernel_rfl); (case hc => exact (cell_row KH.out rfl)); simp only [Act.put, List.setIfInBounds_toArray, List.set_cons_succ, List.set_cons_zero]) | ((with_reducible refine wv_val (d := 26) ?hd ?hw (.string (strOf D)) ?hr ?_); (case hd => rfl); (case hw => kernel_rfl); (case hr => intro w; exact run_scutF rfl (by kernel_rfl) (by kernel_rfl) KN.out KD.out w); simp only [Act.put, List.setIfInBounds_toArray, List.set_cons_succ, List.set_cons_zero]) | (refine wl_set1 rfl 9 Try.sizeOf9 (.tmp 28) (.tmp 26) rfl b 0 (.string (strOf D)) rfl rfl rfl #[.string (strOf l)] KH.out Nat.zero_lt_one ?_))
  intro w2 b2 p2
  go_wp2_with fail
  go_ret
  exact ⟨rfl, b2, p2⟩
/-- What it panics with. -/
def PV : Value := .iface 9 (.string { data := #[99, 111, 100, 101, 99, 58, 32, 97, 32, 116, 101, 120, 116, 32, 116, 104, 97, 116, 32, 105, 115, 32, 116, 111, 111, 32, 115, 104, 111, 114, 116] })
def Dies (e : Ending) : Prop := e = .panicked [{ v := PV, recovered := false }]
theorem gb_refl (w : World) (r : Option Nat) : w.grownBy w r := ⟨rfl, rfl, rfl, Nat.le_refl _, fun _ _ _ => rfl⟩
theorem gb_trans {w w1 w2 : World} {r : Option Nat} (h : w.grownBy w1 r) (h2 : w1.grownBy w2 r) : w.grownBy w2 r := ⟨h2.os.trans h.os, h2.tape.trans h.tape, h2.output.trans h.output, Nat.le_trans h.size h2.size, fun k hk hr => (h2.block k (Nat.lt_of_lt_of_le hk h.size) hr).trans (h.block k hk hr)⟩
theorem gb_below {w w' : World} {B b : Nat} (h : w.grownBy w' (some b)) (hB : B ≤ w.heap.size) (hb : B ≤ b) : Below B w w' := grown_mono h hB (fun k hk => by cases hk; exact hb)
theorem gb_under {w w' : World} (h : Below w.heap.size w w') (r : Option Nat) : w.grownBy w' r := ⟨h.os, h.tape, h.output, h.size, fun k hk _ => h.block k hk⟩
theorem gb_blk {w w' : World} {b k : Nat} {t : TypeId} {A : Array Value} (h : w.grownBy w' (some b)) (hk : Blk w k t A) (hne : k ≠ b) : Blk w' k t A := (h.block k hk.lt (fun e => by cases e; exact hne rfl)).trans hk
theorem Wk.under {b : Nat} {l : List Nat} {w w' : World} (h : Wk b l w) (hb : Below w.heap.size w w') : Wk b l w' := Blk.under h hb

set_option maxRecDepth 100000 in
set_option maxHeartbeats 1000000 in
theorem bytes_dies {b n : Nat} {l : List Nat} {w : World} (h : Wk b l w) (hn : l.length < n) :
    Calls Try.prog 37 #[.pointer (some ⟨b, 0, none⟩), .int .i64 (n : Int)] w fun e w' => Dies e ∧ w' = w := by
  obtain ⟨m, hM⟩ : ∃ m, m = l.length := ⟨_, rfl⟩
  have KM : Kept _ := ⟨hM⟩
  have KH : Kept _ := ⟨h⟩
  have h1 : (m : Int) < (n : Int) := by omega
  clear hM hn h
  go_enter Try.func37, Try.ntmps37
  go_wp2_with (first | ((with_reducible refine wv_elem (d := 10) ?hd ?hw 9 ag_str (.tmp 9) ?ho (⟨b, 0, none⟩) ?hx (.string (strOf l)) ?hc ?_); (case hd => rfl); (case hw => kernel_rfl); (case ho => rfl); (case hx => kernel_rfl); (case hc => exact (cell_row KH.out rfl)); simp only [Act.put, List.setIfInBounds_toArray, List.set_cons_succ, List.set_cons_zero]) | ((with_reducible refine wv_val (d := 11) ?hd ?hw (.int .i64 (m : Int)) ?hr ?_); (case hd => rfl); (case hw => kernel_rfl); (case hr => intro w; exact run_slen rfl (by kernel_rfl) KM.out w); simp only [Act.put, List.setIfInBounds_toArray, List.set_cons_succ, List.set_cons_zero]))
  exact ⟨rfl, rfl, rfl⟩
set_option maxRecDepth 100000 in
set_option maxHeartbeats 1000000 in
theorem number_ok {b x : Nat} {r : List Nat} {w : World} (h : Wk b (x :: r) w) (hx : x < 256) (hy : Bytes (x :: r)) (hm : (x :: r).length < 4611686018427387904) :
    Calls Try.prog 32 #[.pointer (some ⟨b, 0, none⟩)] w fun e w' => e = .returned (.int .i64 (x : Int)) ∧ Wk b r w' ∧ Put w w' b := by
  have CB := bytes_ok (n := 1) h (by simp) hm
  have hy1 : Bytes [x] := bytes_of_all (fun y hy => by simp at hy; omega)
  go_enter Try.func32, Try.ntmps32
  go_wp2_with fail
  refine CB.mono ?_
  rintro e w1 ⟨rfl, b1, p1⟩
  have e1 : (x :: r).take 1 = [x] := rfl
  rw [e1]
  go_wp2_with (first | ((with_reducible refine wv_val (d := 5) ?hd ?hw (.int .u8 (x : Int)) ?hr ?_); (case hd => rfl); (case hw => kernel_rfl); (case hr => intro w; exact run_sidx (i := 0) rfl (by kernel_rfl) rfl hy1 rfl w); simp only [Act.put, List.setIfInBounds_toArray, List.set_cons_succ, List.set_cons_zero]) | ((with_reducible refine wv_val (d := 6) ?hd ?hw (.int .i64 (x : Int)) ?hr ?_); (case hd => rfl); (case hw => kernel_rfl); (case hr => intro w; exact run_conv83 rfl (by kernel_rfl) hx w); simp only [Act.put, List.setIfInBounds_toArray, List.set_cons_succ, List.set_cons_zero]))
  go_ret
  exact ⟨rfl, b1, p1⟩
set_option maxRecDepth 100000 in
set_option maxHeartbeats 1000000 in
theorem number_dies {b : Nat} {w : World} (h : Wk b [] w) :
    Calls Try.prog 32 #[.pointer (some ⟨b, 0, none⟩)] w fun e w' => Dies e ∧ w' = w := by
  have CB := bytes_dies (n := 1) h (by simp)
  go_enter Try.func32, Try.ntmps32
  go_wp2_with fail
  refine CB.mono ?_
  rintro e w1 ⟨hd, rfl⟩
  obtain rfl := hd
  exact ⟨rfl, rfl, rfl⟩
theorem run_shl8 {o : Oper} {a : Act} {x : Operand} {m z : Nat} {u : TypeId} (ho : o.op = .binOp .shl 3 x (.const (.int .u64 8)) u) (hx : a.eval x = .int .i64 (m : Int)) (hz : z = m * 256) (hm : m < 65536) (w : World) : (execOp a.eval o).run Try.prog w = .ok (.value (.int .i64 (z : Int))) w := by
  have e3 : a.eval (.const (.int .u64 8)) = .int .u64 8 := rfl
  unfold execOp
  simp only [ho, hx, e3]
  simp [go_sem, Op.shift, IntKind.bits, IntKind.wrap_i64, wrap64]
  omega
theorem i64_or_nat (a b : Nat) (ha : a < 9223372036854775808) (hb : b < 9223372036854775808) : bits .or .i64 (a : Int) (b : Int) = ((a ||| b : Nat) : Int) := by
  have hx : a ||| b < 2 ^ 63 := Nat.or_lt_two_pow (by omega) (by omega)
  show IntKind.i64.wrap ((BitVec.ofInt 64 (a : Int) ||| BitVec.ofInt 64 (b : Int)).toNat : Int) = _
  rw [BitVec.toNat_or, ofInt_u64 a (by omega), ofInt_u64 b (by omega), IntKind.wrap_i64]
  omega
theorem or_256 (a b : Nat) (hb : b < 256) : a * 256 ||| b = 256 * a + b := by
  have h := Nat.two_pow_add_eq_or_of_lt (i := 8) (b := b) hb a
  rw [show (2 : Nat) ^ 8 = 256 by decide] at h
  rw [Nat.mul_comm a 256, ← h]
theorem run_or8 {o : Oper} {a : Act} {x y : Operand} {m n p z : Nat} (ho : o.op = .binOp .or 3 x y 3) (hx : a.eval x = .int .i64 (m : Int)) (hy : a.eval y = .int .i64 (n : Int)) (hm : m = p * 256) (hp : p < 65536) (hn : n < 256) (hz : z = 256 * p + n) (w : World) : (execOp a.eval o).run Try.prog w = .ok (.value (.int .i64 (z : Int))) w := by
  have h := i64_or_nat m n (by omega) (by omega)
  rw [hm, or_256 p n hn, ← hz, ← hm] at h
  unfold execOp
  simp only [ho, hx, hy]
  simp [go_sem]
  exact h
set_option maxRecDepth 100000 in
set_option maxHeartbeats 1000000 in
theorem Clone_any (l : List Nat) (w : World) (hl : l.length ≤ 281474976710656) :
    Calls Try.prog 38 #[.string (strOf l)] w fun e w' => e = .returned (.string (strOf l)) ∧ Below w.heap.size w w' := by
  go_enter Try.func38, Try.ntmps38
  go_wp2_with fail
  refine (sClone l w hl).mono ?_
  rintro e w1 ⟨rfl, q⟩
  go_wp2_with fail
  go_ret
  exact ⟨rfl, q⟩
set_option maxRecDepth 100000 in
set_option maxHeartbeats 1000000 in
theorem text_ok {b x y n : Nat} {r : List Nat} {w : World} (h : Wk b (x :: y :: r) w) (hy : Bytes (x :: y :: r)) (hm : (x :: y :: r).length ≤ 1000000) (hn : n = 256 * x + y) (hr : n ≤ r.length) :
    Calls Try.prog 33 #[.pointer (some ⟨b, 0, none⟩)] w fun e w' => e = .returned (.string (strOf (r.take n))) ∧ Wk b (r.drop n) w' ∧ w.grownBy w' (some b) := by
  have hx8 : x < 256 := hy 0 x rfl
  have hy8 : y < 256 := hy 1 y rfl
  have hr2 : Bytes (y :: r) := fun i z hz => hy (i + 1) z hz
  have hL : r.length + 2 ≤ 1000000 := by simpa using hm
  have C1 := number_ok h hx8 hy (by simp; omega)
  have C2 := fun w2 (h2 : Wk b (y :: r) w2) => number_ok h2 hy8 hr2 (by simp; omega)
  have C3 := fun w2 (h2 : Wk b r w2) => bytes_ok h2 hr (by omega)
  have C4 := fun w2 => Clone_any (r.take n) w2 (by rw [List.length_take]; omega)
  obtain ⟨T, hT⟩ : ∃ T, T = r.take n := ⟨_, rfl⟩
  obtain ⟨D, hD⟩ : ∃ D, D = r.drop n := ⟨_, rfl⟩
  rw [← hT] at C4
  have C3 : Kept (∀ w2, Wk b r w2 → Calls Try.prog 37 #[.pointer (some ⟨b, 0, none⟩), .int .i64 (n : Int)] w2 fun e w' => e = .returned (.string (strOf T)) ∧ Wk b D w' ∧ Put w2 w' b) := ⟨by rw [hT, hD]; exact C3⟩
  rw [← hT, ← hD]
  obtain ⟨m, hM⟩ : ∃ m, m = x * 256 := ⟨_, rfl⟩
  have KM : Kept _ := ⟨hM⟩
  have KN : Kept _ := ⟨hn⟩
  have hx6 : x < 65536 := by omega
  clear hM hn hT hD hr hy hr2 hm hL h
  go_enter Try.func33, Try.ntmps33
  go_wp2_with fail
  refine C1.mono ?_
  rintro e w1 ⟨rfl, b1, p1⟩
  go_wp2_with fail
  refine (C2 _ b1).mono ?_
  rintro e w2 ⟨rfl, b2, p2⟩
  replace p2 := gb_trans p1.grown p2.grown
  clear b1 p1 C1 C2
  go_wp2_with (first | ((with_reducible refine wv_val (d := 11) ?hd ?hw (.int .i64 (m : Int)) ?hr ?_); (case hd => rfl); (case hw => kernel_rfl); (case hr => intro w; exact run_shl8 rfl (by kernel_rfl) KM.out hx6 w); simp only [Act.put, List.setIfInBounds_toArray, List.set_cons_succ, List.set_cons_zero]) | ((with_reducible refine wv_val (d := 13) ?hd ?hw (.int .i64 (n : Int)) ?hr ?_); (case hd => rfl); (case hw => kernel_rfl); (case hr => intro w; exact run_or8 rfl (by kernel_rfl) (by kernel_rfl) KM.out hx6 hy8 KN.out w); simp only [Act.put, List.setIfInBounds_toArray, List.set_cons_succ, List.set_cons_zero]))
  refine (C3.out _ b2).mono ?_
  rintro e w3 ⟨rfl, b3, p3⟩
  replace p3 := gb_trans p2 p3.grown
  clear b2 p2 C3
  go_wp2_with fail
  refine (C4 w3).mono ?_
  rintro e w4 ⟨rfl, q4⟩
  go_wp2_with fail
  go_ret
  exact ⟨rfl, b3.under q4, gb_trans p3 (gb_under q4 _)⟩
/-- The three ways in which a text is too short. -/
def Short (l : List Nat) : Prop := l = [] ∨ (∃ x, l = [x]) ∨ ∃ x y r, l = x :: y :: r ∧ r.length < 256 * x + y
set_option maxRecDepth 100000 in
set_option maxHeartbeats 1000000 in
theorem text_dies {b : Nat} {l : List Nat} {w : World} (h : Wk b l w) (hy : Bytes l) (hm : l.length ≤ 1000000) (hs : Short l) :
    Calls Try.prog 33 #[.pointer (some ⟨b, 0, none⟩)] w fun e w' => Dies e ∧ w.grownBy w' (some b) := by
  rcases hs with rfl | ⟨x, rfl⟩ | ⟨x, y, r, rfl, hr⟩
  · have C1 := number_dies h
    go_enter Try.func33, Try.ntmps33
    go_wp2_with fail
    refine C1.mono ?_
    rintro e w1 ⟨hd, rfl⟩
    obtain rfl := hd
    exact ⟨rfl, rfl, gb_refl _ _⟩
  · have C1 := number_ok h (hy 0 x rfl) hy (by simp)
    have C2 := fun w2 (h2 : Wk b [] w2) => number_dies h2
    go_enter Try.func33, Try.ntmps33
    go_wp2_with fail
    refine C1.mono ?_
    rintro e w1 ⟨rfl, b1, p1⟩
    go_wp2_with fail
    refine (C2 _ b1).mono ?_
    rintro e w2 ⟨hd, rfl⟩
    obtain rfl := hd
    exact ⟨rfl, rfl, p1.grown⟩
  · have hx8 : x < 256 := hy 0 x rfl
    have hy8 : y < 256 := hy 1 y rfl
    have hr2 : Bytes (y :: r) := fun i z hz => hy (i + 1) z hz
    have hL : r.length + 2 ≤ 1000000 := by simpa using hm
    have C1 := number_ok h hx8 hy (by simp; omega)
    have C2 := fun w2 (h2 : Wk b (y :: r) w2) => number_ok h2 hy8 hr2 (by simp; omega)
    obtain ⟨n, hn⟩ : ∃ n, n = 256 * x + y := ⟨_, rfl⟩
    rw [← hn] at hr
    have C3 := fun w2 (h2 : Wk b r w2) => bytes_dies h2 hr
    obtain ⟨m, hM⟩ : ∃ m, m = x * 256 := ⟨_, rfl⟩
    have KM : Kept _ := ⟨hM⟩
    have KN : Kept _ := ⟨hn⟩
    have hx6 : x < 65536 := by omega
    clear hM hn hr hy hr2 hm hL h
    go_enter Try.func33, Try.ntmps33
    go_wp2_with fail
    refine C1.mono ?_
    rintro e w1 ⟨rfl, b1, p1⟩
    go_wp2_with fail
    refine (C2 _ b1).mono ?_
    rintro e w2 ⟨rfl, b2, p2⟩
    replace p2 := gb_trans p1.grown p2.grown
    clear b1 p1 C1 C2
    go_wp2_with (first | ((with_reducible refine wv_val (d := 11) ?hd ?hw (.int .i64 (m : Int)) ?hr ?_); (case hd => rfl); (case hw => kernel_rfl); (case hr => intro w; exact run_shl8 rfl (by kernel_rfl) KM.out hx6 w); simp only [Act.put, List.setIfInBounds_toArray, List.set_cons_succ, List.set_cons_zero]) | ((with_reducible refine wv_val (d := 13) ?hd ?hw (.int .i64 (n : Int)) ?hr ?_); (case hd => rfl); (case hw => kernel_rfl); (case hr => intro w; exact run_or8 rfl (by kernel_rfl) (by kernel_rfl) KM.out hx6 hy8 KN.out w); simp only [Act.put, List.setIfInBounds_toArray, List.set_cons_succ, List.set_cons_zero]))
    refine (C3 _ b2).mono ?_
    rintro e w3 ⟨hd, rfl⟩
    obtain rfl := hd
    exact ⟨rfl, rfl, p2⟩
end Go.Proofs.Ytfkpbmkhkhnehaa.sh
