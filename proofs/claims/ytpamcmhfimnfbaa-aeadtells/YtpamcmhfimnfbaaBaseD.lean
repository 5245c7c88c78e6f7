/-
  General pieces, joined: XQ W1 RM R1 R2 XR XS YA YB SHL SHN YC.
-/
import Derived.Test.YtpamcmhfimnfbaaBaseC
import Derived.Test.YtpamcmhfimnfbaaRows
import Derived.WalkKit
import Derived.WalkSpells
import Derived.WalkLawsBesides
import Derived.Laws.MathBits
import Derived.RegionTactic
import Derived.BigRegion
import Derived.Deep.QuietTactic
import Derived.BigQuiet
import Derived.Lib.AppendStr
/-
  The reference: a word turned, a word of bytes, a quarter.
-/
namespace Go.Proofs.Ytpamcmhfimnfbaa.sh
open Go Go.RowKit
set_option linter.unusedVariables false
set_option linter.unusedSimpArgs false

theorem run_mul32c {o : Oper} {a : Act} {x : Operand} {m z : Nat} (ho : o.op = .binOp .mul 38 x (.const (.int .u32 2)) 38) (hx : a.eval x = .int .u32 (m : Int)) (hz : z = m * 2 % 4294967296) (w : World) : (execOp a.eval o).run Try.prog w = .ok (.value (.int .u32 (z : Int))) w := by
  have e3 : a.eval (.const (.int .u32 2)) = .int .u32 2 := rfl
  unfold execOp
  simp only [ho, hx, e3]
  simp [go_sem, IntKind.wrap_u32']
  omega
theorem run_quo32c {o : Oper} {a : Act} {x : Operand} {m z : Nat} (c : Nat) (ho : o.op = .binOp .quo 38 x (.const (.int .u32 (c : Int))) 38) (hx : a.eval x = .int .u32 (m : Int)) (hc : 0 < c) (hm : m < 4294967296) (hz : z = m / c) (w : World) : (execOp a.eval o).run Try.prog w = .ok (.value (.int .u32 (z : Int))) w := by
  have e3 : a.eval (.const (.int .u32 (c : Int))) = .int .u32 (c : Int) := rfl
  have h3 : (m : Int).tdiv (c : Int) = (z : Int) := by rw [hz, Int.tdiv_eq_ediv_of_nonneg (by omega)]; rfl
  have h0 : ¬ (c : Int) = 0 := by omega
  have hz' : z < 4294967296 := by rw [hz]; exact Nat.lt_of_le_of_lt (Nat.div_le_self _ _) hm
  unfold execOp
  simp only [ho, hx, e3]
  simp [go_sem, h0, IntKind.wrap_u32']
  have h4 : (m : Int) / (c : Int) = (z : Int) := by rw [hz]; rfl
  rw [if_neg (by omega), h4, show ((z : Int) % 4294967296) = (z : Int) by omega]
theorem run_mulc32 {o : Oper} {a : Act} {x : Operand} {m z : Nat} (c : Nat) (ho : o.op = .binOp .mul 38 (.const (.int .u32 (c : Int))) x 38) (hx : a.eval x = .int .u32 (m : Int)) (hz : z = c * m % 4294967296) (w : World) : (execOp a.eval o).run Try.prog w = .ok (.value (.int .u32 (z : Int))) w := by
  have e3 : a.eval (.const (.int .u32 (c : Int))) = .int .u32 (c : Int) := rfl
  have h3 : ((c : Int) * (m : Int)) % 4294967296 = (z : Int) := by rw [hz, Int.natCast_emod, Int.natCast_mul]; rfl
  unfold execOp
  simp only [ho, hx, e3]
  simp [go_sem, IntKind.wrap_u32', h3]
set_option maxHeartbeats 400000 in
theorem rturn_any (x n : Nat) (w : World) (hx : x < 4294967296) (hn : n ≤ 16) :
    Calls Try.prog 53 #[.int .u32 (x : Int), .int .i64 (n : Int)] w fun e w' => e = .returned (.int .u32 (turnT x n : Nat)) ∧ w' = w := by
  have HX : Kept _ := ⟨hx⟩
  clear hx
  go_enter Try.func53, Try.ntmps53
  go_wp2_with fail
  go_loopg [5, 0] n (fun k s5 s0 wr => ∃ i y : Nat, i + k = n ∧ s5 = .int .i64 (i : Int) ∧ s0 = .int .u32 (y : Int) ∧ wr = w ∧ Kept (y = turnT x i))
  case atStart => exact ⟨0, x, by omega, rfl, rfl, rfl, ⟨rfl⟩⟩
  case round =>
    obtain ⟨i, y, hik, rfl, rfl, rfl, KX⟩ := hrel
    by_cases hi : i < n
    case pos =>
      have hi' : (i : Int) < (n : Int) := by omega
      obtain ⟨d, hd⟩ : ∃ d, d = y * 2 % 4294967296 := ⟨_, rfl⟩
      obtain ⟨q, hq⟩ : ∃ q, q = y / 2147483648 := ⟨_, rfl⟩
      obtain ⟨z, hz⟩ : ∃ z, z = (d + q) % 4294967296 := ⟨_, rfl⟩
      have Ly : y < 4294967296 := by rw [KX.out]; exact turnT_lt x i HX.out
      have EZ : Kept (z = turnT x (i + 1)) := ⟨by rw [hz, hd, hq, KX.out]; rfl⟩
      have Ed : Kept _ := ⟨hd⟩
      have Eq : Kept _ := ⟨hq⟩
      have Ez : Kept _ := ⟨hz⟩
      clear hd hq hz KX
      go_wp2_with (first | ((with_reducible refine wv_val (d := 12) ?hd ?hw (.int .u32 (d : Int)) ?hr ?_); (case hd => rfl); (case hw => kernel_rfl); (case hr => intro w; exact run_mul32c rfl (by kernel_rfl) Ed.out w); simp only [Act.put, List.setIfInBounds_toArray, List.set_cons_succ, List.set_cons_zero]) | ((with_reducible refine wv_val (d := 14) ?hd ?hw (.int .u32 (q : Int)) ?hr ?_); (case hd => rfl); (case hw => kernel_rfl); (case hr => intro w; exact run_quo32c 2147483648 rfl (by kernel_rfl) (by decide) Ly Eq.out w); simp only [Act.put, List.setIfInBounds_toArray, List.set_cons_succ, List.set_cons_zero]) | ((with_reducible refine wv_val (d := 15) ?hd ?hw (.int .u32 (z : Int)) ?hr ?_); (case hd => rfl); (case hw => kernel_rfl); (case hr => intro w; exact run_add32 rfl (by kernel_rfl) (by kernel_rfl) Ez.out w); simp only [Act.put, List.setIfInBounds_toArray, List.set_cons_succ, List.set_cons_zero]))
      go_roundg (gk - 1)
      case measure => omega
      case rel => exact ⟨i + 1, z, by omega, by simp, rfl, rfl, EZ⟩
    case neg =>
      have hi' : ¬ (i : Int) < (n : Int) := by omega
      obtain rfl : n = i := by omega
      have e : y = turnT x n := KX.out
      clear KX
      go_wp2_with fail
      go_ret
      exact ⟨rfl, rfl⟩
theorem rturn_at (x n z : Nat) (w : World) (hx : x < 4294967296) (hn : n ≤ 16) (hz : z = rotl x n) :
    Calls Try.prog 53 #[.int .u32 (x : Int), .int .i64 (n : Int)] w fun e w' => e = .returned (.int .u32 (z : Int)) ∧ w' = w := by
  rw [hz, ← turnT_rotl x n hx hn]
  exact rturn_any x n w hx hn
theorem cell_at {k : IntKind} {A : Addr} {n c : Nat} {w : World} {l : List Nat} (h : IntsV k (.slice (some A) n c) w l) {i x : Nat} (hx : l[i]? = some x) : w.cell? (A.add i) = some (.int k (x : Int)) := by
  obtain ⟨p', c', e1, _, e3⟩ := h
  cases e1
  obtain ⟨A', e4, _, e5⟩ := e3 (by intro e; rw [e] at hx; cases hx)
  cases e4
  exact e5 i x hx
theorem IntsV.under' {k : IntKind} {A : Addr} {n c : Nat} {w w' : World} {l : List Nat} (h : IntsV k (.slice (some A) n c) w l) (hl : l ≠ []) (hb : Below w.heap.size w w') : IntsV k (.slice (some A) n c) w' l := by
  refine h.below (fun b hb' => ?_) hb
  obtain ⟨p', c', e1, _, e3⟩ := h
  cases e1
  obtain ⟨A', e4, e5, _⟩ := e3 hl
  cases e4
  cases hb'
  exact e5
set_option maxRecDepth 100000 in
set_option maxHeartbeats 1000000 in
theorem rword_any (b : List Nat) (v : Value) (w : World) (hv : BytesV v w b) (hy : Bytes b) (hl : b.length = 4) :
    Calls Try.prog 43 #[v] w fun e w' => e = .returned (.int .u32 (part b 0 4 : Nat)) ∧ Below w.heap.size w w' := by
  match b, hl with
  | [x0, x1, x2, x3], _ =>
    obtain ⟨p, c, rfl, _, hp⟩ := hv
    obtain ⟨A, rfl, hA, hc⟩ := hp (by simp)
    have hcell : ∀ w', Below w.heap.size w w' → ∀ j, w'.cell? (A.add j) = w.cell? (A.add j) := fun w' hb j => hb.cell (by rw [add_block]; exact hA)
    have h0 : x0 < 256 := hy 0 x0 rfl
    have h1 : x1 < 256 := hy 1 x1 rfl
    have h2 : x2 < 256 := hy 2 x2 rfl
    have h3 : x3 < 256 := hy 3 x3 rfl
    have C0 : Kept (∀ w', Below w.heap.size w w' → w'.cell? (A.add 0) = some (.int .u8 (x0 : Int))) := ⟨fun w' hb => (hcell w' hb 0).trans (hc 0 x0 rfl)⟩
    have C1 : Kept (∀ w', Below w.heap.size w w' → w'.cell? (A.add 1) = some (.int .u8 (x1 : Int))) := ⟨fun w' hb => (hcell w' hb 1).trans (hc 1 x1 rfl)⟩
    have C2 : Kept (∀ w', Below w.heap.size w w' → w'.cell? (A.add 2) = some (.int .u8 (x2 : Int))) := ⟨fun w' hb => (hcell w' hb 2).trans (hc 2 x2 rfl)⟩
    have C3 : Kept (∀ w', Below w.heap.size w w' → w'.cell? (A.add 3) = some (.int .u8 (x3 : Int))) := ⟨fun w' hb => (hcell w' hb 3).trans (hc 3 x3 rfl)⟩
    obtain ⟨y1, e1⟩ : ∃ y, y = 256 * x1 % 4294967296 := ⟨_, rfl⟩
    obtain ⟨y2, e2⟩ : ∃ y, y = 65536 * x2 % 4294967296 := ⟨_, rfl⟩
    obtain ⟨y3, e3⟩ : ∃ y, y = 16777216 * x3 % 4294967296 := ⟨_, rfl⟩
    obtain ⟨s1, t1⟩ : ∃ y, y = (x0 + y1) % 4294967296 := ⟨_, rfl⟩
    obtain ⟨s2, t2⟩ : ∃ y, y = (s1 + y2) % 4294967296 := ⟨_, rfl⟩
    obtain ⟨s3, t3⟩ : ∃ y, y = (s2 + y3) % 4294967296 := ⟨_, rfl⟩
    have E1 : Kept _ := ⟨e1⟩
    have E2 : Kept _ := ⟨e2⟩
    have E3 : Kept _ := ⟨e3⟩
    have T1 : Kept _ := ⟨t1⟩
    have T2 : Kept _ := ⟨t2⟩
    have T3 : Kept _ := ⟨t3⟩
    have ER : Kept (s3 = part [x0, x1, x2, x3] 0 4) := ⟨by
      show s3 = 0 + x0 * 256 ^ 0 + x1 * 256 ^ 1 + x2 * 256 ^ 2 + x3 * 256 ^ 3
      simp only [Nat.reducePow]
      omega⟩
    rw [← ER.out]
    clear e1 e2 e3 t1 t2 t3 hc hcell hp hy ER
    go_enter Try.func43, Try.ntmps43
    go_wp2_with fail
    refine region_ownL w 22 [(3, .slice (some A) 4 c), (4, .pointer (some (A.add 0))), (5, .int .u8 (x0 : Int)), (6, .int .u32 (x0 : Int)), (7, .slice (some A) 4 c), (8, .pointer (some (A.add 1))), (9, .int .u8 (x1 : Int)), (10, .int .u32 (x1 : Int)), (11, .int .u32 (y1 : Int)), (12, .int .u32 (s1 : Int)), (13, .slice (some A) 4 c), (14, .pointer (some (A.add 2))), (15, .int .u8 (x2 : Int)), (16, .int .u32 (x2 : Int)), (17, .int .u32 (y2 : Int)), (18, .int .u32 (s2 : Int)), (19, .slice (some A) 4 c), (20, .pointer (some (A.add 3))), (21, .int .u8 (x3 : Int)), (22, .int .u32 (x3 : Int)), (23, .int .u32 (y3 : Int)), (24, .int .u32 (s3 : Int))] [] [] [] rfl (by kernel_rfl) (by kernel_rfl) (by kernel_rfl) (by kernel_rfl) (by kernel_rfl) (by kernel_rfl) (by kernel_rfl) (by kernel_rfl) (by kernel_rfl) (by kernel_rfl) (by kernel_rfl) ?hst1 ?hst2 (Below.refl _ _) (fun hA => ⟨ow_val hA (wants_none rfl) 3 (.slice (some A) 4 c) (by kernel_rfl) rfl rfl rfl rfl (by kernel_rfl) (fun w => by kernel_rfl), ow_val hA (wants_none rfl) 4 (.pointer (some (A.add 0))) (by kernel_rfl) rfl rfl rfl rfl (by kernel_rfl) (fun w => run_idxS (A := A) (i := 0) (l := 4) (c := c) rfl (by kernel_rfl) (by kernel_rfl) Try.underlying24 (by decide) sz_u8 w), ow_elem hA (wants_none rfl) 5 (.int .u8 (x0 : Int)) (by kernel_rfl) rfl rfl rfl rfl (by kernel_rfl) 5 ag_u8 (.tmp 4) rfl (A.add 0) (by kernel_rfl) (fun w1 hb => C0.out w1 hb), ow_val hA (wants_none rfl) 6 (.int .u32 (x0 : Int)) (by kernel_rfl) rfl rfl rfl rfl (by kernel_rfl) (fun w => run_c832 rfl (by kernel_rfl) h0 w), ow_val hA (wants_none rfl) 7 (.slice (some A) 4 c) (by kernel_rfl) rfl rfl rfl rfl (by kernel_rfl) (fun w => by kernel_rfl), ow_val hA (wants_none rfl) 8 (.pointer (some (A.add 1))) (by kernel_rfl) rfl rfl rfl rfl (by kernel_rfl) (fun w => run_idxS (A := A) (i := 1) (l := 4) (c := c) rfl (by kernel_rfl) (by kernel_rfl) Try.underlying24 (by decide) sz_u8 w), ow_elem hA (wants_none rfl) 9 (.int .u8 (x1 : Int)) (by kernel_rfl) rfl rfl rfl rfl (by kernel_rfl) 5 ag_u8 (.tmp 8) rfl (A.add 1) (by kernel_rfl) (fun w1 hb => C1.out w1 hb), ow_val hA (wants_none rfl) 10 (.int .u32 (x1 : Int)) (by kernel_rfl) rfl rfl rfl rfl (by kernel_rfl) (fun w => run_c832 rfl (by kernel_rfl) h1 w), ow_val hA (wants_none rfl) 11 (.int .u32 (y1 : Int)) (by kernel_rfl) rfl rfl rfl rfl (by kernel_rfl) (fun w => run_mulc32 256 rfl (by kernel_rfl) E1.out w), ow_val hA (wants_none rfl) 12 (.int .u32 (s1 : Int)) (by kernel_rfl) rfl rfl rfl rfl (by kernel_rfl) (fun w => run_add32 rfl (by kernel_rfl) (by kernel_rfl) T1.out w), ow_val hA (wants_none rfl) 13 (.slice (some A) 4 c) (by kernel_rfl) rfl rfl rfl rfl (by kernel_rfl) (fun w => by kernel_rfl), ow_val hA (wants_none rfl) 14 (.pointer (some (A.add 2))) (by kernel_rfl) rfl rfl rfl rfl (by kernel_rfl) (fun w => run_idxS (A := A) (i := 2) (l := 4) (c := c) rfl (by kernel_rfl) (by kernel_rfl) Try.underlying24 (by decide) sz_u8 w), ow_elem hA (wants_none rfl) 15 (.int .u8 (x2 : Int)) (by kernel_rfl) rfl rfl rfl rfl (by kernel_rfl) 5 ag_u8 (.tmp 14) rfl (A.add 2) (by kernel_rfl) (fun w1 hb => C2.out w1 hb), ow_val hA (wants_none rfl) 16 (.int .u32 (x2 : Int)) (by kernel_rfl) rfl rfl rfl rfl (by kernel_rfl) (fun w => run_c832 rfl (by kernel_rfl) h2 w), ow_val hA (wants_none rfl) 17 (.int .u32 (y2 : Int)) (by kernel_rfl) rfl rfl rfl rfl (by kernel_rfl) (fun w => run_mulc32 65536 rfl (by kernel_rfl) E2.out w), ow_val hA (wants_none rfl) 18 (.int .u32 (s2 : Int)) (by kernel_rfl) rfl rfl rfl rfl (by kernel_rfl) (fun w => run_add32 rfl (by kernel_rfl) (by kernel_rfl) T2.out w), ow_val hA (wants_none rfl) 19 (.slice (some A) 4 c) (by kernel_rfl) rfl rfl rfl rfl (by kernel_rfl) (fun w => by kernel_rfl), ow_val hA (wants_none rfl) 20 (.pointer (some (A.add 3))) (by kernel_rfl) rfl rfl rfl rfl (by kernel_rfl) (fun w => run_idxS (A := A) (i := 3) (l := 4) (c := c) rfl (by kernel_rfl) (by kernel_rfl) Try.underlying24 (by decide) sz_u8 w), ow_elem hA (wants_none rfl) 21 (.int .u8 (x3 : Int)) (by kernel_rfl) rfl rfl rfl rfl (by kernel_rfl) 5 ag_u8 (.tmp 20) rfl (A.add 3) (by kernel_rfl) (fun w1 hb => C3.out w1 hb), ow_val hA (wants_none rfl) 22 (.int .u32 (x3 : Int)) (by kernel_rfl) rfl rfl rfl rfl (by kernel_rfl) (fun w => run_c832 rfl (by kernel_rfl) h3 w), ow_val hA (wants_none rfl) 23 (.int .u32 (y3 : Int)) (by kernel_rfl) rfl rfl rfl rfl (by kernel_rfl) (fun w => run_mulc32 16777216 rfl (by kernel_rfl) E3.out w), ow_val hA (wants_none rfl) 24 (.int .u32 (s3 : Int)) (by kernel_rfl) rfl rfl rfl rfl (by kernel_rfl) (fun w => run_add32 rfl (by kernel_rfl) (by kernel_rfl) T3.out w), trivial⟩) ?_
    case hst1 => intro q hq; cases hq
    case hst2 => intro q hq; cases hq
    intro fv w7 hf hD hb7
    simp only [putR, List.foldl_cons, List.foldl_nil, List.map_cons, List.map_nil, Act.put, List.setIfInBounds_toArray, List.set_cons_succ, List.set_cons_zero]
    clear hf hD C0 C1 C2 C3
    go_wp2_with fail
    go_ret
    exact ⟨rfl, hb7⟩
theorem row_emp32 {base : Nat} (w : World) (hb : base ≤ w.heap.size) : Row base 38 .u32 [] (.slice (some ⟨w.heap.size, 0, none⟩) 0 0) (w.alloc (.cells #[] 38)) := World.ownsRow_lit w #[] 0 hb (by unfold maxLen; omega) rfl
theorem run_idx0 {o : Oper} {a : Act} {x y : Operand} {i l c g : Nat} {t e : TypeId} (ho : o.op = .indexAddr t x y) (hx : a.eval x = .slice (some ⟨g, 0, none⟩) l c) (hy : a.eval y = .int .i64 (i : Int)) (ht : Try.prog.underlying t = some (.slice e)) (hi : i < l) (sz : ∀ w, (sizeOf e).run Try.prog w = .ok 1 w) (w : World) : (execOp a.eval o).run Try.prog w = .ok (.value (.pointer (some ⟨g, i, none⟩))) w := by
  have h := run_idxS ho hx hy ht hi sz w
  rw [addr_add, Nat.zero_add] at h
  exact h
set_option maxRecDepth 100000 in
set_option maxHeartbeats 2000000 in
theorem rquarter_any (W : List Nat) (v : Value) (i0 i1 i2 i3 : Nat) (w : World) (hv : IntsV .u32 v w W) (hW : Ws W) (l0 : i0 < 16) (l1 : i1 < 16) (l2 : i2 < 16) (l3 : i3 < 16) :
    Calls Try.prog 44 #[v, .int .i64 (i0 : Int), .int .i64 (i1 : Int), .int .i64 (i2 : Int), .int .i64 (i3 : Int)] w fun e w' => ∃ v, e = .returned v ∧ Row w.heap.size 38 .u32 (qL W i0 i1 i2 i3) v w' ∧ Below w.heap.size w w' := by
  have KV : Kept _ := ⟨hv⟩
  have LW : Kept (W.length = 16) := ⟨hW.len⟩
  have NW : Kept (W ≠ []) := ⟨fun e => by have := hW.len; rw [e] at this; cases this⟩
  obtain ⟨p, cp, rfl, _, hp⟩ := hv
  obtain ⟨A, rfl, hA, _⟩ := hp NW.out
  rw [hW.len] at KV ⊢
  obtain ⟨a, ha⟩ : ∃ x, x = W.getD i0 0 := ⟨_, rfl⟩
  obtain ⟨b, hb⟩ : ∃ x, x = W.getD i1 0 := ⟨_, rfl⟩
  obtain ⟨c, hc⟩ : ∃ x, x = W.getD i2 0 := ⟨_, rfl⟩
  obtain ⟨d, hd⟩ : ∃ x, x = W.getD i3 0 := ⟨_, rfl⟩
  have h : Four a b c d := by rw [ha, hb, hc, hd]; exact hW.four i0 i1 i2 i3
  have C0 : Kept (∀ w', Below w.heap.size w w' → w'.cell? (A.add i0) = some (.int .u32 (a : Int))) := ⟨fun w' hb => cell_at (KV.out.under' NW.out hb) (by rw [ha]; exact hW.get i0 l0)⟩
  have C1 : Kept (∀ w', Below w.heap.size w w' → w'.cell? (A.add i1) = some (.int .u32 (b : Int))) := ⟨fun w' hb' => cell_at (KV.out.under' NW.out hb') (by rw [hb]; exact hW.get i1 l1)⟩
  have C2 : Kept (∀ w', Below w.heap.size w w' → w'.cell? (A.add i2) = some (.int .u32 (c : Int))) := ⟨fun w' hb => cell_at (KV.out.under' NW.out hb) (by rw [hc]; exact hW.get i2 l2)⟩
  have C3 : Kept (∀ w', Below w.heap.size w w' → w'.cell? (A.add i3) = some (.int .u32 (d : Int))) := ⟨fun w' hb => cell_at (KV.out.under' NW.out hb) (by rw [hd]; exact hW.get i3 l3)⟩
  have F0 : Kept _ := ⟨h⟩
  have F1 : Kept _ := ⟨four_q h⟩
  have F2 : Kept _ := ⟨four_q2 h⟩
  obtain ⟨a1, ha1⟩ : ∃ z, z = qa a b c d := ⟨_, rfl⟩
  obtain ⟨b1, hb1⟩ : ∃ z, z = qb a b c d := ⟨_, rfl⟩
  obtain ⟨c1, hc1⟩ : ∃ z, z = qc a b c d := ⟨_, rfl⟩
  obtain ⟨d1, hd1⟩ : ∃ z, z = qd a b c d := ⟨_, rfl⟩
  obtain ⟨a2, ha2⟩ : ∃ z, z = qa2 a b c d := ⟨_, rfl⟩
  obtain ⟨b2, hb2⟩ : ∃ z, z = qb2 a b c d := ⟨_, rfl⟩
  obtain ⟨c2, hc2⟩ : ∃ z, z = qc2 a b c d := ⟨_, rfl⟩
  obtain ⟨d2, hd2⟩ : ∃ z, z = qd2 a b c d := ⟨_, rfl⟩
  have EQ : Kept ((((W.set i0 a2).set i1 b2).set i2 c2).set i3 d2 = qL W i0 i1 i2 i3) := ⟨by rw [ha2, hb2, hc2, hd2, ha, hb, hc, hd]; rfl⟩
  have Ea : Kept (a1 = (a + b) % 4294967296) := ⟨ha1⟩
  have Ed : Kept (d1 = rotl (d ^^^ a1) 16) := ⟨by rw [hd1, ha1]; rfl⟩
  have Ec : Kept (c1 = (c + d1) % 4294967296) := ⟨by rw [hc1, hd1]; rfl⟩
  have Eb : Kept (b1 = rotl (b ^^^ c1) 12) := ⟨by rw [hb1, hc1]; rfl⟩
  have Ea2 : Kept (a2 = (a1 + b1) % 4294967296) := ⟨by rw [ha2, ha1, hb1]; rfl⟩
  have Ed2 : Kept (d2 = rotl (d1 ^^^ a2) 8) := ⟨by rw [hd2, hd1, ha2]; rfl⟩
  have Ec2 : Kept (c2 = (c1 + d2) % 4294967296) := ⟨by rw [hc2, hc1, hd2]; rfl⟩
  have Eb2 : Kept (b2 = rotl (b1 ^^^ c2) 7) := ⟨by rw [hb2, hb1, hc2]; rfl⟩
  rw [← ha1, ← hb1, ← hc1, ← hd1] at F1
  rw [← ha2, ← hb2, ← hc2, ← hd2] at F2
  rw [← EQ.out]
  obtain ⟨x1, hx1⟩ : ∃ z, z = d ^^^ a1 := ⟨_, rfl⟩
  obtain ⟨x2, hx2⟩ : ∃ z, z = b ^^^ c1 := ⟨_, rfl⟩
  obtain ⟨x3, hx3⟩ : ∃ z, z = d1 ^^^ a2 := ⟨_, rfl⟩
  obtain ⟨x4, hx4⟩ : ∃ z, z = b1 ^^^ c2 := ⟨_, rfl⟩
  have X1 : Kept _ := ⟨hx1⟩
  have X2 : Kept _ := ⟨hx2⟩
  have X3 : Kept _ := ⟨hx3⟩
  have X4 : Kept _ := ⟨hx4⟩
  rw [← hx1] at Ed
  rw [← hx2] at Eb
  rw [← hx3] at Ed2
  rw [← hx4] at Eb2
  have L1 : Kept (x1 < 4294967296) := ⟨by rw [hx1]; exact xor_lt32 F0.out.d F1.out.a⟩
  have L2 : Kept (x2 < 4294967296) := ⟨by rw [hx2]; exact xor_lt32 F0.out.b F1.out.c⟩
  have L3 : Kept (x3 < 4294967296) := ⟨by rw [hx3]; exact xor_lt32 F1.out.d F2.out.a⟩
  have L4 : Kept (x4 < 4294967296) := ⟨by rw [hx4]; exact xor_lt32 F1.out.b F2.out.c⟩
  clear h ha hb hc hd ha1 hb1 hc1 hd1 ha2 hb2 hc2 hd2 hx1 hx2 hx3 hx4 hW hp EQ
  go_enter Try.func44, Try.ntmps44
  go_wp2_with fail
  refine region_ownL w 20 [(16, .slice (some A) 16 cp), (17, .int .i64 (i0 : Int)), (18, .pointer (some (A.add i0))), (19, .int .u32 (a : Int)), (20, .slice (some A) 16 cp), (21, .int .i64 (i1 : Int)), (22, .pointer (some (A.add i1))), (23, .int .u32 (b : Int)), (24, .slice (some A) 16 cp), (25, .int .i64 (i2 : Int)), (26, .pointer (some (A.add i2))), (27, .int .u32 (c : Int)), (28, .slice (some A) 16 cp), (29, .int .i64 (i3 : Int)), (30, .pointer (some (A.add i3))), (31, .int .u32 (d : Int)), (11, .int .u32 (a : Int)), (12, .int .u32 (b : Int)), (13, .int .u32 (c : Int)), (14, .int .u32 (d : Int))] [] [] [] rfl (by kernel_rfl) (by kernel_rfl) (by kernel_rfl) (by kernel_rfl) (by kernel_rfl) (by kernel_rfl) (by kernel_rfl) (by kernel_rfl) (by kernel_rfl) (by kernel_rfl) (by kernel_rfl) ?hst1 ?hst2 (Below.refl _ _) (fun hA => ⟨ow_val hA (wants_none rfl) 16 (.slice (some A) 16 cp) (by kernel_rfl) rfl rfl rfl rfl (by kernel_rfl) (fun w => by kernel_rfl), ow_val hA (wants_none rfl) 17 (.int .i64 (i0 : Int)) (by kernel_rfl) rfl rfl rfl rfl (by kernel_rfl) (fun w => by kernel_rfl), ow_val hA (wants_none rfl) 18 (.pointer (some (A.add i0))) (by kernel_rfl) rfl rfl rfl rfl (by kernel_rfl) (fun w => run_idxS (A := A) (i := i0) (l := 16) (c := cp) rfl (by kernel_rfl) (by kernel_rfl) Try.underlying75 l0 sz_u32 w), ow_elem hA (wants_none rfl) 19 (.int .u32 (a : Int)) (by kernel_rfl) rfl rfl rfl rfl (by kernel_rfl) 38 ag_u32 (.tmp 18) rfl (A.add i0) (by kernel_rfl) (fun w1 hb => C0.out w1 hb), ow_val hA (wants_none rfl) 20 (.slice (some A) 16 cp) (by kernel_rfl) rfl rfl rfl rfl (by kernel_rfl) (fun w => by kernel_rfl), ow_val hA (wants_none rfl) 21 (.int .i64 (i1 : Int)) (by kernel_rfl) rfl rfl rfl rfl (by kernel_rfl) (fun w => by kernel_rfl), ow_val hA (wants_none rfl) 22 (.pointer (some (A.add i1))) (by kernel_rfl) rfl rfl rfl rfl (by kernel_rfl) (fun w => run_idxS (A := A) (i := i1) (l := 16) (c := cp) rfl (by kernel_rfl) (by kernel_rfl) Try.underlying75 l1 sz_u32 w), ow_elem hA (wants_none rfl) 23 (.int .u32 (b : Int)) (by kernel_rfl) rfl rfl rfl rfl (by kernel_rfl) 38 ag_u32 (.tmp 22) rfl (A.add i1) (by kernel_rfl) (fun w1 hb => C1.out w1 hb), ow_val hA (wants_none rfl) 24 (.slice (some A) 16 cp) (by kernel_rfl) rfl rfl rfl rfl (by kernel_rfl) (fun w => by kernel_rfl), ow_val hA (wants_none rfl) 25 (.int .i64 (i2 : Int)) (by kernel_rfl) rfl rfl rfl rfl (by kernel_rfl) (fun w => by kernel_rfl), ow_val hA (wants_none rfl) 26 (.pointer (some (A.add i2))) (by kernel_rfl) rfl rfl rfl rfl (by kernel_rfl) (fun w => run_idxS (A := A) (i := i2) (l := 16) (c := cp) rfl (by kernel_rfl) (by kernel_rfl) Try.underlying75 l2 sz_u32 w), ow_elem hA (wants_none rfl) 27 (.int .u32 (c : Int)) (by kernel_rfl) rfl rfl rfl rfl (by kernel_rfl) 38 ag_u32 (.tmp 26) rfl (A.add i2) (by kernel_rfl) (fun w1 hb => C2.out w1 hb), ow_val hA (wants_none rfl) 28 (.slice (some A) 16 cp) (by kernel_rfl) rfl rfl rfl rfl (by kernel_rfl) (fun w => by kernel_rfl), ow_val hA (wants_none rfl) 29 (.int .i64 (i3 : Int)) (by kernel_rfl) rfl rfl rfl rfl (by kernel_rfl) (fun w => by kernel_rfl), ow_val hA (wants_none rfl) 30 (.pointer (some (A.add i3))) (by kernel_rfl) rfl rfl rfl rfl (by kernel_rfl) (fun w => run_idxS (A := A) (i := i3) (l := 16) (c := cp) rfl (by kernel_rfl) (by kernel_rfl) Try.underlying75 l3 sz_u32 w), ow_elem hA (wants_none rfl) 31 (.int .u32 (d : Int)) (by kernel_rfl) rfl rfl rfl rfl (by kernel_rfl) 38 ag_u32 (.tmp 30) rfl (A.add i3) (by kernel_rfl) (fun w1 hb => C3.out w1 hb), ow_val hA (wants_none rfl) 11 (.int .u32 (a : Int)) (by kernel_rfl) rfl rfl rfl rfl (by kernel_rfl) (fun w => by kernel_rfl), ow_val hA (wants_none rfl) 12 (.int .u32 (b : Int)) (by kernel_rfl) rfl rfl rfl rfl (by kernel_rfl) (fun w => by kernel_rfl), ow_val hA (wants_none rfl) 13 (.int .u32 (c : Int)) (by kernel_rfl) rfl rfl rfl rfl (by kernel_rfl) (fun w => by kernel_rfl), ow_val hA (wants_none rfl) 14 (.int .u32 (d : Int)) (by kernel_rfl) rfl rfl rfl rfl (by kernel_rfl) (fun w => by kernel_rfl), trivial⟩) ?_
  case hst1 => intro q hq; cases hq
  case hst2 => intro q hq; cases hq
  intro fv w1 hf hD hb1
  simp only [putR, List.foldl_cons, List.foldl_nil, List.map_cons, List.map_nil, Act.put, List.setIfInBounds_toArray, List.set_cons_succ, List.set_cons_zero]
  clear hf hD C0 C1 C2 C3
  have KV1 : Kept _ := ⟨KV.out.under' NW.out hb1⟩
  clear KV
  refine (show wpList _ _ _ [] _ _ from ?_)
  refine wpList_nil ?_
  go_wp2_with (first | ((with_reducible refine wv_val (d := 34) ?hd ?hw (.int .u32 (a1 : Int)) ?hr ?_); (case hd => rfl); (case hw => kernel_rfl); (case hr => intro w; exact run_add32 rfl (by kernel_rfl) (by kernel_rfl) Ea.out w); simp only [Act.put, List.setIfInBounds_toArray, List.set_cons_succ, List.set_cons_zero]) | ((with_reducible refine wv_val (d := 37) ?hd ?hw (.int .u32 (x1 : Int)) ?hr ?_); (case hd => rfl); (case hw => kernel_rfl); (case hr => intro w; exact run_xor32 rfl (by kernel_rfl) (by kernel_rfl) F0.out.d F1.out.a X1.out w); simp only [Act.put, List.setIfInBounds_toArray, List.set_cons_succ, List.set_cons_zero]))
  refine (rturn_at x1 16 d1 w1 L1.out (by decide) Ed.out).mono ?_
  rintro e w' ⟨rfl, hw'⟩
  obtain rfl := hw'.symm
  clear hw'
  go_wp2_with (first | ((with_reducible refine wv_val (d := 41) ?hd ?hw (.int .u32 (c1 : Int)) ?hr ?_); (case hd => rfl); (case hw => kernel_rfl); (case hr => intro w; exact run_add32 rfl (by kernel_rfl) (by kernel_rfl) Ec.out w); simp only [Act.put, List.setIfInBounds_toArray, List.set_cons_succ, List.set_cons_zero]) | ((with_reducible refine wv_val (d := 44) ?hd ?hw (.int .u32 (x2 : Int)) ?hr ?_); (case hd => rfl); (case hw => kernel_rfl); (case hr => intro w; exact run_xor32 rfl (by kernel_rfl) (by kernel_rfl) F0.out.b F1.out.c X2.out w); simp only [Act.put, List.setIfInBounds_toArray, List.set_cons_succ, List.set_cons_zero]))
  refine (rturn_at x2 12 b1 w1 L2.out (by decide) Eb.out).mono ?_
  rintro e w' ⟨rfl, hw'⟩
  obtain rfl := hw'.symm
  clear hw'
  go_wp2_with (first | ((with_reducible refine wv_val (d := 48) ?hd ?hw (.int .u32 (a2 : Int)) ?hr ?_); (case hd => rfl); (case hw => kernel_rfl); (case hr => intro w; exact run_add32 rfl (by kernel_rfl) (by kernel_rfl) Ea2.out w); simp only [Act.put, List.setIfInBounds_toArray, List.set_cons_succ, List.set_cons_zero]) | ((with_reducible refine wv_val (d := 51) ?hd ?hw (.int .u32 (x3 : Int)) ?hr ?_); (case hd => rfl); (case hw => kernel_rfl); (case hr => intro w; exact run_xor32 rfl (by kernel_rfl) (by kernel_rfl) F1.out.d F2.out.a X3.out w); simp only [Act.put, List.setIfInBounds_toArray, List.set_cons_succ, List.set_cons_zero]))
  refine (rturn_at x3 8 d2 w1 L3.out (by decide) Ed2.out).mono ?_
  rintro e w' ⟨rfl, hw'⟩
  obtain rfl := hw'.symm
  clear hw'
  go_wp2_with (first | ((with_reducible refine wv_val (d := 55) ?hd ?hw (.int .u32 (c2 : Int)) ?hr ?_); (case hd => rfl); (case hw => kernel_rfl); (case hr => intro w; exact run_add32 rfl (by kernel_rfl) (by kernel_rfl) Ec2.out w); simp only [Act.put, List.setIfInBounds_toArray, List.set_cons_succ, List.set_cons_zero]) | ((with_reducible refine wv_val (d := 58) ?hd ?hw (.int .u32 (x4 : Int)) ?hr ?_); (case hd => rfl); (case hw => kernel_rfl); (case hr => intro w; exact run_xor32 rfl (by kernel_rfl) (by kernel_rfl) F1.out.b F2.out.c X4.out w); simp only [Act.put, List.setIfInBounds_toArray, List.set_cons_succ, List.set_cons_zero]))
  refine (rturn_at x4 7 b2 w1 L4.out (by decide) Eb2.out).mono ?_
  rintro e w' ⟨rfl, hw'⟩
  obtain rfl := hw'.symm
  clear hw'
  have RE : Kept (Row w.heap.size 38 .u32 [] (.slice (some ⟨w1.heap.size, 0, none⟩) 0 0) (w1.alloc (.cells #[] 38))) := ⟨row_emp32 w1 hb1.size⟩
  have QE := hb1.alloc hb1.size (.cells #[] 38)
  have KV2 : Kept (IntsV .u32 (.slice (some A) 16 cp) (w1.alloc (.cells #[] 38)) W) := ⟨KV1.out.under' NW.out ((Below.refl _ _).alloc (Nat.le_refl _) _)⟩
  clear KV1 Ea Eb Ec Ed Ea2 Eb2 Ec2 Ed2 X1 X2 X3 X4 L1 L2 L3 L4 F0 F1 F2
  go_wp2_with (first | (refine wl_app (by kernel_rfl) (.tmp 60) (.tmp 61) 75 38 .u32 4 rfl Try.underlying75 inf_u32 (by decide) w.heap.size [] W _ _ rfl rfl RE.out KV2.out (by rw [LW.out]; decide) QE.size ?_))
  intro v' w2 hrow hgr hblk
  have H0 := QE.trans (grown_mono hgr QE.size (fun b hb => by cases hb; exact hb1.size))
  obtain ⟨g, cap, cur, rfl, hbg, hcur, hsz, _⟩ := hrow.form (by rw [LW.out]; decide)
  rw [LW.out] at hsz
  have SC : Kept (16 ≤ cur.size) := ⟨hsz⟩
  have hl4 : Kept ((((W.set i0 a2).set i1 b2).set i2 c2).set i3 d2 = (((W.set i0 a2).set i1 b2).set i2 c2).set i3 d2) := ⟨rfl⟩
  have R' : w2.ownsRow w.heap.size 38 1 (.slice (some ⟨g, 0, none⟩) W.length cap) W.length (ints .u32 W).toList := hrow
  have B' := hcur
  rw [LW.out] at R' ⊢
  rw [← LW.out] at R'
  clear hrow hgr hblk hb1 QE KV2 RE hsz hcur
  have R'' : w2.ownsRow w.heap.size 38 1 (.slice (some ⟨g, 0, none⟩) 16 cap) W.length (ints .u32 W).toList := by rw [LW.out] at R' ⊢; exact R'
  clear R'
  have R' := R''
  clear R''
  go_wp2_with (first | ((with_reducible refine wv_val (d := 66) ?hd ?hw (.pointer (some ⟨g, i0, none⟩)) ?hr ?_); (case hd => rfl); (case hw => kernel_rfl); (case hr => intro w; exact run_idx0 rfl (by kernel_rfl) (by kernel_rfl) Try.underlying75 l0 sz_u32 w); simp only [Act.put, List.setIfInBounds_toArray, List.set_cons_succ, List.set_cons_zero]) | (refine wl_setElem rfl 38 sz_u32 (.tmp 66) (.tmp 65) rfl g i0 .u32 (a2 : Int) rfl rfl _ B' (by (try simp only [Array.size_setIfInBounds]); exact Nat.lt_of_lt_of_le l0 SC.out) ?_))
  intro w3 B0 P0
  have R0 := row_set R' B' i0 a2 B0
  have HH0 := H0.trans (P0.below hbg)
  clear R' B' P0 H0
  have R' := R0
  clear R0

  go_wp2_with (first | ((with_reducible refine wv_val (d := 70) ?hd ?hw (.pointer (some ⟨g, i1, none⟩)) ?hr ?_); (case hd => rfl); (case hw => kernel_rfl); (case hr => intro w; exact run_idx0 rfl (by kernel_rfl) (by kernel_rfl) Try.underlying75 l1 sz_u32 w); simp only [Act.put, List.setIfInBounds_toArray, List.set_cons_succ, List.set_cons_zero]) | (refine wl_setElem rfl 38 sz_u32 (.tmp 70) (.tmp 69) rfl g i1 .u32 (b2 : Int) rfl rfl _ B0 (by (try simp only [Array.size_setIfInBounds]); exact Nat.lt_of_lt_of_le l1 SC.out) ?_))
  intro w4 B1 P1
  have R1 := row_set R' B0 i1 b2 B1
  have H1 := HH0.trans (P1.below hbg)
  clear R' B0 P1 HH0
  have R' := R1
  clear R1

  go_wp2_with (first | ((with_reducible refine wv_val (d := 74) ?hd ?hw (.pointer (some ⟨g, i2, none⟩)) ?hr ?_); (case hd => rfl); (case hw => kernel_rfl); (case hr => intro w; exact run_idx0 rfl (by kernel_rfl) (by kernel_rfl) Try.underlying75 l2 sz_u32 w); simp only [Act.put, List.setIfInBounds_toArray, List.set_cons_succ, List.set_cons_zero]) | (refine wl_setElem rfl 38 sz_u32 (.tmp 74) (.tmp 73) rfl g i2 .u32 (c2 : Int) rfl rfl _ B1 (by (try simp only [Array.size_setIfInBounds]); exact Nat.lt_of_lt_of_le l2 SC.out) ?_))
  intro w5 B2 P2
  have R2 := row_set R' B1 i2 c2 B2
  have H2 := H1.trans (P2.below hbg)
  clear R' B1 P2 H1
  have R' := R2
  clear R2

  go_wp2_with (first | ((with_reducible refine wv_val (d := 78) ?hd ?hw (.pointer (some ⟨g, i3, none⟩)) ?hr ?_); (case hd => rfl); (case hw => kernel_rfl); (case hr => intro w; exact run_idx0 rfl (by kernel_rfl) (by kernel_rfl) Try.underlying75 l3 sz_u32 w); simp only [Act.put, List.setIfInBounds_toArray, List.set_cons_succ, List.set_cons_zero]) | (refine wl_setElem rfl 38 sz_u32 (.tmp 78) (.tmp 77) rfl g i3 .u32 (d2 : Int) rfl rfl _ B2 (by (try simp only [Array.size_setIfInBounds]); exact Nat.lt_of_lt_of_le l3 SC.out) ?_))
  intro w6 B3 P3
  have R3 := row_set R' B2 i3 d2 B3
  have H3 := H2.trans (P3.below hbg)
  clear R' B2 P3 H2
  have R' := R3
  clear R3

  go_wp2_with fail
  go_ret
  exact ⟨_, rfl, R', H3⟩
end Go.Proofs.Ytpamcmhfimnfbaa.sh
/-
  What the small functions of package limb do: products of words, sums of four words, eight bytes as a word.
-/
namespace Go.Proofs.Ytpamcmhfimnfbaa
open Go.RowKit

theorem call_add64 (x y c : Nat) (hc : c ≤ 1) : ∃ lo hi : Nat, (∀ w, (callFunc 50 #[.int .u64 (x : Int), .int .u64 (y : Int), .int .u64 (c : Int)]).run Try.prog w = .ok (.value (.tuple #[.int .u64 (lo : Int), .int .u64 (hi : Int)])) w) ∧
    Hid (lo < 18446744073709551616 ∧ lo + 18446744073709551616 * hi = x + y + c) := by
  refine ⟨(x + y + c) % 18446744073709551616, (x + y + c) / 18446744073709551616, fun w => ?_, ?_⟩
  · rw [run_callFunc_extern Try.func50 (by kernel_rfl) (by kernel_rfl) (by kernel_rfl) (e := add64Entry) (by kernel_rfl), run_add64 x y c (by omega) (by omega) (by omega) (by omega)]
    simp only [Result.andThen]
    congr 5 <;> omega
  · show _ ∧ _
    omega

theorem call_add64_0 (x y : Nat) : ∃ lo hi : Nat, (∀ w, (callFunc 50 #[.int .u64 (x : Int), .int .u64 (y : Int), .int .u64 0]).run Try.prog w = .ok (.value (.tuple #[.int .u64 (lo : Int), .int .u64 (hi : Int)])) w) ∧
    Hid (lo < 18446744073709551616 ∧ lo + 18446744073709551616 * hi = x + y) := by
  obtain ⟨lo, hi, h, H⟩ := call_add64 x y 0 (by omega)
  exact ⟨lo, hi, h, H⟩

def sub64Entry : Array Value → Sem Value := fun args => do
  let (x, y, b) ← Extern.MathBitsCarry.three "Sub64" args
  pure (Extern.MathBitsCarry.pair ((x + Extern.MathBitsCarry.m64 - y - b) % Extern.MathBitsCarry.m64) (if x < y + b then 1 else 0))

set_option maxHeartbeats 400000 in
theorem mul64_walk (x y : Int) (w : World) (hx0 : 0 ≤ x) (hx : x < 18446744073709551616) (hy0 : 0 ≤ y) (hy : y < 18446744073709551616) :
    Calls Try.prog 55 #[.int .u64 x, .int .u64 y] w fun e w' => e = .returned (.tuple #[.int .u64 (x * y / 18446744073709551616), .int .u64 (x * y % 18446744073709551616)]) ∧ w' = w := by
  go_enter Try.func55, Try.ntmps55
  go_wp2
  go_ret2
  refine ⟨ret_two ?_ ?_, rfl⟩
  · have hm := mul64_arith x y hx0 hx hy0 hy
    simp only [IntKind.wrap_u64]
    rw [and_low32 x hx0 hx, and_low32 y hy0 hy, and_low32 _ (by omega) (by omega)]
    exact hm
  · rw [IntKind.wrap_u64]

theorem mul64_any (x y : Nat) (w : World) (hx : x < 18446744073709551616) (hy : y < 18446744073709551616) :
    Calls Try.prog 55 #[.int .u64 (x : Int), .int .u64 (y : Int)] w fun e w' => ∃ hi lo : Nat, e = .returned (.tuple #[.int .u64 (hi : Int), .int .u64 (lo : Int)]) ∧ w' = w ∧
      Hid (lo < 18446744073709551616 ∧ hi ≤ 18446744073709551614 ∧ lo + 18446744073709551616 * hi = x * y) := by
  refine (mul64_walk x y w (by omega) (by omega) (by omega) (by omega)).mono ?_
  rintro e w' ⟨rfl, rfl⟩
  refine ⟨x * y / 18446744073709551616, x * y % 18446744073709551616, ?_, rfl, ?_⟩
  · simp
  · have : x * y ≤ 18446744073709551615 * 18446744073709551615 := Nat.mul_le_mul (by omega) (by omega)
    show _ ∧ _ ∧ _
    omega

end Go.Proofs.Ytpamcmhfimnfbaa
/-
  Plain arithmetic of digits of base 256: values of rows, carries, folding, borrowing. Nothing of the program is named here.
-/
namespace Go.Proofs.Ytpamcmhfimnfbaa

/-- A fact set aside, that no unifier looks into. -/
structure Kept (p : Prop) : Prop where
  out : p

/-- The number of a row of digits, the lowest first. -/
def val : List Nat → Nat
  | [] => 0
  | d :: r => d + 256 * val r

theorem val_split (l : List Nat) : ∀ k, val l = val (l.take k) + 256 ^ k * val (l.drop k) := by
  induction l with
  | nil => intro k; simp [val]
  | cons d r ih =>
    intro k
    cases k with
    | zero => simp [val]
    | succ k =>
      have h := ih k
      simp only [List.take_succ_cons, List.drop_succ_cons, val]
      rw [h, Nat.pow_succ, Nat.mul_add, Nat.mul_comm (256 ^ k) 256, ← Nat.mul_assoc, Nat.add_assoc]

theorem val_take_succ (l : List Nat) : ∀ k, val (l.take (k + 1)) = val (l.take k) + l.getD k 0 * 256 ^ k := by
  induction l with
  | nil => intro k; simp [val]
  | cons d r ih =>
    intro k
    cases k with
    | zero => simp [val]
    | succ k =>
      have h := ih k
      simp only [List.take_succ_cons, val, List.getD_cons_succ]
      rw [h, Nat.pow_succ, Nat.mul_add, Nat.mul_comm (256 ^ k) 256, Nat.mul_left_comm, Nat.add_assoc]

theorem val_set (l : List Nat) (x : Nat) : ∀ k, k < l.length → val (l.set k (l.getD k 0 + x)) = val l + x * 256 ^ k := by
  induction l with
  | nil => intro k h; simp at h
  | cons d r ih =>
    intro k h
    cases k with
    | zero => simp [val]; omega
    | succ k =>
      have h2 := ih k (by simpa using h)
      simp only [List.set_cons_succ, val, List.getD_cons_succ]
      rw [h2, Nat.pow_succ, Nat.mul_add, Nat.mul_comm (256 ^ k) 256, Nat.mul_left_comm, Nat.add_assoc]

/-- One round of carry. -/
theorem carry_step (l : List Nat) (k : Nat) :
    (val (l.take k) / 256 ^ k + l.getD k 0) % 256 = val l / 256 ^ k % 256 ∧ (val (l.take k) / 256 ^ k + l.getD k 0) / 256 = val (l.take (k + 1)) / 256 ^ (k + 1) := by
  have h1 := val_take_succ l k
  have h2 := val_split l (k + 1)
  have hp : 0 < 256 ^ k := Nat.pow_pos (by decide)
  have e1 : val (l.take (k + 1)) / 256 ^ k = val (l.take k) / 256 ^ k + l.getD k 0 := by rw [h1, Nat.add_mul_div_right _ _ hp]
  constructor
  · rw [h2, Nat.pow_succ, Nat.mul_assoc, Nat.add_mul_div_left _ _ hp, e1]
    omega
  · rw [← e1, Nat.pow_succ, Nat.div_div_eq_div_mul]

theorem getD_over (l : List Nat) (k : Nat) (h : l.length ≤ k) : l.getD k 0 = 0 := by simp [List.getD, h]

/-- A number's first k digits make it up, modulo 256^k. -/
theorem mod_succ (V k : Nat) : V % 256 ^ (k + 1) = V % 256 ^ k + V / 256 ^ k % 256 * 256 ^ k := by
  rw [Nat.pow_succ, Nat.mod_mul, Nat.mul_comm (256 ^ k)]

/-- What folding has gathered after i rounds. -/
def foldTo (V : Nat) : Nat → Nat
  | 0 => 0
  | i + 1 => foldTo V i + (if i < 32 then 1 else 38) * (V / 256 ^ i % 256) * 256 ^ (i % 32)

theorem foldTo_low (V : Nat) : ∀ i, i ≤ 32 → foldTo V i = V % 256 ^ i
  | 0, _ => by simp [foldTo, Nat.mod_one]
  | i + 1, h => by
    rw [foldTo, foldTo_low V i (by omega), mod_succ, if_pos (by omega), Nat.mod_eq_of_lt (show i < 32 by omega), Nat.one_mul]

theorem foldTo_mid (V : Nat) : ∀ j, j ≤ 32 → foldTo V (32 + j) = V % 256 ^ 32 + 38 * (V / 256 ^ 32 % 256 ^ j)
  | 0, _ => by rw [Nat.add_zero, foldTo_low V 32 (by omega)]; simp [Nat.mod_one]
  | j + 1, h => by
    rw [← Nat.add_assoc, foldTo, foldTo_mid V j (by omega), mod_succ (V / 256 ^ 32) j, if_neg (by omega), show (32 + j) % 32 = j from by omega, Nat.pow_add, ← Nat.div_div_eq_div_mul, Nat.mul_add, Nat.mul_assoc 38, Nat.add_assoc]

theorem foldTo_high (V : Nat) (hV : V < 256 ^ 64) : ∀ j, foldTo V (64 + j) = V % 256 ^ 32 + 38 * (V / 256 ^ 32)
  | 0 => by
    have h := foldTo_mid V 32 (by omega)
    rw [show 32 + 32 = 64 + 0 from rfl] at h
    rw [h, Nat.mod_eq_of_lt (show V / 256 ^ 32 < 256 ^ 32 from by
      rw [Nat.div_lt_iff_lt_mul (Nat.pow_pos (by decide)), ← Nat.pow_add]; exact hV)]
  | j + 1 => by
    have h0 : V / 256 ^ (64 + j) = 0 := Nat.div_eq_of_lt (Nat.lt_of_lt_of_le hV (Nat.pow_le_pow_right (by decide) (by omega)))
    rw [← Nat.add_assoc, foldTo, foldTo_high V hV j, h0]
    simp

/-- What folding comes to: 2^256 counts 38 times. -/
theorem foldTo_all (V m : Nat) (hV : V < 256 ^ 64) (hm : V < 256 ^ m) (h32 : 32 ≤ m) : foldTo V m = V % 256 ^ 32 + 38 * (V / 256 ^ 32) := by
  by_cases h : m ≤ 64
  · obtain ⟨j, rfl⟩ : ∃ j, m = 32 + j := ⟨m - 32, by omega⟩
    rw [foldTo_mid V j (by omega), Nat.mod_eq_of_lt (show V / 256 ^ 32 < 256 ^ j from by
      rw [Nat.div_lt_iff_lt_mul (Nat.pow_pos (by decide)), ← Nat.pow_add, Nat.add_comm]; exact hm)]
  · obtain ⟨j, rfl⟩ : ∃ j, m = 64 + j := ⟨m - 64, by omega⟩
    exact foldTo_high V hV j

theorem fold_mod (V : Nat) : (V % 256 ^ 32 + 38 * (V / 256 ^ 32)) % 57896044618658097711785492504343953926634992332820282019728792003956564819949 = V % 57896044618658097711785492504343953926634992332820282019728792003956564819949 := by
  have e : (256 : Nat) ^ 32 = 115792089237316195423570985008687907853269984665640564039457584007913129639936 := by decide
  rw [e]
  omega
theorem fold_less (V : Nat) (h : 256 ^ 32 ≤ V) : V % 256 ^ 32 + 38 * (V / 256 ^ 32) < V := by
  have e : (256 : Nat) ^ 32 = 115792089237316195423570985008687907853269984665640564039457584007913129639936 := by decide
  rw [e] at *
  omega
theorem fold_bound (V : Nat) (h : V < 256 ^ 64) : V % 256 ^ 32 + 38 * (V / 256 ^ 32) < 256 ^ 64 := by
  by_cases h2 : 256 ^ 32 ≤ V
  · exact Nat.lt_trans (fold_less V h2) h
  · rw [Nat.div_eq_of_lt (by omega), Nat.mod_eq_of_lt (by omega)]
    simpa using h

/-- No digit above the 32nd: all of the number is below 2^256. -/
theorem high_none (V m : Nat) (hm : V < 256 ^ m) (h32 : 32 ≤ m) (h : ∀ i, 32 ≤ i → i < m → V / 256 ^ i % 256 = 0) : V < 256 ^ 32 := by
  have : ∀ j, j ≤ m - 32 → V % 256 ^ (32 + j) = V % 256 ^ 32 := by
    intro j
    induction j with
    | zero => intro _; rfl
    | succ j ih => intro hj; rw [← Nat.add_assoc, mod_succ, h (32 + j) (by omega) (by omega), ih (by omega)]; simp
  have h2 := this (m - 32) (by omega)
  rw [show 32 + (m - 32) = m from by omega, Nat.mod_eq_of_lt hm] at h2
  rw [h2]
  exact Nat.mod_lt _ (Nat.pow_pos (by decide))
theorem high_some (V i : Nat) (hi : 32 ≤ i) (h : V / 256 ^ i % 256 ≠ 0) : 256 ^ 32 ≤ V := by
  refine Nat.le_of_not_lt fun h2 => h ?_
  rw [Nat.div_eq_of_lt (Nat.lt_of_lt_of_le h2 (Nat.pow_le_pow_right (by decide) hi))]

/-- Comparing from the highest digit down. -/
theorem cmp_same (x y i : Nat) (h : x / 256 ^ (i + 1) = y / 256 ^ (i + 1)) (hd : x / 256 ^ i % 256 = y / 256 ^ i % 256) : x / 256 ^ i = y / 256 ^ i := by
  rw [Nat.pow_succ, ← Nat.div_div_eq_div_mul, ← Nat.div_div_eq_div_mul] at h
  omega
theorem cmp_other (x y i : Nat) (h : x / 256 ^ (i + 1) = y / 256 ^ (i + 1)) (hd : x / 256 ^ i % 256 ≠ y / 256 ^ i % 256) : (x / 256 ^ i % 256 < y / 256 ^ i % 256 ↔ x < y) := by
  rw [Nat.pow_succ, ← Nat.div_div_eq_div_mul, ← Nat.div_div_eq_div_mul] at h
  have hp : 0 < 256 ^ i := Nat.pow_pos (by decide)
  constructor
  · intro h2
    have h3 : x / 256 ^ i < y / 256 ^ i := by omega
    refine Nat.lt_of_not_le fun h4 => ?_
    have := Nat.div_le_div_right (c := 256 ^ i) h4
    omega
  · intro h2
    have := Nat.div_le_div_right (c := 256 ^ i) (Nat.le_of_lt h2)
    omega

/-- Taking off y from x, digit by digit. -/
def bor (x y i : Nat) : Nat := if x % 256 ^ i < y % 256 ^ i then 1 else 0
theorem bor_zero (x y : Nat) : bor x y 0 = 0 := by simp [bor, Nat.mod_one]
theorem bor_le (x y i : Nat) : bor x y i ≤ 1 := by unfold bor; split <;> omega
theorem bor_step (x y i : Nat) (h : y ≤ x) :
    (x / 256 ^ i % 256 < y / 256 ^ i % 256 + bor x y i → (x - y) / 256 ^ i % 256 + y / 256 ^ i % 256 + bor x y i = x / 256 ^ i % 256 + 256 ∧ bor x y (i + 1) = 1) ∧
    (¬ x / 256 ^ i % 256 < y / 256 ^ i % 256 + bor x y i → (x - y) / 256 ^ i % 256 + y / 256 ^ i % 256 + bor x y i = x / 256 ^ i % 256 ∧ bor x y (i + 1) = 0) := by
  have hp : 0 < 256 ^ i := Nat.pow_pos (by decide)
  have ex := Nat.div_add_mod x (256 ^ i)
  have ey := Nat.div_add_mod y (256 ^ i)
  have rx := Nat.mod_lt x hp
  have ry := Nat.mod_lt y hp
  have mx := mod_succ x i
  have my := mod_succ y i
  unfold bor
  rw [mx, my]
  have hle := Nat.div_le_div_right (c := 256 ^ i) h
  generalize hB : 256 ^ i = B at *
  generalize x / B = xq at *
  generalize y / B = yq at *
  generalize x % B = xr at *
  generalize y % B = yr at *
  have hdiv : (x - y) / B = if xr < yr then xq - yq - 1 else xq - yq := by
    split
    · rename_i hlt
      have hlt2 : yq < xq := by
        refine Nat.lt_of_le_of_ne hle fun e => ?_
        subst e
        omega
      have e : x - y = (B + xr - yr) + B * (xq - yq - 1) := by
        have : B * xq = B * yq + B * (xq - yq - 1) + B := by
          rw [← Nat.mul_add, ← Nat.mul_add_one]; congr 1; omega
        omega
      rw [e, Nat.add_mul_div_left _ _ hp, Nat.div_eq_of_lt (by omega)]
      omega
    · have e : x - y = (xr - yr) + B * (xq - yq) := by
        have : B * xq = B * yq + B * (xq - yq) := by rw [← Nat.mul_add]; congr 1; omega
        omega
      rw [e, Nat.add_mul_div_left _ _ hp, Nat.div_eq_of_lt (by omega)]
      omega
  have strict : xr < yr → yq < xq := fun hlt => Nat.lt_of_le_of_ne hle fun e => by subst e; omega
  rw [hdiv]
  have key : ∀ a b : Nat, a < b → a * B + B ≤ b * B := fun a b hab => by
    have := Nat.mul_le_mul_right B hab
    rw [Nat.succ_mul] at this; exact this
  clear hdiv ex ey mx my h
  by_cases hlt : xr < yr
  · have st := strict hlt
    simp only [if_pos hlt]
    constructor
    · intro hc
      refine ⟨by clear key rx ry; omega, if_pos ?_⟩
      by_cases e : xq % 256 = yq % 256
      · rw [e]; omega
      · have := key (xq % 256) (yq % 256) (by omega); omega
    · intro hc
      refine ⟨by clear key rx ry; omega, if_neg ?_⟩
      have := key (yq % 256) (xq % 256) (by omega); omega
  · simp only [if_neg hlt]
    constructor
    · intro hc
      refine ⟨by clear key rx ry; omega, if_pos ?_⟩
      have := key (xq % 256) (yq % 256) (by omega); omega
    · intro hc
      refine ⟨by clear key rx ry; omega, if_neg ?_⟩
      by_cases e : xq % 256 = yq % 256
      · rw [e]; omega
      · have := key (yq % 256) (xq % 256) (by omega); omega

/-- The digits of p are those of p. -/
def primeL : List Nat := 237 :: (List.replicate 30 255 ++ [127])
theorem primeL_at : ∀ i, i < 32 → primeL.getD i 0 = 57896044618658097711785492504343953926634992332820282019728792003956564819949 / 256 ^ i % 256 := by decide +kernel
theorem primeL_len : primeL.length = 32 := rfl
end Go.Proofs.Ytpamcmhfimnfbaa
/-
  What the small functions of the reference package of layer 1 do: the digits of a number, the digits of p.
-/
namespace Go.Proofs.Ytpamcmhfimnfbaa
open Go.RowKit
set_option linter.unusedSimpArgs false
set_option linter.unusedVariables false

theorem info3 : (Try.prog.info? 3).map (fun i => (i.zero, i.size, i.bytes)) = some (some (.int .i64 0), 1, 8) := by kernel_rfl

/-- A row of ints. -/
def irow (l : List Nat) : List Value := l.map fun d : Nat => Value.int .i64 (d : Int)
theorem irow_snoc (l : List Nat) (d : Nat) : irow (l ++ [d]) = irow l ++ [.int .i64 (d : Int)] := by simp [irow]
theorem irow_len (l : List Nat) : (irow l).length = l.length := by simp [irow]
theorem irow_get (l : List Nat) (i d : Nat) (h : l[i]? = some d) : (irow l)[i]? = some (.int .i64 (d : Int)) := by simp [irow, h]

/-- The first k digits of a number. -/
def digs (n k : Nat) : List Nat := (List.range k).map fun i => n / 256 ^ i % 256
theorem digs_succ (n k : Nat) : digs n (k + 1) = digs n k ++ [n / 256 ^ k % 256] := by simp [digs, List.range_succ]
theorem digs_len (n k : Nat) : (digs n k).length = k := by simp [digs]

theorem ownsRow_mono {w : World} {b b' : Nat} {e : TypeId} {s : Nat} {v : Value} {n : Nat} {xs : List Value} (h : w.ownsRow b e s v n xs) (hb : b' ≤ b) : w.ownsRow b' e s v n xs := by
  obtain ⟨h1, h2⟩ := h
  refine ⟨h1, ?_⟩
  rcases h2 with h | ⟨g, cap, cur, a, b, c⟩
  · exact .inl h
  · exact .inr ⟨g, cap, cur, a, Nat.le_trans hb b, c⟩

theorem cell_row {w : World} {g : Nat} {A : Array Value} {t : TypeId} {fr : Nat × Nat} {j : Nat} {v : Value} (hg : w.heap[g]? = some (.cells A t fr)) (hv : A[j]? = some v) : w.cell? ⟨g, j, none⟩ = some v := by
  simp [World.cell?, hg, hv]

theorem heap_new (w : World) (o : Obj) : (w.alloc o).heap[w.heap.size]? = some o := by
  show (w.heap.push o)[w.heap.size]? = some o
  simp

theorem grown_below {B : Nat} {w w' : World} {v : Value} {b : Nat} {e : TypeId} {s n : Nat} {xs : List Value} (hg : w.grownBy w' v.ownBlock) (ho : w.ownsRow b e s v n xs) (hb : B ≤ b) (hB : B ≤ w.heap.size) : Below B w w' :=
  (Below.refl _ _).grown hg hB (fun k hk => Nat.le_trans hb (ho.lt k hk).1)

/-- 'append(l, x)' of ints, onto a slice of the call's own. -/
theorem wpList_app1 {ops : Array Oper} {rest : List Oper} {o : Oper} {a : Act} {w : World} {Q : Exit → Act → World → Prop} (hgd : o.guard = none) (s x : Operand)
    (ho : o.op = .call { callee := .builtin .append, args := #[s, x], argTypes := #[78, 78] })
    (base : Nat) (v : Value) (n : Nat) (xs : List Value) (hs : a.eval s = v) (hown : w.ownsRow base 3 1 v n xs) (g : Nat) (u : Int) (hx : a.eval x = .slice (some ⟨g, 0, none⟩) 1 1) (hg : w.cell? ⟨g, 0, none⟩ = some (.int .i64 u))
    (hn : n + 1 ≤ 8796093022208) (hbase : base ≤ w.heap.size)
    (h : ∀ v' w', w'.ownsRow base 3 1 v' (n + 1) (xs ++ [.int .i64 u]) → w.grownBy w' v.ownBlock → wpList Try.prog ops Q rest (a.put o.dst v') w') : wpList Try.prog ops Q (o :: rest) a w := by
  obtain ⟨i0, hi, hz0, hz1, hz2⟩ := info_parts info3
  refine wpList_append_own _ hgd s x 78 ho base 3 i0 (.int .i64 0) 1 8 Try.underlying78 hi hz0 hz1 hz2 rfl (by decide) v n xs hs hown ⟨g, 0, none⟩ 1 1 [.int .i64 u] hx rfl ?_ ?_ ?_ ?_ hbase fun v' w' h1 h2 _ => h v' w' h1 h2
  · intro j y hj
    match j, hj with
    | 0, hj => simp at hj; subst hj; simpa [Addr.add] using hg
  · intro y hy; simp at hy; subst hy; rfl
  · unfold maxLen; omega
  · omega

/-- A block holds a row of ints at its head. -/
def Holds (w : World) (g : Nat) (l : List Nat) : Prop := g < w.heap.size ∧ ∀ j, j < l.length → w.cell? ⟨g, j, none⟩ = some (.int .i64 ((l.getD j 0 : Nat) : Int))
theorem Holds.below {w w' : World} {g B : Nat} {l : List Nat} (h : Holds w g l) (hb : Below B w w') (hB : g < B) : Holds w' g l :=
  ⟨Nat.lt_of_lt_of_le h.1 hb.size, fun j hj => (hb.cell (p := ⟨g, j, none⟩) hB).trans (h.2 j hj)⟩
theorem Holds.under {w w' : World} {g : Nat} {l : List Nat} (h : Holds w g l) (hb : Below w.heap.size w w') : Holds w' g l := h.below hb h.1
theorem owns_holds {w : World} {b n : Nat} {v : Value} {l : List Nat} (h : w.ownsRow b 3 1 v n (irow l)) (hn : 0 < n) : ∃ g cap, v = .slice (some ⟨g, 0, none⟩) n cap ∧ n ≤ cap ∧ cap ≤ maxLen ∧ b ≤ g ∧ l.length = n ∧ Holds w g l := by
  obtain ⟨h1, h2⟩ := h
  rw [irow_len] at h1
  rcases h2 with ⟨_, h⟩ | ⟨g, cap, cur, rfl, hb, hg, hc, hm, hs, ht⟩
  · omega
  · refine ⟨g, cap, rfl, hc, hm, hb, by omega, (Array.getElem?_eq_some_iff.1 hg).1, fun j hj => ?_⟩
    refine cell_row hg ?_
    have h3 : (cur.toList.take (n * 1))[j]? = (irow l)[j]? := by rw [ht]
    rw [List.getElem?_take_of_lt (by omega), Array.getElem?_toList] at h3
    rw [h3]
    refine irow_get l j _ ?_
    simp [List.getD, hj]

end Go.Proofs.Ytpamcmhfimnfbaa
/-
  What the reference package's carry and high do: the same number in digits below 256; has it a digit above the 32nd.
-/
namespace Go.Proofs.Ytpamcmhfimnfbaa
open Go.RowKit
set_option linter.unusedSimpArgs false
set_option linter.unusedVariables false

theorem late_bound {k c : Nat} (h : 64 ≤ k → c * 256 ^ (k - 64) ≤ 1099511627776) (hc : 0 < c) : k ≤ 69 := by
  refine Nat.le_of_not_lt fun h70 => ?_
  have h1 := h (by omega)
  have h2 : 256 ^ 6 ≤ 256 ^ (k - 64) := Nat.pow_le_pow_right (by decide) (by omega)
  have h3 : 1 * 256 ^ (k - 64) ≤ c * 256 ^ (k - 64) := Nat.mul_le_mul_right _ hc
  omega
theorem late_step {k c x : Nat} (h : 64 ≤ k → c * 256 ^ (k - 64) ≤ 1099511627776) (hc : c ≤ 1099511627776) (hx : x ≤ 1099511627776) (h0 : 64 ≤ k → x = 0) : 64 ≤ k + 1 → (c + x) / 256 * 256 ^ (k + 1 - 64) ≤ 1099511627776 := by
  intro hk
  by_cases e : k + 1 = 64
  · rw [e]; simp; omega
  · have h1 := h (by omega)
    rw [h0 (by omega), Nat.add_zero, show k + 1 - 64 = (k - 64) + 1 from by omega, Nat.pow_succ, Nat.mul_comm _ 256, ← Nat.mul_assoc]
    exact Nat.le_trans (Nat.mul_le_mul_right _ (Nat.div_mul_le_self c 256)) h1
theorem take_all_val (l : List Nat) (k : Nat) (h : l.length ≤ k) : l.take k = l := List.take_of_length_le h
theorem div_zero_lt {a b : Nat} (hb : 0 < b) (h : 0 = a / b) : a < b := by
  have := (Nat.div_eq_zero_iff (a := a) (b := b)).1 h.symm
  omega

end Go.Proofs.Ytpamcmhfimnfbaa
/-
  The reference's block: pieces.
-/
namespace Go.Proofs.Ytpamcmhfimnfbaa.sh
open Go Go.RowKit
set_option linter.unusedVariables false
set_option linter.unusedSimpArgs false

theorem IntsV.und {k : IntKind} {v : Value} {w w' : World} {l : List Nat} (h : IntsV k v w l) (hb : Below w.heap.size w w') : IntsV k v w' l := by
  obtain ⟨p, c, rfl, hlc, hp⟩ := h
  refine ⟨p, c, rfl, hlc, fun hne => ?_⟩
  obtain ⟨A, rfl, hA, hc⟩ := hp hne
  exact ⟨A, rfl, Nat.lt_of_lt_of_le hA hb.size, fun j x hx => (hb.cell (by rw [add_block]; exact hA)).trans (hc j x hx)⟩
/-- A constant text is appended. -/
theorem wl_appS {ops : Array Oper} {rest : List Oper} {o : Oper} {a : Act} {w : World} {Q : Exit → Act → World → Prop} (hgd : o.guard = none) (s x : Operand) (ho : o.op = .call { callee := .builtin .append, args := #[s, x], argTypes := #[24, 9] }) (base : Nat) (l m : List Nat) (v : Value) (t8 : ByteArray) (hs : a.eval s = v) (hx : a.eval x = .string t8) (hv : Row base 5 .u8 l v w) (hm : Lib.byteCells t8.data.toList = (ints .u8 m).toList) (hml : m.length = t8.size) (hn : l.length + m.length ≤ 1000000) (hbase : base ≤ w.heap.size)
    (hk : ∀ v' w', Row base 5 .u8 (l ++ m) v' w' → w.grownBy w' (blkOf v) → wpList Try.prog ops Q rest (a.put o.dst v') w') : wpList Try.prog ops Q (o :: rest) a w := by
  have hi := inf_u8
  cases hq : Try.prog.info? 5 with
  | none => rw [hq] at hi; cases hi
  | some i =>
    rw [hq] at hi
    simp only [Option.map_some, Option.some.injEq, Prod.mk.injEq] at hi
    obtain ⟨h1, h2, h3⟩ := hi
    refine Lib.wpList_append_own_string w hgd s x 24 9 ho base 5 i Try.underlying24 Try.underlying9 hq h1 h2 h3 v l.length (ints .u8 l).toList hs hv t8 hx (by unfold maxLen; omega) (by omega) hbase ?_
    intro v' w' r1 r2 _
    refine hk v' w' ?_ (by rw [row_blk hv] at r2; exact r2)
    unfold Row
    have e : (ints .u8 (l ++ m)).toList = (ints .u8 l).toList ++ Lib.strCells t8 := by rw [Lib.strCells_eq, hm]; simp [ints]
    rw [List.length_append, hml, e]
    exact r1
theorem part_piece (B : List Nat) (j : Nat) : part ((B.drop (4 * j)).take 4) 0 4 = part B j 4 := by
  refine part_congr _ _ _ _ 4 (fun m hm => ?_)
  rw [List.getD_eq_getElem?_getD, List.getD_eq_getElem?_getD, List.getElem?_take_of_lt (by omega), List.getElem?_drop]
  congr 2
  omega
theorem wsL_succ (B : List Nat) (j : Nat) : wsL B (j + 1) = wsL B j ++ [part B j 4] := by unfold wsL; rw [List.range_succ, List.map_append]; rfl
theorem arr_cutV_run {o : Oper} {a : Act} {x y z : Operand} {g n k m mm cc : Nat} {t e : TypeId} (ho : o.op = .slice t x (some y) (some z) none) (hx : a.eval x = .pointer (some ⟨g, 0, none⟩)) (hy : a.eval y = .int .i64 (k : Int)) (hz : a.eval z = .int .i64 (m : Int)) (ht : Try.prog.underlying t = some (.array n e)) (sz : ∀ w, (sizeOf e).run Try.prog w = .ok 1 w) (hk : k ≤ m) (hm : m ≤ n) (hn : k < n) (hmm : mm = m - k) (hcc : cc = n - k) (w : World) :
    (execOp a.eval o).run Try.prog w = .ok (.value (.slice (some ⟨g, k, none⟩) mm cc)) w := by
  have h2 : ((m : Int) ≤ (n : Int)) := by omega
  have h1 : ((k : Int) ≤ (m : Int)) := by omega
  unfold execOp
  simp only [ho, hx, hy, hz, Option.map_none, Option.map_some, Instr.sliceAt, Instr.slice, Instr.sliceBounds, Sem.run_bind, run_underlying ht, Result.andThen_ok]
  simp [Instr.sliceBound, asIntOf, sz, go_sem, h1, h2, Addr.add]
  rw [if_pos hm, if_pos hk]
  simp [show ¬ n = k by omega, hmm, hcc]
  exact fun h => h.symm
theorem one_u32 (w : World) (x : Nat) : IntsV .u32 (.slice (some ⟨w.heap.size, 0, none⟩) 1 1) (w.alloc (.cells #[.int .u32 (x : Int)] 38)) [x] := by
  refine ⟨_, _, rfl, Nat.le_refl _, fun _ => ⟨_, rfl, by simp, fun j y hy => ?_⟩⟩
  cases j with
  | zero =>
    cases hy
    have := (blk_new w 38 #[.int .u32 (x : Int)]).cell (j := 0) (v := .int .u32 (x : Int)) rfl
    rw [addr_add]
    exact this
  | succ j => cases hy
theorem row_emp8 {base : Nat} (w : World) (hb : base ≤ w.heap.size) : Row base 5 .u8 [] (.slice (some ⟨w.heap.size, 0, none⟩) 0 0) (w.alloc (.cells #[] 5)) := World.ownsRow_lit w #[] 0 hb (by unfold maxLen; omega) rfl
theorem app_below {w0 w w' : World} {v : Value} {B : Nat} {e : TypeId} {k : IntKind} {l : List Nat} (h : Below B w0 w) (hB : B ≤ w.heap.size) (hr : Row B e k l v w) (hg : w.grownBy w' (blkOf v)) : Below B w0 w' := h.trans (grown_mono hg hB (fun b hb => (hr.range b hb).1))
theorem run_addN {o : Oper} {a : Act} {x y : Operand} {i j z : Nat} (ho : o.op = .binOp .add 3 x y 3) (hx : a.eval x = .int .i64 (i : Int)) (hy : a.eval y = .int .i64 (j : Int)) (hz : z = i + j) (hi : z < 4611686018427387904) (w : World) : (execOp a.eval o).run Try.prog w = .ok (.value (.int .i64 (z : Int))) w := by
  subst hz
  exact run_addV ho hx hy hi w
theorem run_rem32c {o : Oper} {a : Act} {x : Operand} {m z : Nat} (ho : o.op = .binOp .rem 38 x (.const (.int .u32 256)) 38) (hx : a.eval x = .int .u32 (m : Int)) (hz : z = m % 256) (w : World) : (execOp a.eval o).run Try.prog w = .ok (.value (.int .u32 (z : Int))) w := by
  have e3 : a.eval (.const (.int .u32 256)) = .int .u32 256 := rfl
  have h3 : (m : Int).tmod 256 = (z : Int) := by rw [hz, Int.tmod_eq_emod_of_nonneg (by omega)]; omega
  unfold execOp
  simp only [ho, hx, e3]
  simp [go_sem, h3]
theorem run_c328 {o : Oper} {a : Act} {x : Operand} {z : Nat} (ho : o.op = .convert 38 5 x) (hx : a.eval x = .int .u32 (z : Int)) (hz : z < 256) (w : World) : (execOp a.eval o).run Try.prog w = .ok (.value (.int .u8 (z : Int))) w := by
  unfold execOp
  simp only [ho, hx]
  simp [go_sem, IntKind.wrap_u8']
  omega
theorem piece_at {g n c k m : Nat} {w : World} {bs : List Nat} (h : BytesV (.slice (some ⟨g, 0, none⟩) n c) w bs) (hm : k + m ≤ bs.length) (hk : k < c) {cc : Nat} (hcc : cc = c - k) : BytesV (.slice (some ⟨g, k, none⟩) m cc) w ((bs.drop k).take m) := by
  have h2 := BytesV.piece h hm
  rw [if_neg (by omega), Option.map_some, addr_add, Nat.zero_add, ← hcc] at h2
  exact h2

set_option maxRecDepth 100000 in
set_option maxHeartbeats 8000000 in
theorem rBlock_any (key nonce : List Nat) (count : Nat) (w : World) (hk : key.length = 32) (hy : Bytes key) (hn : nonce.length = 12) (hyn : Bytes nonce) (hc : count < 4294967296) :
    Calls Try.prog 26 #[.agg (ints .u8 key), .agg (ints .u8 nonce), .int .u32 (count : Int)] w fun e w' => e = .returned (.agg (ints .u8 (blockL key nonce count))) ∧ Below w.heap.size w w' := by
  have LK : Kept _ := ⟨hk⟩
  have LN : Kept _ := ⟨hn⟩
  have YN : Kept _ := ⟨hyn⟩
  obtain ⟨FF, hFF⟩ : ∃ S, S = frstL key nonce count := ⟨_, rfl⟩
  have WF : Kept (Ws FF) := ⟨by rw [hFF]; exact Ws.frst hy hyn hc⟩
  obtain ⟨L, hL⟩ : ∃ L, L = blockL key nonce count := ⟨_, rfl⟩
  rw [← hL]
  have EL : Kept (L = leL (plusL FF (mixT FF 10))) := ⟨by rw [hL, hFF]; rfl⟩
  have LL : Kept (L.length = 64) := ⟨by rw [hL]; exact blockL_len _ _ _⟩
  obtain ⟨BB, hBB⟩ : ∃ B, B = nameL ++ key := ⟨_, rfl⟩
  have EBB : Kept _ := ⟨hBB⟩
  have LB : Kept (BB.length = 48) := ⟨by rw [hBB, List.length_append, hk]; rfl⟩
  have YB : Kept (Bytes BB) := ⟨by rw [hBB]; exact nameL_bytes.append hy⟩
  have EF : Kept (wsL BB 12 ++ [count] ++ wsL nonce 3 = FF) := ⟨by rw [hFF, hBB]; rfl⟩
  obtain ⟨Z0, hZ0⟩ : ∃ Z, Z = List.replicate 64 0 := ⟨_, rfl⟩
  have LZ : Kept (Z0.length = 64) := ⟨by rw [hZ0]; rfl⟩
  have EI : Kept ((#[.int .u8 0, .int .u8 0, .int .u8 0, .int .u8 0, .int .u8 0, .int .u8 0, .int .u8 0, .int .u8 0, .int .u8 0, .int .u8 0, .int .u8 0, .int .u8 0, .int .u8 0, .int .u8 0, .int .u8 0, .int .u8 0, .int .u8 0, .int .u8 0, .int .u8 0, .int .u8 0, .int .u8 0, .int .u8 0, .int .u8 0, .int .u8 0, .int .u8 0, .int .u8 0, .int .u8 0, .int .u8 0, .int .u8 0, .int .u8 0, .int .u8 0, .int .u8 0, .int .u8 0, .int .u8 0, .int .u8 0, .int .u8 0, .int .u8 0, .int .u8 0, .int .u8 0, .int .u8 0, .int .u8 0, .int .u8 0, .int .u8 0, .int .u8 0, .int .u8 0, .int .u8 0, .int .u8 0, .int .u8 0, .int .u8 0, .int .u8 0, .int .u8 0, .int .u8 0, .int .u8 0, .int .u8 0, .int .u8 0, .int .u8 0, .int .u8 0, .int .u8 0, .int .u8 0, .int .u8 0, .int .u8 0, .int .u8 0, .int .u8 0, .int .u8 0] : Array Value) = ints .u8 Z0) := ⟨by rw [hZ0]; exact z64_eq2⟩
  have hname : Kept (Lib.byteCells ({ data := #[101, 120, 112, 97, 110, 100, 32, 51, 50, 45, 98, 121, 116, 101, 32, 107] } : ByteArray).data.toList = (ints .u8 nameL).toList) := ⟨by kernel_rfl⟩
  have A0 : Blk (((w.alloc (.cells (ints .u8 key) 22)).alloc (.cells (ints .u8 nonce) 36)).alloc (.cells #[.int .u8 0, .int .u8 0, .int .u8 0, .int .u8 0, .int .u8 0, .int .u8 0, .int .u8 0, .int .u8 0, .int .u8 0, .int .u8 0, .int .u8 0, .int .u8 0, .int .u8 0, .int .u8 0, .int .u8 0, .int .u8 0, .int .u8 0, .int .u8 0, .int .u8 0, .int .u8 0, .int .u8 0, .int .u8 0, .int .u8 0, .int .u8 0, .int .u8 0, .int .u8 0, .int .u8 0, .int .u8 0, .int .u8 0, .int .u8 0, .int .u8 0, .int .u8 0, .int .u8 0, .int .u8 0, .int .u8 0, .int .u8 0, .int .u8 0, .int .u8 0, .int .u8 0, .int .u8 0, .int .u8 0, .int .u8 0, .int .u8 0, .int .u8 0, .int .u8 0, .int .u8 0, .int .u8 0, .int .u8 0, .int .u8 0, .int .u8 0, .int .u8 0, .int .u8 0, .int .u8 0, .int .u8 0, .int .u8 0, .int .u8 0, .int .u8 0, .int .u8 0, .int .u8 0, .int .u8 0, .int .u8 0, .int .u8 0, .int .u8 0, .int .u8 0] 50)) w.heap.size 22 (ints .u8 key) := ((blk_new w _ _).alloc _).alloc _
  have A1 : Blk (((w.alloc (.cells (ints .u8 key) 22)).alloc (.cells (ints .u8 nonce) 36)).alloc (.cells #[.int .u8 0, .int .u8 0, .int .u8 0, .int .u8 0, .int .u8 0, .int .u8 0, .int .u8 0, .int .u8 0, .int .u8 0, .int .u8 0, .int .u8 0, .int .u8 0, .int .u8 0, .int .u8 0, .int .u8 0, .int .u8 0, .int .u8 0, .int .u8 0, .int .u8 0, .int .u8 0, .int .u8 0, .int .u8 0, .int .u8 0, .int .u8 0, .int .u8 0, .int .u8 0, .int .u8 0, .int .u8 0, .int .u8 0, .int .u8 0, .int .u8 0, .int .u8 0, .int .u8 0, .int .u8 0, .int .u8 0, .int .u8 0, .int .u8 0, .int .u8 0, .int .u8 0, .int .u8 0, .int .u8 0, .int .u8 0, .int .u8 0, .int .u8 0, .int .u8 0, .int .u8 0, .int .u8 0, .int .u8 0, .int .u8 0, .int .u8 0, .int .u8 0, .int .u8 0, .int .u8 0, .int .u8 0, .int .u8 0, .int .u8 0, .int .u8 0, .int .u8 0, .int .u8 0, .int .u8 0, .int .u8 0, .int .u8 0, .int .u8 0, .int .u8 0] 50)) (w.heap.size + 1) 36 (ints .u8 nonce) := (blk_top _ _ _ _ (by simp)).alloc _
  have A2 : Blk (((w.alloc (.cells (ints .u8 key) 22)).alloc (.cells (ints .u8 nonce) 36)).alloc (.cells #[.int .u8 0, .int .u8 0, .int .u8 0, .int .u8 0, .int .u8 0, .int .u8 0, .int .u8 0, .int .u8 0, .int .u8 0, .int .u8 0, .int .u8 0, .int .u8 0, .int .u8 0, .int .u8 0, .int .u8 0, .int .u8 0, .int .u8 0, .int .u8 0, .int .u8 0, .int .u8 0, .int .u8 0, .int .u8 0, .int .u8 0, .int .u8 0, .int .u8 0, .int .u8 0, .int .u8 0, .int .u8 0, .int .u8 0, .int .u8 0, .int .u8 0, .int .u8 0, .int .u8 0, .int .u8 0, .int .u8 0, .int .u8 0, .int .u8 0, .int .u8 0, .int .u8 0, .int .u8 0, .int .u8 0, .int .u8 0, .int .u8 0, .int .u8 0, .int .u8 0, .int .u8 0, .int .u8 0, .int .u8 0, .int .u8 0, .int .u8 0, .int .u8 0, .int .u8 0, .int .u8 0, .int .u8 0, .int .u8 0, .int .u8 0, .int .u8 0, .int .u8 0, .int .u8 0, .int .u8 0, .int .u8 0, .int .u8 0, .int .u8 0, .int .u8 0] 50)) (w.heap.size + 2) 50 (ints .u8 Z0) := by rw [← EI.out]; exact blk_top _ _ _ _ (by simp)
  have Q0 : Below w.heap.size w (((w.alloc (.cells (ints .u8 key) 22)).alloc (.cells (ints .u8 nonce) 36)).alloc (.cells #[.int .u8 0, .int .u8 0, .int .u8 0, .int .u8 0, .int .u8 0, .int .u8 0, .int .u8 0, .int .u8 0, .int .u8 0, .int .u8 0, .int .u8 0, .int .u8 0, .int .u8 0, .int .u8 0, .int .u8 0, .int .u8 0, .int .u8 0, .int .u8 0, .int .u8 0, .int .u8 0, .int .u8 0, .int .u8 0, .int .u8 0, .int .u8 0, .int .u8 0, .int .u8 0, .int .u8 0, .int .u8 0, .int .u8 0, .int .u8 0, .int .u8 0, .int .u8 0, .int .u8 0, .int .u8 0, .int .u8 0, .int .u8 0, .int .u8 0, .int .u8 0, .int .u8 0, .int .u8 0, .int .u8 0, .int .u8 0, .int .u8 0, .int .u8 0, .int .u8 0, .int .u8 0, .int .u8 0, .int .u8 0, .int .u8 0, .int .u8 0, .int .u8 0, .int .u8 0, .int .u8 0, .int .u8 0, .int .u8 0, .int .u8 0, .int .u8 0, .int .u8 0, .int .u8 0, .int .u8 0, .int .u8 0, .int .u8 0, .int .u8 0, .int .u8 0] 50)) := (((Below.refl _ _).alloc (Nat.le_refl _) _).alloc (by simp) _).alloc (by simp; omega) _
  have S3 : (((w.alloc (.cells (ints .u8 key) 22)).alloc (.cells (ints .u8 nonce) 36)).alloc (.cells #[.int .u8 0, .int .u8 0, .int .u8 0, .int .u8 0, .int .u8 0, .int .u8 0, .int .u8 0, .int .u8 0, .int .u8 0, .int .u8 0, .int .u8 0, .int .u8 0, .int .u8 0, .int .u8 0, .int .u8 0, .int .u8 0, .int .u8 0, .int .u8 0, .int .u8 0, .int .u8 0, .int .u8 0, .int .u8 0, .int .u8 0, .int .u8 0, .int .u8 0, .int .u8 0, .int .u8 0, .int .u8 0, .int .u8 0, .int .u8 0, .int .u8 0, .int .u8 0, .int .u8 0, .int .u8 0, .int .u8 0, .int .u8 0, .int .u8 0, .int .u8 0, .int .u8 0, .int .u8 0, .int .u8 0, .int .u8 0, .int .u8 0, .int .u8 0, .int .u8 0, .int .u8 0, .int .u8 0, .int .u8 0, .int .u8 0, .int .u8 0, .int .u8 0, .int .u8 0, .int .u8 0, .int .u8 0, .int .u8 0, .int .u8 0, .int .u8 0, .int .u8 0, .int .u8 0, .int .u8 0, .int .u8 0, .int .u8 0, .int .u8 0, .int .u8 0] 50)).heap.size = w.heap.size + 3 := by simp
  have RE : Kept (Row (w.heap.size + 3) 5 .u8 [] (.slice (some ⟨w.heap.size + 3, 0, none⟩) 0 0) ((((w.alloc (.cells (ints .u8 key) 22)).alloc (.cells (ints .u8 nonce) 36)).alloc (.cells #[.int .u8 0, .int .u8 0, .int .u8 0, .int .u8 0, .int .u8 0, .int .u8 0, .int .u8 0, .int .u8 0, .int .u8 0, .int .u8 0, .int .u8 0, .int .u8 0, .int .u8 0, .int .u8 0, .int .u8 0, .int .u8 0, .int .u8 0, .int .u8 0, .int .u8 0, .int .u8 0, .int .u8 0, .int .u8 0, .int .u8 0, .int .u8 0, .int .u8 0, .int .u8 0, .int .u8 0, .int .u8 0, .int .u8 0, .int .u8 0, .int .u8 0, .int .u8 0, .int .u8 0, .int .u8 0, .int .u8 0, .int .u8 0, .int .u8 0, .int .u8 0, .int .u8 0, .int .u8 0, .int .u8 0, .int .u8 0, .int .u8 0, .int .u8 0, .int .u8 0, .int .u8 0, .int .u8 0, .int .u8 0, .int .u8 0, .int .u8 0, .int .u8 0, .int .u8 0, .int .u8 0, .int .u8 0, .int .u8 0, .int .u8 0, .int .u8 0, .int .u8 0, .int .u8 0, .int .u8 0, .int .u8 0, .int .u8 0, .int .u8 0, .int .u8 0] 50)).alloc (.cells #[] 5))) := ⟨by have := row_emp8 (base := w.heap.size + 3) (((w.alloc (.cells (ints .u8 key) 22)).alloc (.cells (ints .u8 nonce) 36)).alloc (.cells #[.int .u8 0, .int .u8 0, .int .u8 0, .int .u8 0, .int .u8 0, .int .u8 0, .int .u8 0, .int .u8 0, .int .u8 0, .int .u8 0, .int .u8 0, .int .u8 0, .int .u8 0, .int .u8 0, .int .u8 0, .int .u8 0, .int .u8 0, .int .u8 0, .int .u8 0, .int .u8 0, .int .u8 0, .int .u8 0, .int .u8 0, .int .u8 0, .int .u8 0, .int .u8 0, .int .u8 0, .int .u8 0, .int .u8 0, .int .u8 0, .int .u8 0, .int .u8 0, .int .u8 0, .int .u8 0, .int .u8 0, .int .u8 0, .int .u8 0, .int .u8 0, .int .u8 0, .int .u8 0, .int .u8 0, .int .u8 0, .int .u8 0, .int .u8 0, .int .u8 0, .int .u8 0, .int .u8 0, .int .u8 0, .int .u8 0, .int .u8 0, .int .u8 0, .int .u8 0, .int .u8 0, .int .u8 0, .int .u8 0, .int .u8 0, .int .u8 0, .int .u8 0, .int .u8 0, .int .u8 0, .int .u8 0, .int .u8 0, .int .u8 0, .int .u8 0] 50)) (by rw [S3]; exact Nat.le_refl _); rw [S3] at this; exact this⟩
  have QE : Below (w.heap.size + 3) (((w.alloc (.cells (ints .u8 key) 22)).alloc (.cells (ints .u8 nonce) 36)).alloc (.cells #[.int .u8 0, .int .u8 0, .int .u8 0, .int .u8 0, .int .u8 0, .int .u8 0, .int .u8 0, .int .u8 0, .int .u8 0, .int .u8 0, .int .u8 0, .int .u8 0, .int .u8 0, .int .u8 0, .int .u8 0, .int .u8 0, .int .u8 0, .int .u8 0, .int .u8 0, .int .u8 0, .int .u8 0, .int .u8 0, .int .u8 0, .int .u8 0, .int .u8 0, .int .u8 0, .int .u8 0, .int .u8 0, .int .u8 0, .int .u8 0, .int .u8 0, .int .u8 0, .int .u8 0, .int .u8 0, .int .u8 0, .int .u8 0, .int .u8 0, .int .u8 0, .int .u8 0, .int .u8 0, .int .u8 0, .int .u8 0, .int .u8 0, .int .u8 0, .int .u8 0, .int .u8 0, .int .u8 0, .int .u8 0, .int .u8 0, .int .u8 0, .int .u8 0, .int .u8 0, .int .u8 0, .int .u8 0, .int .u8 0, .int .u8 0, .int .u8 0, .int .u8 0, .int .u8 0, .int .u8 0, .int .u8 0, .int .u8 0, .int .u8 0, .int .u8 0] 50)) ((((w.alloc (.cells (ints .u8 key) 22)).alloc (.cells (ints .u8 nonce) 36)).alloc (.cells #[.int .u8 0, .int .u8 0, .int .u8 0, .int .u8 0, .int .u8 0, .int .u8 0, .int .u8 0, .int .u8 0, .int .u8 0, .int .u8 0, .int .u8 0, .int .u8 0, .int .u8 0, .int .u8 0, .int .u8 0, .int .u8 0, .int .u8 0, .int .u8 0, .int .u8 0, .int .u8 0, .int .u8 0, .int .u8 0, .int .u8 0, .int .u8 0, .int .u8 0, .int .u8 0, .int .u8 0, .int .u8 0, .int .u8 0, .int .u8 0, .int .u8 0, .int .u8 0, .int .u8 0, .int .u8 0, .int .u8 0, .int .u8 0, .int .u8 0, .int .u8 0, .int .u8 0, .int .u8 0, .int .u8 0, .int .u8 0, .int .u8 0, .int .u8 0, .int .u8 0, .int .u8 0, .int .u8 0, .int .u8 0, .int .u8 0, .int .u8 0, .int .u8 0, .int .u8 0, .int .u8 0, .int .u8 0, .int .u8 0, .int .u8 0, .int .u8 0, .int .u8 0, .int .u8 0, .int .u8 0, .int .u8 0, .int .u8 0, .int .u8 0, .int .u8 0] 50)).alloc (.cells #[] 5)) := (Below.refl _ _).alloc (by rw [S3]; exact Nat.le_refl _) _
  have SE : w.heap.size + 3 ≤ ((((w.alloc (.cells (ints .u8 key) 22)).alloc (.cells (ints .u8 nonce) 36)).alloc (.cells #[.int .u8 0, .int .u8 0, .int .u8 0, .int .u8 0, .int .u8 0, .int .u8 0, .int .u8 0, .int .u8 0, .int .u8 0, .int .u8 0, .int .u8 0, .int .u8 0, .int .u8 0, .int .u8 0, .int .u8 0, .int .u8 0, .int .u8 0, .int .u8 0, .int .u8 0, .int .u8 0, .int .u8 0, .int .u8 0, .int .u8 0, .int .u8 0, .int .u8 0, .int .u8 0, .int .u8 0, .int .u8 0, .int .u8 0, .int .u8 0, .int .u8 0, .int .u8 0, .int .u8 0, .int .u8 0, .int .u8 0, .int .u8 0, .int .u8 0, .int .u8 0, .int .u8 0, .int .u8 0, .int .u8 0, .int .u8 0, .int .u8 0, .int .u8 0, .int .u8 0, .int .u8 0, .int .u8 0, .int .u8 0, .int .u8 0, .int .u8 0, .int .u8 0, .int .u8 0, .int .u8 0, .int .u8 0, .int .u8 0, .int .u8 0, .int .u8 0, .int .u8 0, .int .u8 0, .int .u8 0, .int .u8 0, .int .u8 0, .int .u8 0, .int .u8 0] 50)).alloc (.cells #[] 5)).heap.size := by simp <;> omega
  clear hk hy hn hyn hFF hL hBB hZ0 S3
  go_enter Try.func26, Try.ntmps26
  go_wp2_with (first | (refine wl_appS rfl (.tmp 19) _ rfl (w.heap.size + 3) [] nameL _ _ rfl rfl RE.out hname.out rfl (by decide) SE ?_))
  intro v8 w1 r1 g1
  have Q1 := app_below QE SE RE.out g1
  have R1 : Kept _ := ⟨r1⟩
  clear r1 g1 RE QE SE hname
  generalize hW : (((w.alloc (.cells (ints .u8 key) 22)).alloc (.cells (ints .u8 nonce) 36)).alloc (.cells #[.int .u8 0, .int .u8 0, .int .u8 0, .int .u8 0, .int .u8 0, .int .u8 0, .int .u8 0, .int .u8 0, .int .u8 0, .int .u8 0, .int .u8 0, .int .u8 0, .int .u8 0, .int .u8 0, .int .u8 0, .int .u8 0, .int .u8 0, .int .u8 0, .int .u8 0, .int .u8 0, .int .u8 0, .int .u8 0, .int .u8 0, .int .u8 0, .int .u8 0, .int .u8 0, .int .u8 0, .int .u8 0, .int .u8 0, .int .u8 0, .int .u8 0, .int .u8 0, .int .u8 0, .int .u8 0, .int .u8 0, .int .u8 0, .int .u8 0, .int .u8 0, .int .u8 0, .int .u8 0, .int .u8 0, .int .u8 0, .int .u8 0, .int .u8 0, .int .u8 0, .int .u8 0, .int .u8 0, .int .u8 0, .int .u8 0, .int .u8 0, .int .u8 0, .int .u8 0, .int .u8 0, .int .u8 0, .int .u8 0, .int .u8 0, .int .u8 0, .int .u8 0, .int .u8 0, .int .u8 0, .int .u8 0, .int .u8 0, .int .u8 0, .int .u8 0] 50)) = w0 at *
  clear hW
  have B0 := A0.below Q1 (by omega)
  have B1 := A1.below Q1 (by omega)
  have B2 := A2.below Q1 (by omega)
  have Q1' := Q0.trans (Q1.mono (by omega))
  have VK : Kept (BytesV (.slice (some ⟨w.heap.size, 0, none⟩) 32 32) w1 key) := ⟨arr_bytes B0 LK.out⟩
  go_wp2_with (first | (refine wl_app (by kernel_rfl) (.tmp 21) (.tmp 22) 24 5 .u8 1 rfl Try.underlying24 inf_u8 (by decide) (w.heap.size + 3) _ key _ _ rfl rfl R1.out VK.out (by rw [LK.out]; decide) B2.lt ?_))
  intro v8 w2 r2 g2 _
  have Q2 := app_below Q1 B2.lt R1.out g2
  have r2 : Row (w.heap.size + 3) 5 .u8 BB v8 w2 := by rw [EBB.out]; exact r2
  have C1 := A1.below Q2 (by omega)
  have C2 := A2.below Q2 (by omega)
  have QW := Q0.trans (Q2.mono (by omega))
  obtain ⟨g8, c8, cur8, rfl, hb8, _, _, _⟩ := r2.form (by rw [LB.out]; decide)
  have V8 : Kept (BytesV (.slice (some ⟨g8, 0, none⟩) 48 c8) w2 BB) := ⟨by have := row_bytes r2; rw [LB.out] at this; exact this⟩
  have hc8 : 48 ≤ c8 := by
    obtain ⟨p', c', e1, e2, _⟩ := V8.out
    simp only [Value.slice.injEq] at e1
    have := LB.out
    omega
  rw [LB.out]
  clear g2 R1 VK A0 A1 A2 Q1' Q0 Q1 Q2 B0 B1 B2 r2
  go_wp2_with fail
  go_loopg [7, 9] 12 (fun k s7 s9 wr => ∃ j i : Nat, j + k = 12 ∧ Kept (i = 4 * j) ∧ s9 = .int .i64 (i : Int) ∧ Below w2.heap.size w2 wr ∧ Kept (Row w2.heap.size 38 .u32 (wsL BB j) s7 wr))
  case atStart => exact ⟨0, 0, by omega, ⟨rfl⟩, rfl, Below.refl _ _, ⟨row_nil _ _ _ _⟩⟩
  case round =>
    obtain ⟨j, i, hjk, Ei, rfl, HB, RO⟩ := hrel
    by_cases hj : j < 12
    case pos =>
      have hi4 : i = 4 * j := Ei.out
      have hi' : (i : Int) < 48 := by omega
      obtain ⟨i4, h4⟩ : ∃ q, q = i + 4 := ⟨_, rfl⟩
      obtain ⟨m4, hm4⟩ : ∃ q, q = i4 - i := ⟨_, rfl⟩
      obtain ⟨cc, hcc⟩ : ∃ q, q = c8 - i := ⟨_, rfl⟩
      obtain ⟨z, hz⟩ : ∃ z, z = part BB j 4 := ⟨_, rfl⟩
      have e4 : m4 = 4 := by omega
      subst e4
      have VP : Kept (BytesV (.slice (some ⟨g8, i, none⟩) 4 cc) wr ((BB.drop i).take 4)) := ⟨piece_at (V8.out.under HB) (by rw [LB.out]; omega) (by omega) hcc⟩
      have CW : Kept (Calls Try.prog 43 #[.slice (some ⟨g8, i, none⟩) 4 cc] wr fun e w' => e = .returned (.int .u32 (z : Int)) ∧ Below wr.heap.size wr w') := ⟨by
        rw [hz, ← part_piece, ← hi4]
        exact rword_any _ _ wr VP.out ((YB.out.drop i).take 4) (by rw [List.length_take, List.length_drop, LB.out]; omega)⟩
      have E4 : Kept _ := ⟨h4⟩
      have Em : Kept _ := ⟨hm4⟩
      have Ec : Kept _ := ⟨hcc⟩
      have Ez : Kept _ := ⟨hz⟩
      have ht1 : i ≤ i4 := by omega
      have ht2 : i4 ≤ c8 := by omega
      have ht3 : i < c8 := by omega
      have h462 : i4 < 4611686018427387904 := by omega
      have E5 : Kept (i + 4 = 4 * (j + 1)) := ⟨by omega⟩
      clear h4 hm4 hcc hz hi4 VP
      go_wp2_with (first | ((with_reducible refine wv_val (d := 32) ?hd ?hw (.int .i64 (i4 : Int)) ?hr ?_); (case hd => rfl); (case hw => kernel_rfl); (case hr => intro w; exact run_addZ 4 rfl (by kernel_rfl) E4.out h462 w); simp only [Act.put, List.setIfInBounds_toArray, List.set_cons_succ, List.set_cons_zero]) | ((with_reducible refine wv_val (d := 33) ?hd ?hw (.slice (some ⟨g8, i, none⟩) 4 cc) ?hr ?_); (case hd => rfl); (case hw => kernel_rfl); (case hr => intro w; exact cut_own (l := 48) (c := c8) (k := i) (m := i4) rfl (by kernel_rfl) (by kernel_rfl) (by kernel_rfl) Try.underlying24 sz_u8 ht1 ht2 ht3 Em.out Ec.out w); simp only [Act.put, List.setIfInBounds_toArray, List.set_cons_succ, List.set_cons_zero]))
      refine CW.out.mono ?_
      rintro e w3 ⟨rfl, hb3⟩
      have RO3 : Kept _ := ⟨RO.out.under hb3⟩
      have HB3 := HB.trans (hb3.mono HB.size)
      have SN : Kept ((wsL BB j).length + [z].length ≤ 8796093022208) := ⟨by rw [wsL_len]; simp; omega⟩
      have SB : w2.heap.size ≤ (w3.alloc (.cells #[.int .u32 (z : Int)] 38)).heap.size := Nat.le_trans HB3.size (by simp)
      clear RO HB hb3 CW
      go_wp2_with (first | (refine wl_app (by kernel_rfl) (.tmp 28) (.tmp 35) 75 38 .u32 4 rfl Try.underlying75 inf_u32 (by decide) w2.heap.size (wsL BB j) [z] _ _ rfl rfl (RO3.out.alloc _) (one_u32 _ _) SN.out SB ?_))
      intro v4 w4 r4 g4 _
      have HB4 : Below w2.heap.size w2 w4 := app_below (HB3.alloc HB3.size _) SB (RO3.out.alloc _) g4
      have RO4 : Kept (Row w2.heap.size 38 .u32 (wsL BB (j + 1)) v4 w4) := ⟨by rw [wsL_succ, ← Ez.out]; exact r4⟩
      clear r4 g4 HB3 RO3 SN SB E4 Em Ec Ez Ei
      go_wp2_with fail
      go_roundg (gk - 1)
      case measure => omega
      case rel => exact ⟨j + 1, i + 4, by omega, E5, by simp, HB4, RO4⟩
    case neg =>
      have hi' : ¬ (i : Int) < 48 := by have := Ei.out; omega
      obtain ⟨F1, hF1⟩ : ∃ F, F = wsL BB 12 := ⟨_, rfl⟩
      have RO1 : Kept (Row w2.heap.size 38 .u32 F1 u7 wr) := ⟨by rw [hF1, show (12 : Nat) = j by omega]; exact RO.out⟩
      have EF1 : Kept _ := ⟨hF1⟩
      have SN : Kept (F1.length + [count].length ≤ 8796093022208) := ⟨by rw [hF1, wsL_len]; show 12 + 1 ≤ 8796093022208; decide⟩
      have SB : w2.heap.size ≤ (wr.alloc (.cells #[.int .u32 (count : Int)] 38)).heap.size := Nat.le_trans HB.size (by simp)
      clear RO hF1 Ei hj hjk
      go_wp2_with (first | (refine wl_app (by kernel_rfl) (.tmp 37) (.tmp 39) 75 38 .u32 4 rfl Try.underlying75 inf_u32 (by decide) w2.heap.size F1 [count] _ _ rfl rfl (RO1.out.alloc _) (one_u32 _ _) SN.out SB ?_))
      intro v5 w5 r5 g5 _
      have HB5 : Below w2.heap.size w2 w5 := app_below (HB.alloc HB.size _) SB (RO1.out.alloc _) g5
      obtain ⟨F2, hF2⟩ : ∃ F, F = F1 ++ [count] := ⟨_, rfl⟩
      have RO5 : Kept (Row w2.heap.size 38 .u32 F2 v5 w5) := ⟨by rw [hF2]; exact r5⟩
      have EF2 : Kept (F2 ++ wsL nonce 3 = FF) := ⟨by rw [hF2, EF1.out, EF.out]⟩
      have LF2 : Kept (F2.length = 13) := ⟨by rw [hF2, EF1.out, List.length_append, wsL_len]; rfl⟩
      clear r5 g5 HB RO1 SN SB hF2 EF1 EF
      go_wp2_with fail
      go_loopg [7, 10] 3 (fun k s7 s10 wr => ∃ j i : Nat, j + k = 3 ∧ Kept (i = 4 * j) ∧ s10 = .int .i64 (i : Int) ∧ Below w2.heap.size w2 wr ∧ Kept (Row w2.heap.size 38 .u32 (F2 ++ wsL nonce j) s7 wr))
      case atStart => exact ⟨0, 0, by omega, ⟨rfl⟩, rfl, HB5, ⟨by rw [show wsL nonce 0 = [] from rfl, List.append_nil]; exact RO5.out⟩⟩
      case round =>
        clear RO5 HB5
        obtain ⟨j, i, hjk, Ei, rfl, HB, RO⟩ := hrel
        by_cases hj : j < 3
        case pos =>
          have hi4 : i = 4 * j := Ei.out
          have hi' : (i : Int) < 12 := by omega
          obtain ⟨i4, h4⟩ : ∃ q, q = i + 4 := ⟨_, rfl⟩
          obtain ⟨m4, hm4⟩ : ∃ q, q = i4 - i := ⟨_, rfl⟩
          obtain ⟨cc, hcc⟩ : ∃ q, q = 12 - i := ⟨_, rfl⟩
          obtain ⟨z, hz⟩ : ∃ z, z = part nonce j 4 := ⟨_, rfl⟩
          have e4 : m4 = 4 := by omega
          subst e4
          have VP : Kept (BytesV (.slice (some ⟨w.heap.size + 1, i, none⟩) 4 cc) wr ((nonce.drop i).take 4)) := ⟨piece_at (arr_bytes (C1.under HB) LN.out) (by rw [LN.out]; omega) (by omega) hcc⟩
          have CW : Kept (Calls Try.prog 43 #[.slice (some ⟨w.heap.size + 1, i, none⟩) 4 cc] wr fun e w' => e = .returned (.int .u32 (z : Int)) ∧ Below wr.heap.size wr w') := ⟨by
            rw [hz, ← part_piece, ← hi4]
            exact rword_any _ _ wr VP.out ((YN.out.drop i).take 4) (by rw [List.length_take, List.length_drop, LN.out]; omega)⟩
          have E4 : Kept _ := ⟨h4⟩
          have Em : Kept _ := ⟨hm4⟩
          have Ec : Kept _ := ⟨hcc⟩
          have Ez : Kept _ := ⟨hz⟩
          have ht1 : i ≤ i4 := by omega
          have ht2 : i4 ≤ 12 := by omega
          have ht3 : i < 12 := by omega
          have h462 : i4 < 4611686018427387904 := by omega
          have E5 : Kept (i + 4 = 4 * (j + 1)) := ⟨by omega⟩
          clear h4 hm4 hcc hz hi4 VP
          go_wp2_with (first | ((with_reducible refine wv_val (d := 48) ?hd ?hw (.int .i64 (i4 : Int)) ?hr ?_); (case hd => rfl); (case hw => kernel_rfl); (case hr => intro w; exact run_addZ 4 rfl (by kernel_rfl) E4.out h462 w); simp only [Act.put, List.setIfInBounds_toArray, List.set_cons_succ, List.set_cons_zero]) | ((with_reducible refine wv_val (d := 49) ?hd ?hw (.slice (some ⟨w.heap.size + 1, i, none⟩) 4 cc) ?hr ?_); (case hd => rfl); (case hw => kernel_rfl); (case hr => intro w; exact arr_cutV_run (k := i) (m := i4) rfl (by kernel_rfl) (by kernel_rfl) (by kernel_rfl) Try.underlying36 sz_u8 ht1 ht2 ht3 Em.out Ec.out w); simp only [Act.put, List.setIfInBounds_toArray, List.set_cons_succ, List.set_cons_zero]))
          refine CW.out.mono ?_
          rintro e w3 ⟨rfl, hb3⟩
          have RO3 : Kept _ := ⟨RO.out.under hb3⟩
          have HB3 := HB.trans (hb3.mono HB.size)
          have SN : Kept ((F2 ++ wsL nonce j).length + [z].length ≤ 8796093022208) := ⟨by rw [List.length_append, wsL_len, LF2.out]; simp; omega⟩
          have SB : w2.heap.size ≤ (w3.alloc (.cells #[.int .u32 (z : Int)] 38)).heap.size := Nat.le_trans HB3.size (by simp)
          clear RO HB hb3 CW
          go_wp2_with (first | (refine wl_app (by kernel_rfl) (.tmp 45) (.tmp 51) 75 38 .u32 4 rfl Try.underlying75 inf_u32 (by decide) w2.heap.size (F2 ++ wsL nonce j) [z] _ _ rfl rfl (RO3.out.alloc _) (one_u32 _ _) SN.out SB ?_))
          intro v4 w4 r4 g4 _
          have HB4 : Below w2.heap.size w2 w4 := app_below (HB3.alloc HB3.size _) SB (RO3.out.alloc _) g4
          have RO4 : Kept (Row w2.heap.size 38 .u32 (F2 ++ wsL nonce (j + 1)) v4 w4) := ⟨by rw [wsL_succ, ← Ez.out]; exact r4⟩
          clear r4 g4 HB3 RO3 SN SB E4 Em Ec Ez Ei
          go_wp2_with fail
          go_roundg (gk - 1)
          case measure => omega
          case rel => exact ⟨j + 1, i + 4, by omega, E5, by simp, HB4, RO4⟩
        case neg =>
          have hi' : ¬ (i : Int) < 12 := by have := Ei.out; omega
          have RF : Row w2.heap.size 38 .u32 FF u7 wr := by rw [← EF2.out, show (3 : Nat) = j by omega]; exact RO.out
          have VF : Kept (IntsV .u32 u7 wr FF) := ⟨row_cells RF⟩
          clear RF RO Ei hj hjk EF2 LF2 V8
          have D2 := C2.under HB
          have QR := QW.trans (HB.mono QW.size)
          have RE : Kept (Row wr.heap.size 38 .u32 [] (.slice (some ⟨wr.heap.size, 0, none⟩) 0 0) (wr.alloc (.cells #[] 38))) := ⟨row_emp32 wr (Nat.le_refl _)⟩
          have QE : Below wr.heap.size wr (wr.alloc (.cells #[] 38)) := (Below.refl _ _).alloc (Nat.le_refl _) _
          have VF2 : Kept (IntsV .u32 u7 (wr.alloc (.cells #[] 38)) FF) := ⟨VF.out.und QE⟩
          clear HB C1 C2 QW
          go_wp2_with (first | (refine wl_app (by kernel_rfl) (.tmp 53) (.tmp 54) 75 38 .u32 4 rfl Try.underlying75 inf_u32 (by decide) wr.heap.size [] FF _ _ rfl rfl RE.out VF2.out (by rw [WF.out.len]; decide) QE.size ?_))
          intro v6 w6 r6 g6 _
          have HB6 : Below wr.heap.size wr w6 := app_below QE QE.size RE.out g6
          have VM : Kept (IntsV .u32 v6 w6 FF) := ⟨row_cells r6⟩
          have VF6 : Kept (IntsV .u32 u7 w6 FF) := ⟨VF.out.und HB6⟩
          have E2 := D2.under HB6
          have Q6 := QR.trans (HB6.mono QR.size)
          clear r6 g6 RE QE VF VF2 HB6 D2 QR
          have hF16 := WF.out.len
          have NF : Kept (FF ≠ []) := ⟨fun e => by rw [e] at hF16; cases hF16⟩
          obtain ⟨pF, cf, eF, _, hpF⟩ := VF6.out
          obtain ⟨AF, rfl, hAF0, _⟩ := hpF NF.out
          rw [hF16] at eF
          subst eF
          clear hpF hF16
          go_wp2_with fail
          go_loopg [11, 12] 10 (fun k s11 s12 wr => ∃ (n : Nat) (X : List Nat), n + k = 10 ∧ s12 = .int .i64 (n : Int) ∧ Kept (X = mixT FF n) ∧ Below w.heap.size w wr ∧ Blk wr (w.heap.size + 2) 50 (ints .u8 Z0) ∧ Kept (IntsV .u32 (.slice (some AF) 16 cf) wr FF) ∧ Kept (IntsV .u32 s11 wr X))
          case atStart => exact ⟨0, FF, by omega, rfl, ⟨rfl⟩, Q6, E2, VF6, VM⟩
          case round =>
            clear Q6 E2 VF6 VM
            obtain ⟨n, X, hnk, rfl, EX, Q6, E2, VF6, VM⟩ := hrel
            have WX : Kept (Ws X) := ⟨by rw [EX.out]; exact WF.out.mix n⟩
            by_cases hn : n < 10
            case pos =>
              have hn' : (n : Int) < 10 := by omega
              obtain ⟨gk0, hg0⟩ : ∃ q, q = gk := ⟨_, rfl⟩
              go_wp2_with fail
              go_loopg [11, 13] 4 (fun k s11 s13 wr => ∃ i : Nat, i + k = 4 ∧ s13 = .int .i64 (i : Int) ∧ Below w.heap.size w wr ∧ Blk wr (w.heap.size + 2) 50 (ints .u8 Z0) ∧ Kept (IntsV .u32 (.slice (some AF) 16 cf) wr FF) ∧ Kept (IntsV .u32 s11 wr (colL X i)))
              case atStart => exact ⟨0, by omega, rfl, Q6, E2, VF6, VM⟩
              case round =>
                clear Q6 E2 VF6 VM
                obtain ⟨i, hik, rfl, Q6, E2, VF6, VM⟩ := hrel
                by_cases hi : i < 4
                case pos =>
                  have hi' : (i : Int) < 4 := by omega
                  obtain ⟨i4, h4⟩ : ∃ q, q = i + 4 := ⟨_, rfl⟩
                  obtain ⟨i8, h8⟩ : ∃ q, q = i + 8 := ⟨_, rfl⟩
                  obtain ⟨i12, h12⟩ : ∃ q, q = i + 12 := ⟨_, rfl⟩
                  obtain ⟨Y, hY⟩ : ∃ Y, Y = colL X i := ⟨_, rfl⟩
                  have WY : Kept (Ws Y) := ⟨by rw [hY]; exact WX.out.col i⟩
                  rw [← hY] at VM
                  have EY : Kept (colL X (i + 1) = qL Y i i4 i8 i12) := ⟨by rw [hY, h4, h8, h12]; rfl⟩
                  have E4 : Kept _ := ⟨h4⟩
                  have E8 : Kept _ := ⟨h8⟩
                  have E12 : Kept _ := ⟨h12⟩
                  have l0 : i < 16 := by omega
                  have l4 : i4 < 16 := by omega
                  have l8 : i8 < 16 := by omega
                  have l12 : i12 < 16 := by omega
                  clear h4 h8 h12 hY
                  go_wp2_with (first | ((with_reducible refine wv_val (d := 67) ?hd ?hw (.int .i64 (i4 : Int)) ?hr ?_); (case hd => rfl); (case hw => kernel_rfl); (case hr => intro w; exact run_addZ 4 rfl (by kernel_rfl) E4.out (by omega) w); simp only [Act.put, List.setIfInBounds_toArray, List.set_cons_succ, List.set_cons_zero]) | ((with_reducible refine wv_val (d := 69) ?hd ?hw (.int .i64 (i8 : Int)) ?hr ?_); (case hd => rfl); (case hw => kernel_rfl); (case hr => intro w; exact run_addZ 8 rfl (by kernel_rfl) E8.out (by omega) w); simp only [Act.put, List.setIfInBounds_toArray, List.set_cons_succ, List.set_cons_zero]) | ((with_reducible refine wv_val (d := 71) ?hd ?hw (.int .i64 (i12 : Int)) ?hr ?_); (case hd => rfl); (case hw => kernel_rfl); (case hr => intro w; exact run_addZ 12 rfl (by kernel_rfl) E12.out (by omega) w); simp only [Act.put, List.setIfInBounds_toArray, List.set_cons_succ, List.set_cons_zero]))
                  refine (rquarter_any Y u11 i i4 i8 i12 wr VM.out WY.out l0 l4 l8 l12).mono ?_
                  rintro e w7 ⟨v7, rfl, r7, hb7⟩
                  have Q7 := Q6.trans (hb7.mono Q6.size)
                  have E7 := E2.under hb7
                  have VF7 : Kept _ := ⟨VF6.out.und hb7⟩
                  have VM7 : Kept (IntsV .u32 v7 w7 (colL X (i + 1))) := ⟨by rw [EY.out]; exact row_cells r7⟩
                  clear Q6 E2 VF6 VM r7 hb7 EY E4 E8 E12 WY
                  go_wp2_with fail
                  go_roundg (gk - 1)
                  case measure => omega
                  case rel => exact ⟨i + 1, by omega, by simp, Q7, E7, VF7, VM7⟩
                case neg =>
                  have hi' : ¬ (i : Int) < 4 := by omega
                  obtain ⟨Y, hY⟩ : ∃ Y, Y = colL X 4 := ⟨_, rfl⟩
                  have WY : Kept (Ws Y) := ⟨by rw [hY]; exact WX.out.col 4⟩
                  have VY : Kept (IntsV .u32 u11 wr Y) := ⟨by rw [hY, show (4 : Nat) = i by omega]; exact VM.out⟩
                  have EY : Kept _ := ⟨hY⟩
                  clear VM hY hik hi
                  go_wp2_with fail
                  go_loopg [11, 14] 4 (fun k s11 s14 wr => ∃ i : Nat, i + k = 4 ∧ s14 = .int .i64 (i : Int) ∧ Below w.heap.size w wr ∧ Blk wr (w.heap.size + 2) 50 (ints .u8 Z0) ∧ Kept (IntsV .u32 (.slice (some AF) 16 cf) wr FF) ∧ Kept (IntsV .u32 s11 wr (diaL Y i)))
                  case atStart => exact ⟨0, by omega, rfl, Q6, E2, VF6, VY⟩
                  case round =>
                    clear Q6 E2 VF6 VY
                    obtain ⟨i, hik, rfl, Q6, E2, VF6, VM⟩ := hrel
                    by_cases hi : i < 4
                    case pos =>
                      have hi' : (i : Int) < 4 := by omega
                      obtain ⟨i1, h1⟩ : ∃ q, q = i + 1 := ⟨_, rfl⟩
                      obtain ⟨m1, k1⟩ : ∃ q, q = i1 % 4 := ⟨_, rfl⟩
                      obtain ⟨i4, h4⟩ : ∃ q, q = m1 + 4 := ⟨_, rfl⟩
                      obtain ⟨i2, h2⟩ : ∃ q, q = i + 2 := ⟨_, rfl⟩
                      obtain ⟨m2, k2⟩ : ∃ q, q = i2 % 4 := ⟨_, rfl⟩
                      obtain ⟨i8, h8⟩ : ∃ q, q = m2 + 8 := ⟨_, rfl⟩
                      obtain ⟨i3, h3⟩ : ∃ q, q = i + 3 := ⟨_, rfl⟩
                      obtain ⟨m3, k3⟩ : ∃ q, q = i3 % 4 := ⟨_, rfl⟩
                      obtain ⟨i12, h12⟩ : ∃ q, q = m3 + 12 := ⟨_, rfl⟩
                      obtain ⟨T, hT⟩ : ∃ T, T = diaL Y i := ⟨_, rfl⟩
                      have WT : Kept (Ws T) := ⟨by rw [hT]; exact WY.out.dia i⟩
                      rw [← hT] at VM
                      have ET : Kept (diaL Y (i + 1) = qL T i i4 i8 i12) := ⟨by rw [hT, h4, h8, h12, k1, k2, k3, h1, h2, h3]; rfl⟩
                      have E1 : Kept _ := ⟨h1⟩
                      have E2p : Kept _ := ⟨h2⟩
                      have E3 : Kept _ := ⟨h3⟩
                      have K1 : Kept _ := ⟨k1⟩
                      have K2 : Kept _ := ⟨k2⟩
                      have K3 : Kept _ := ⟨k3⟩
                      have E4 : Kept _ := ⟨h4⟩
                      have E8 : Kept _ := ⟨h8⟩
                      have E12 : Kept _ := ⟨h12⟩
                      have l0 : i < 16 := by omega
                      have l4 : i4 < 16 := by omega
                      have l8 : i8 < 16 := by omega
                      have l12 : i12 < 16 := by omega
                      have li1 : i1 < 16 := by omega
                      have li2 : i2 < 16 := by omega
                      have li3 : i3 < 16 := by omega
                      clear h1 h2 h3 k1 k2 k3 h4 h8 h12 hT
                      go_wp2_with (first | ((with_reducible refine wv_val (d := 80) ?hd ?hw (.int .i64 (i1 : Int)) ?hr ?_); (case hd => rfl); (case hw => kernel_rfl); (case hr => intro w; exact run_addZ 1 rfl (by kernel_rfl) E1.out (by omega) w); simp only [Act.put, List.setIfInBounds_toArray, List.set_cons_succ, List.set_cons_zero]) | ((with_reducible refine wv_val (d := 81) ?hd ?hw (.int .i64 (m1 : Int)) ?hr ?_); (case hd => rfl); (case hw => kernel_rfl); (case hr => intro w; exact run_rem4 rfl (by kernel_rfl) K1.out (by omega) w); simp only [Act.put, List.setIfInBounds_toArray, List.set_cons_succ, List.set_cons_zero]) | ((with_reducible refine wv_val (d := 82) ?hd ?hw (.int .i64 (i4 : Int)) ?hr ?_); (case hd => rfl); (case hw => kernel_rfl); (case hr => intro w; exact run_addZ 4 rfl (by kernel_rfl) E4.out (by omega) w); simp only [Act.put, List.setIfInBounds_toArray, List.set_cons_succ, List.set_cons_zero]) | ((with_reducible refine wv_val (d := 84) ?hd ?hw (.int .i64 (i2 : Int)) ?hr ?_); (case hd => rfl); (case hw => kernel_rfl); (case hr => intro w; exact run_addZ 2 rfl (by kernel_rfl) E2p.out (by omega) w); simp only [Act.put, List.setIfInBounds_toArray, List.set_cons_succ, List.set_cons_zero]) | ((with_reducible refine wv_val (d := 85) ?hd ?hw (.int .i64 (m2 : Int)) ?hr ?_); (case hd => rfl); (case hw => kernel_rfl); (case hr => intro w; exact run_rem4 rfl (by kernel_rfl) K2.out (by omega) w); simp only [Act.put, List.setIfInBounds_toArray, List.set_cons_succ, List.set_cons_zero]) | ((with_reducible refine wv_val (d := 86) ?hd ?hw (.int .i64 (i8 : Int)) ?hr ?_); (case hd => rfl); (case hw => kernel_rfl); (case hr => intro w; exact run_addZ 8 rfl (by kernel_rfl) E8.out (by omega) w); simp only [Act.put, List.setIfInBounds_toArray, List.set_cons_succ, List.set_cons_zero]) | ((with_reducible refine wv_val (d := 88) ?hd ?hw (.int .i64 (i3 : Int)) ?hr ?_); (case hd => rfl); (case hw => kernel_rfl); (case hr => intro w; exact run_addZ 3 rfl (by kernel_rfl) E3.out (by omega) w); simp only [Act.put, List.setIfInBounds_toArray, List.set_cons_succ, List.set_cons_zero]) | ((with_reducible refine wv_val (d := 89) ?hd ?hw (.int .i64 (m3 : Int)) ?hr ?_); (case hd => rfl); (case hw => kernel_rfl); (case hr => intro w; exact run_rem4 rfl (by kernel_rfl) K3.out (by omega) w); simp only [Act.put, List.setIfInBounds_toArray, List.set_cons_succ, List.set_cons_zero]) | ((with_reducible refine wv_val (d := 90) ?hd ?hw (.int .i64 (i12 : Int)) ?hr ?_); (case hd => rfl); (case hw => kernel_rfl); (case hr => intro w; exact run_addZ 12 rfl (by kernel_rfl) E12.out (by omega) w); simp only [Act.put, List.setIfInBounds_toArray, List.set_cons_succ, List.set_cons_zero]))
                      refine (rquarter_any T u11 i i4 i8 i12 wr VM.out WT.out l0 l4 l8 l12).mono ?_
                      rintro e w7 ⟨v7, rfl, r7, hb7⟩
                      have Q7 := Q6.trans (hb7.mono Q6.size)
                      have E7 := E2.under hb7
                      have VF7 : Kept _ := ⟨VF6.out.und hb7⟩
                      have VM7 : Kept (IntsV .u32 v7 w7 (diaL Y (i + 1))) := ⟨by rw [ET.out]; exact row_cells r7⟩
                      clear Q6 E2 VF6 VM r7 hb7 ET E1 E2p E3 K1 K2 K3 E4 E8 E12 WT
                      go_wp2_with fail
                      go_roundg (gk - 1)
                      case measure => omega
                      case rel => exact ⟨i + 1, by omega, by simp, Q7, E7, VF7, VM7⟩
                    case neg =>
                      have hi' : ¬ (i : Int) < 4 := by omega
                      obtain ⟨X2, hX2⟩ : ∃ X, X = mixT FF (n + 1) := ⟨_, rfl⟩
                      have VX2 : Kept (IntsV .u32 u11 wr X2) := ⟨by
                        have e : X2 = diaL Y 4 := by rw [hX2, EY.out, EX.out]; rfl
                        rw [e, show (4 : Nat) = i by omega]
                        exact VM.out⟩
                      have EX2 : Kept _ := ⟨hX2⟩
                      clear VM hX2 EY WY hik hi EX WX
                      go_wp2_with fail
                      go_roundg (gk0 - 1)
                      case measure => omega
                      case rel => exact ⟨n + 1, X2, by omega, by simp, EX2, Q6, E2, VF6, VX2⟩
            case neg =>
              have hn' : ¬ (n : Int) < 10 := by omega
              obtain ⟨P, hP⟩ : ∃ P, P = plusL FF X := ⟨_, rfl⟩
              have WP : Kept (Ws P) := ⟨by rw [hP]; exact WF.out.plus WX.out⟩
              have EP : Kept _ := ⟨hP⟩
              have ELP : Kept (L = leL P) := ⟨by rw [EL.out, hP, EX.out, show n = 10 by omega]⟩
              have hX16 := WX.out.len
              have NX : Kept (X ≠ []) := ⟨fun e => by rw [e] at hX16; cases hX16⟩
              obtain ⟨pM, cm, eM, _, hpM⟩ := VM.out
              obtain ⟨AM, rfl, hAM0, _⟩ := hpM NX.out
              have hAM : Kept (AM.block ≠ wr.heap.size) := ⟨by omega⟩
              have hAF : Kept (AF.block ≠ wr.heap.size) := ⟨by
                obtain ⟨p', c', e1, _, e3⟩ := VF6.out
                obtain ⟨A', e4, e5, _⟩ := e3 NF.out
                simp only [Value.slice.injEq] at e1
                have e6 : AF = A' := by have := e1.1; rw [e4] at this; exact Option.some.inj this
                rw [e6]
                omega⟩
              clear hAM0
              rw [hX16] at eM
              subst eM
              clear hpM hX16 EX EL hP hnk hn
              have A15 : Blk (wr.alloc (.cells #[.int .u8 0, .int .u8 0, .int .u8 0, .int .u8 0, .int .u8 0, .int .u8 0, .int .u8 0, .int .u8 0, .int .u8 0, .int .u8 0, .int .u8 0, .int .u8 0, .int .u8 0, .int .u8 0, .int .u8 0, .int .u8 0, .int .u8 0, .int .u8 0, .int .u8 0, .int .u8 0, .int .u8 0, .int .u8 0, .int .u8 0, .int .u8 0, .int .u8 0, .int .u8 0, .int .u8 0, .int .u8 0, .int .u8 0, .int .u8 0, .int .u8 0, .int .u8 0, .int .u8 0, .int .u8 0, .int .u8 0, .int .u8 0, .int .u8 0, .int .u8 0, .int .u8 0, .int .u8 0, .int .u8 0, .int .u8 0, .int .u8 0, .int .u8 0, .int .u8 0, .int .u8 0, .int .u8 0, .int .u8 0, .int .u8 0, .int .u8 0, .int .u8 0, .int .u8 0, .int .u8 0, .int .u8 0, .int .u8 0, .int .u8 0, .int .u8 0, .int .u8 0, .int .u8 0, .int .u8 0, .int .u8 0, .int .u8 0, .int .u8 0, .int .u8 0] 50)) wr.heap.size 50 (ints .u8 (mix L Z0 (4 * 0))) := by rw [Nat.mul_zero, mix_zero, ← EI.out]; exact blk_new _ _ _
              have QA : Below wr.heap.size wr (wr.alloc (.cells #[.int .u8 0, .int .u8 0, .int .u8 0, .int .u8 0, .int .u8 0, .int .u8 0, .int .u8 0, .int .u8 0, .int .u8 0, .int .u8 0, .int .u8 0, .int .u8 0, .int .u8 0, .int .u8 0, .int .u8 0, .int .u8 0, .int .u8 0, .int .u8 0, .int .u8 0, .int .u8 0, .int .u8 0, .int .u8 0, .int .u8 0, .int .u8 0, .int .u8 0, .int .u8 0, .int .u8 0, .int .u8 0, .int .u8 0, .int .u8 0, .int .u8 0, .int .u8 0, .int .u8 0, .int .u8 0, .int .u8 0, .int .u8 0, .int .u8 0, .int .u8 0, .int .u8 0, .int .u8 0, .int .u8 0, .int .u8 0, .int .u8 0, .int .u8 0, .int .u8 0, .int .u8 0, .int .u8 0, .int .u8 0, .int .u8 0, .int .u8 0, .int .u8 0, .int .u8 0, .int .u8 0, .int .u8 0, .int .u8 0, .int .u8 0, .int .u8 0, .int .u8 0, .int .u8 0, .int .u8 0, .int .u8 0, .int .u8 0, .int .u8 0, .int .u8 0] 50)) := (Below.refl _ _).alloc (Nat.le_refl _) _
              have Q7 := Q6.trans (QA.mono Q6.size)
              have E7 := E2.under QA
              have VF7 : Kept _ := ⟨VF6.out.und QA⟩
              have VM7 : Kept _ := ⟨VM.out.und QA⟩
              have hlt : w.heap.size + 2 < wr.heap.size := E2.lt
              clear Q6 E2 VF6 VM QA EI
              go_wp2_with fail
              generalize hW2 : wr.alloc (.cells #[.int .u8 0, .int .u8 0, .int .u8 0, .int .u8 0, .int .u8 0, .int .u8 0, .int .u8 0, .int .u8 0, .int .u8 0, .int .u8 0, .int .u8 0, .int .u8 0, .int .u8 0, .int .u8 0, .int .u8 0, .int .u8 0, .int .u8 0, .int .u8 0, .int .u8 0, .int .u8 0, .int .u8 0, .int .u8 0, .int .u8 0, .int .u8 0, .int .u8 0, .int .u8 0, .int .u8 0, .int .u8 0, .int .u8 0, .int .u8 0, .int .u8 0, .int .u8 0, .int .u8 0, .int .u8 0, .int .u8 0, .int .u8 0, .int .u8 0, .int .u8 0, .int .u8 0, .int .u8 0, .int .u8 0, .int .u8 0, .int .u8 0, .int .u8 0, .int .u8 0, .int .u8 0, .int .u8 0, .int .u8 0, .int .u8 0, .int .u8 0, .int .u8 0, .int .u8 0, .int .u8 0, .int .u8 0, .int .u8 0, .int .u8 0, .int .u8 0, .int .u8 0, .int .u8 0, .int .u8 0, .int .u8 0, .int .u8 0, .int .u8 0, .int .u8 0] 50) = w8 at *
              generalize hg15 : wr.heap.size = g15 at *
              clear hW2 hg15
              go_loopg [16] 16 (fun k s16 wr => ∃ i : Nat, i + k = 16 ∧ s16 = .int .i64 (i : Int) ∧ Below w.heap.size w wr ∧ Blk wr (w.heap.size + 2) 50 (ints .u8 Z0) ∧ Kept (IntsV .u32 (.slice (some AF) 16 cf) wr FF) ∧ Kept (IntsV .u32 (.slice (some AM) 16 cm) wr X) ∧ Blk wr g15 50 (ints .u8 (mix L Z0 (4 * i))))
              case atStart => exact ⟨0, by omega, rfl, Q7, E7, VF7, VM7, A15⟩
              case round =>
                clear Q7 E7 VF7 VM7 A15
                obtain ⟨i, hik, rfl, Q7, E7, VF7, VM7, A15⟩ := hrel
                by_cases hi16 : i < 16
                case pos =>
                  have hi' : (i : Int) < 16 := by omega
                  obtain ⟨gk0, hg0⟩ : ∃ q, q = gk := ⟨_, rfl⟩
                  obtain ⟨x, hx⟩ : ∃ x, x = X.getD i 0 := ⟨_, rfl⟩
                  obtain ⟨y, hy⟩ : ∃ x, x = FF.getD i 0 := ⟨_, rfl⟩
                  obtain ⟨z, hz⟩ : ∃ z, z = (x + y) % 4294967296 := ⟨_, rfl⟩
                  have GX : X[i]? = some x := by rw [hx]; exact WX.out.get i hi16
                  have GF : FF[i]? = some y := by rw [hy]; exact WF.out.get i hi16
                  have GP : Kept (P[i]? = some z) := ⟨by rw [EP.out, plusL_get FF X i y x GF GX, hz, Nat.add_comm]⟩
                  have hz4 : z < 4294967296 := by rw [hz]; exact Nat.mod_lt _ (by decide)
                  have CM : Kept (∀ w', Below wr.heap.size wr w' → w'.cell? (AM.add i) = some (.int .u32 (x : Int))) := ⟨fun w' hb => cell_at (VM7.out.und hb) GX⟩
                  have CF : Kept (∀ w', Below wr.heap.size wr w' → w'.cell? (AF.add i) = some (.int .u32 (y : Int))) := ⟨fun w' hb => cell_at (VF7.out.und hb) GF⟩
                  have Ez : Kept _ := ⟨hz⟩
                  clear hx hy hz GX GF
                  go_wp2_with fail
                  refine region_ownL wr 10 [(96, .slice (some AM) 16 cm), (97, .int .i64 (i : Int)), (98, .pointer (some (AM.add i))), (99, .int .u32 (x : Int)), (100, .slice (some AF) 16 cf), (101, .int .i64 (i : Int)), (102, .pointer (some (AF.add i))), (103, .int .u32 (y : Int)), (104, .int .u32 (z : Int)), (17, .int .u32 (z : Int))] [] [] [] rfl (by kernel_rfl) (by kernel_rfl) (by kernel_rfl) (by kernel_rfl) (by kernel_rfl) (by kernel_rfl) (by kernel_rfl) (by kernel_rfl) (by kernel_rfl) (by kernel_rfl) (by kernel_rfl) ?hst1 ?hst2 (Below.refl _ _) (fun hA => ⟨ow_val hA (wants_none rfl) 96 (.slice (some AM) 16 cm) (by kernel_rfl) rfl rfl rfl rfl (by kernel_rfl) (fun w => by kernel_rfl), ow_val hA (wants_none rfl) 97 (.int .i64 (i : Int)) (by kernel_rfl) rfl rfl rfl rfl (by kernel_rfl) (fun w => by kernel_rfl), ow_val hA (wants_none rfl) 98 (.pointer (some (AM.add i))) (by kernel_rfl) rfl rfl rfl rfl (by kernel_rfl) (fun w => run_idxS (A := AM) (i := i) (l := 16) (c := cm) rfl (by kernel_rfl) (by kernel_rfl) Try.underlying75 hi16 sz_u32 w), ow_elem hA (wants_none rfl) 99 (.int .u32 (x : Int)) (by kernel_rfl) rfl rfl rfl rfl (by kernel_rfl) 38 ag_u32 (.tmp 98) rfl (AM.add i) (by kernel_rfl) (fun w1 hb => CM.out w1 hb), ow_val hA (wants_none rfl) 100 (.slice (some AF) 16 cf) (by kernel_rfl) rfl rfl rfl rfl (by kernel_rfl) (fun w => by kernel_rfl), ow_val hA (wants_none rfl) 101 (.int .i64 (i : Int)) (by kernel_rfl) rfl rfl rfl rfl (by kernel_rfl) (fun w => by kernel_rfl), ow_val hA (wants_none rfl) 102 (.pointer (some (AF.add i))) (by kernel_rfl) rfl rfl rfl rfl (by kernel_rfl) (fun w => run_idxS (A := AF) (i := i) (l := 16) (c := cf) rfl (by kernel_rfl) (by kernel_rfl) Try.underlying75 hi16 sz_u32 w), ow_elem hA (wants_none rfl) 103 (.int .u32 (y : Int)) (by kernel_rfl) rfl rfl rfl rfl (by kernel_rfl) 38 ag_u32 (.tmp 102) rfl (AF.add i) (by kernel_rfl) (fun w1 hb => CF.out w1 hb), ow_val hA (wants_none rfl) 104 (.int .u32 (z : Int)) (by kernel_rfl) rfl rfl rfl rfl (by kernel_rfl) (fun w => run_add32 (m := x) (n := y) rfl (by kernel_rfl) (by kernel_rfl) Ez.out w), ow_val hA (wants_none rfl) 17 (.int .u32 (z : Int)) (by kernel_rfl) rfl rfl rfl rfl (by kernel_rfl) (fun w => by kernel_rfl), trivial⟩) ?_
                  case hst1 => intro q hq; cases hq
                  case hst2 => intro q hq; cases hq
                  intro fv w9 hf hD hb9
                  simp only [putR, List.foldl_cons, List.foldl_nil, List.map_cons, List.map_nil, Act.put, List.setIfInBounds_toArray, List.set_cons_succ, List.set_cons_zero]
                  clear hf hD CM CF
                  have Q9 := Q7.trans (hb9.mono Q7.size)
                  have E9 := E7.under hb9
                  have VF9 : Kept _ := ⟨VF7.out.und hb9⟩
                  have VM9 : Kept _ := ⟨VM7.out.und hb9⟩
                  have A9 := A15.under hb9
                  clear Q7 E7 VF7 VM7 A15 hb9 Ez
                  refine (show wpList _ _ _ [] _ _ from ?_)
                  refine wpList_nil ?_
                  go_wp2_with fail
                  go_loopg [17, 18] 4 (fun k s17 s18 wr => ∃ t nn : Nat, t + k = 4 ∧ s18 = .int .i64 (t : Int) ∧ s17 = .int .u32 (nn : Int) ∧ Kept (nn = z / 256 ^ t) ∧ Below w.heap.size w wr ∧ Blk wr (w.heap.size + 2) 50 (ints .u8 Z0) ∧ Kept (IntsV .u32 (.slice (some AF) 16 cf) wr FF) ∧ Kept (IntsV .u32 (.slice (some AM) 16 cm) wr X) ∧ Blk wr g15 50 (ints .u8 (mix L Z0 (4 * i + t))))
                  case atStart => exact ⟨0, z, by omega, rfl, rfl, ⟨by rw [Nat.pow_zero, Nat.div_one]⟩, Q9, E9, VF9, VM9, A9⟩
                  case round =>
                    clear Q9 E9 VF9 VM9 A9
                    obtain ⟨t, nn, htk, rfl, rfl, EN, Q9, E9, VF9, VM9, A9⟩ := hrel
                    by_cases ht : t < 4
                    case pos =>
                      have ht' : (t : Int) < 4 := by omega
                      obtain ⟨q4, hq4⟩ : ∃ q, q = 4 * i := ⟨_, rfl⟩
                      obtain ⟨q, hq⟩ : ∃ q, q = q4 + t := ⟨_, rfl⟩
                      obtain ⟨bb, hbb⟩ : ∃ b, b = nn % 256 := ⟨_, rfl⟩
                      obtain ⟨n2, hn2⟩ : ∃ b, b = nn / 256 := ⟨_, rfl⟩
                      have q64 : q < 64 := by omega
                      have q462 : q4 < 64 := by omega
                      have bb8 : bb < 256 := by omega
                      have nn4 : nn < 4294967296 := by rw [EN.out]; exact Nat.lt_of_le_of_lt (Nat.div_le_self _ _) hz4
                      have GL : Kept (L[q]? = some bb) := ⟨by
                        rw [ELP.out, leL_get P q z q64 (by rw [show q / 4 = i by omega]; exact GP.out), show q % 4 = t by omega, pow256, hbb, EN.out]⟩
                      have EN2 : Kept (n2 = z / 256 ^ (t + 1)) := ⟨by rw [hn2, EN.out, Nat.pow_succ, Nat.div_div_eq_div_mul]⟩
                      have ESET : Kept ((mix L Z0 (4 * i + t)).set q bb = mix L Z0 (4 * i + (t + 1))) := ⟨by
                        have e : q = 4 * i + t := by omega
                        rw [← e, show 4 * i + (t + 1) = q + 1 by omega]
                        exact mix_set L Z0 q bb (by rw [LL.out, LZ.out]) GL.out⟩
                      have LM : Kept (q < (ints .u8 (mix L Z0 (4 * i + t))).size) := ⟨by rw [ints_size, mix_len L Z0 _ (by rw [LL.out, LZ.out]), LZ.out]; exact q64⟩
                      have Eq4 : Kept _ := ⟨hq4⟩
                      have Eq : Kept _ := ⟨hq⟩
                      have Ebb : Kept _ := ⟨hbb⟩
                      have En2 : Kept _ := ⟨hn2⟩
                      clear hq4 hq hbb hn2 EN
                      go_wp2_with (first | ((with_reducible refine wv_val (d := 110) ?hd ?hw (.int .i64 (q4 : Int)) ?hr ?_); (case hd => rfl); (case hw => kernel_rfl); (case hr => intro w; exact run_mulC 4 rfl (by kernel_rfl) Eq4.out (by omega) w); simp only [Act.put, List.setIfInBounds_toArray, List.set_cons_succ, List.set_cons_zero]) | ((with_reducible refine wv_val (d := 112) ?hd ?hw (.int .i64 (q : Int)) ?hr ?_); (case hd => rfl); (case hw => kernel_rfl); (case hr => intro w; exact run_addN rfl (by kernel_rfl) (by kernel_rfl) Eq.out (by omega) w); simp only [Act.put, List.setIfInBounds_toArray, List.set_cons_succ, List.set_cons_zero]) | ((with_reducible refine wv_val (d := 114) ?hd ?hw (.int .u32 (bb : Int)) ?hr ?_); (case hd => rfl); (case hw => kernel_rfl); (case hr => intro w; exact run_rem32c rfl (by kernel_rfl) Ebb.out w); simp only [Act.put, List.setIfInBounds_toArray, List.set_cons_succ, List.set_cons_zero]) | ((with_reducible refine wv_val (d := 115) ?hd ?hw (.int .u8 (bb : Int)) ?hr ?_); (case hd => rfl); (case hw => kernel_rfl); (case hr => intro w; exact run_c328 rfl (by kernel_rfl) bb8 w); simp only [Act.put, List.setIfInBounds_toArray, List.set_cons_succ, List.set_cons_zero]) | ((with_reducible refine wv_val (d := 116) ?hd ?hw (.pointer (some ⟨g15, q, none⟩)) ?hr ?_); (case hd => rfl); (case hw => kernel_rfl); (case hr => intro w; exact run_idx rfl (by kernel_rfl) (by kernel_rfl) Try.underlying50 q64 sz_u8 w); simp only [Act.put, List.setIfInBounds_toArray, List.set_cons_succ, List.set_cons_zero]) | (refine wl_setElem rfl 5 sz_u8 (.tmp 116) (.tmp 115) rfl g15 q .u8 (bb : Int) rfl rfl _ A9 LM.out ?_))
                      intro w10 A10 P10
                      rw [ints_set, ESET.out] at A10
                      have E10 := P10.blk E9 (by omega)
                      have Q10 := Q9.trans (P10.below (by omega))
                      have VF10 : Kept (IntsV .u32 (.slice (some AF) 16 cf) w10 FF) := ⟨VF9.out.keeps P10.grown (.inr (fun e => hAF.out (by cases e; rfl)))⟩
                      have VM10 : Kept (IntsV .u32 (.slice (some AM) 16 cm) w10 X) := ⟨VM9.out.keeps P10.grown (.inr (fun e => hAM.out (by cases e; rfl)))⟩
                      clear A9 E9 Q9 VF9 VM9 P10 GL ESET LM Eq4 Eq Ebb
                      go_wp2_with (first | ((with_reducible refine wv_val (d := 118) ?hd ?hw (.int .u32 (n2 : Int)) ?hr ?_); (case hd => rfl); (case hw => kernel_rfl); (case hr => intro w; exact run_quo32c 256 rfl (by kernel_rfl) (by decide) nn4 En2.out w); simp only [Act.put, List.setIfInBounds_toArray, List.set_cons_succ, List.set_cons_zero]))
                      go_roundg (gk - 1)
                      case measure => omega
                      case rel => exact ⟨t + 1, n2, by omega, by simp, rfl, EN2, Q10, E10, VF10, VM10, A10⟩
                    case neg =>
                      have ht' : ¬ (t : Int) < 4 := by omega
                      rw [show 4 * i + t = 4 * (i + 1) by omega] at A9
                      clear EN htk ht
                      go_wp2_with fail
                      go_roundg (gk0 - 1)
                      case measure => omega
                      case rel => exact ⟨i + 1, by omega, by simp, Q9, E9, VF9, VM9, A9⟩
                case neg =>
                  have hi' : ¬ (i : Int) < 16 := by omega
                  rw [show mix L Z0 (4 * i) = L by rw [show 4 * i = Z0.length by rw [LZ.out]; omega]; exact mix_all L Z0 (by rw [LL.out, LZ.out])] at A15
                  clear VF7 VM7
                  go_wp2_with (first | (refine wl_load rfl 50 (.tmp 15) rfl g15 rfl (ints .u8 L) 64 5 Try.underlying50 (by rw [ints_size, LL.out]; exact i64_inf2) A15 ?_) | (refine wl_store rfl 50 (.tmp 6) (.tmp 119) rfl (w.heap.size + 2) (ints .u8 L) rfl rfl _ E7 (by rw [ints_size, LL.out]; exact i64_inf2) (by rw [ints_size, ints_size, LL.out, LZ.out]) (ints_one _ _) ?_))
                  intro w11 A11 P11
                  go_wp2
                  exact bodyPost_ret (v := .agg (ints .u8 L)) (results_cell_row Try.results26 _ _ _ 50 (ints .u8 L) (0, 0) _ rfl A11 Try.underlying50 rfl (by rw [ints_size, LL.out]; exact i64_inf2)) rfl ⟨rfl, Q7.trans (P11.below (by omega))⟩
end Go.Proofs.Ytpamcmhfimnfbaa.sh
/-
  The reference: bytes turned by blocks.
-/
namespace Go.Proofs.Ytpamcmhfimnfbaa.sh
open Go Go.RowKit
set_option linter.unusedVariables false
set_option linter.unusedSimpArgs false

theorem run_eq0 {o : Oper} {a : Act} {x : Operand} {m : Nat} {b : Bool} (ho : o.op = .binOp .eql 3 x (.const (.int .i64 0)) 3) (hx : a.eval x = .int .i64 (m : Int)) (hb : b = decide (m = 0)) (w : World) : (execOp a.eval o).run Try.prog w = .ok (.value (.bool b)) w := by
  have e3 : a.eval (.const (.int .i64 0)) = .int .i64 0 := rfl
  unfold execOp
  simp only [ho, hx, e3]
  simp [go_sem, hb]
  by_cases h : m = 0
  · subst h; rfl
  · have : ¬ (m : Int) = 0 := by omega
    simp [h]
set_option maxRecDepth 100000 in
set_option maxHeartbeats 1000000 in
theorem rXor_end (key nonce b : List Nat) (count : Nat) (vb : Value) (w : World) (hvb : BytesV vb w b) (hc : count < 4294967296) (h : b.length ≤ 65536) (he : 4294967296 < count + (b.length + 63) / 64) :
    Calls Try.prog 16 #[.agg (ints .u8 key), .agg (ints .u8 nonce), .int .u32 (count : Int), vb] w fun e w' => e = .returned (.tuple #[.slice none 0 0, .int .i64 12]) ∧ Below w.heap.size w w' := by
  obtain ⟨p, c, rfl, _, _⟩ := hvb
  obtain ⟨n, hn⟩ : ∃ n, n = b.length := ⟨_, rfl⟩
  rw [← hn] at h he ⊢
  obtain ⟨n3, h3⟩ : ∃ q, q = n + 63 := ⟨_, rfl⟩
  obtain ⟨B, hB⟩ : ∃ B, B = n3 / 64 := ⟨_, rfl⟩
  obtain ⟨S, hS⟩ : ∃ S, S = count + B := ⟨_, rfl⟩
  have hBB : Kept (true = decide (4294967296 < S)) := ⟨(decide_eq_true (by omega)).symm⟩
  have HS : Kept _ := ⟨hS⟩
  have HB : Kept _ := ⟨hB⟩
  have E3 : Kept _ := ⟨h3⟩
  have n362 : n3 < 4611686018427387904 := by omega
  have hB62 : B < 4611686018427387904 := by omega
  have hS62 : S < 4611686018427387904 := by omega
  have Q0 := W2_below w (ints .u8 key) (ints .u8 nonce)
  have h' : ¬ (65536 : Int) < (n : Int) := by omega
  clear hn hB hS he h3
  go_enter Try.func16, Try.ntmps16
  go_wp2_with (first | ((with_reducible refine wv_val (d := 24) ?hd ?hw (.bool true) ?hr ?_); (case hd => rfl); (case hw => kernel_rfl); (case hr => intro w; exact run_gtr64c rfl (by kernel_rfl) hBB.out w); simp only [Act.put, List.setIfInBounds_toArray, List.set_cons_succ, List.set_cons_zero]) | ((with_reducible refine wv_val (d := 17) ?hd ?hw (.int .u64 (count : Int)) ?hr ?_); (case hd => rfl); (case hw => kernel_rfl); (case hr => intro w; exact run_c3264 rfl (by kernel_rfl) hc w); simp only [Act.put, List.setIfInBounds_toArray, List.set_cons_succ, List.set_cons_zero]) | ((with_reducible refine wv_val (d := 20) ?hd ?hw (.int .i64 (n3 : Int)) ?hr ?_); (case hd => rfl); (case hw => kernel_rfl); (case hr => intro w; exact run_addZ 63 rfl (by kernel_rfl) E3.out n362 w); simp only [Act.put, List.setIfInBounds_toArray, List.set_cons_succ, List.set_cons_zero]) | ((with_reducible refine wv_val (d := 21) ?hd ?hw (.int .i64 (B : Int)) ?hr ?_); (case hd => rfl); (case hw => kernel_rfl); (case hr => intro w; exact run_quo64 rfl (by kernel_rfl) HB.out n362 w); simp only [Act.put, List.setIfInBounds_toArray, List.set_cons_succ, List.set_cons_zero]) | ((with_reducible refine wv_val (d := 22) ?hd ?hw (.int .u64 (B : Int)) ?hr ?_); (case hd => rfl); (case hw => kernel_rfl); (case hr => intro w; exact run_c364 rfl (by kernel_rfl) hB62 w); simp only [Act.put, List.setIfInBounds_toArray, List.set_cons_succ, List.set_cons_zero]) | ((with_reducible refine wv_val (d := 23) ?hd ?hw (.int .u64 (S : Int)) ?hr ?_); (case hd => rfl); (case hw => kernel_rfl); (case hr => intro w; exact run_add64 rfl (by kernel_rfl) (by kernel_rfl) HS.out hS62 w); simp only [Act.put, List.setIfInBounds_toArray, List.set_cons_succ, List.set_cons_zero]))
  go_ret2
  exact ⟨rfl, Q0⟩
set_option maxRecDepth 100000 in
set_option maxHeartbeats 4000000 in
theorem rXor_ok (key nonce b : List Nat) (count : Nat) (vb : Value) (w : World) (hk : key.length = 32) (hy : Bytes key) (hnl : nonce.length = 12) (hyn : Bytes nonce) (hyb : Bytes b) (hvb : BytesV vb w b) (hc : count < 4294967296) (h : b.length ≤ 65536) (he : count + (b.length + 63) / 64 ≤ 4294967296) :
    Calls Try.prog 16 #[.agg (ints .u8 key), .agg (ints .u8 nonce), .int .u32 (count : Int), vb] w fun e w' => ∃ v, e = .returned (.tuple #[v, .int .i64 0]) ∧ BytesV v w' (encL key nonce count b) ∧ Below w.heap.size w w' := by
  have KV : Kept _ := ⟨hvb⟩
  obtain ⟨pb, cb, rfl, _, _⟩ := hvb
  obtain ⟨n, hn⟩ : ∃ n, n = b.length := ⟨_, rfl⟩
  rw [← hn] at h he KV ⊢
  have EN : Kept _ := ⟨hn⟩
  obtain ⟨n3, h3⟩ : ∃ q, q = n + 63 := ⟨_, rfl⟩
  obtain ⟨B, hB⟩ : ∃ B, B = n3 / 64 := ⟨_, rfl⟩
  obtain ⟨S, hS⟩ : ∃ S, S = count + B := ⟨_, rfl⟩
  have hBB : Kept (false = decide (4294967296 < S)) := ⟨(decide_eq_false (by omega)).symm⟩
  have HS : Kept _ := ⟨hS⟩
  have HB : Kept _ := ⟨hB⟩
  have E3 : Kept _ := ⟨h3⟩
  have n362 : n3 < 4611686018427387904 := by omega
  have hB62 : B < 4611686018427387904 := by omega
  have hS62 : S < 4611686018427387904 := by omega
  have hcn : ∀ i, i < n → count + i / 64 < 4294967296 := fun i hi => by omega
  have HCN : Kept _ := ⟨hcn⟩
  obtain ⟨L, hL⟩ : ∃ L, L = encL key nonce count b := ⟨_, rfl⟩
  rw [← hL]
  have EL : Kept _ := ⟨hL⟩
  have LL : Kept (L.length = n) := ⟨by rw [hL, encL_len, ← hn]⟩
  have CBk : Kept (∀ (ct : Nat) (w' : World), ct < 4294967296 → Calls Try.prog 26 #[.agg (ints .u8 key), .agg (ints .u8 nonce), .int .u32 (ct : Int)] w' fun e w2 => e = .returned (.agg (ints .u8 (blockL key nonce ct))) ∧ Below w'.heap.size w' w2) := ⟨fun ct w' h => rBlock_any key nonce ct w' hk hy hnl hyn h⟩
  have LK : Kept _ := ⟨hk⟩
  have LN : Kept _ := ⟨hnl⟩
  have KYB : Kept _ := ⟨hyb⟩
  obtain ⟨Z0, hZ0⟩ : ∃ Z, Z = List.replicate 64 0 := ⟨_, rfl⟩
  have LZ : Kept (Z0.length = 64) := ⟨by rw [hZ0]; rfl⟩
  have EI : Kept ((#[.int .u8 0, .int .u8 0, .int .u8 0, .int .u8 0, .int .u8 0, .int .u8 0, .int .u8 0, .int .u8 0, .int .u8 0, .int .u8 0, .int .u8 0, .int .u8 0, .int .u8 0, .int .u8 0, .int .u8 0, .int .u8 0, .int .u8 0, .int .u8 0, .int .u8 0, .int .u8 0, .int .u8 0, .int .u8 0, .int .u8 0, .int .u8 0, .int .u8 0, .int .u8 0, .int .u8 0, .int .u8 0, .int .u8 0, .int .u8 0, .int .u8 0, .int .u8 0, .int .u8 0, .int .u8 0, .int .u8 0, .int .u8 0, .int .u8 0, .int .u8 0, .int .u8 0, .int .u8 0, .int .u8 0, .int .u8 0, .int .u8 0, .int .u8 0, .int .u8 0, .int .u8 0, .int .u8 0, .int .u8 0, .int .u8 0, .int .u8 0, .int .u8 0, .int .u8 0, .int .u8 0, .int .u8 0, .int .u8 0, .int .u8 0, .int .u8 0, .int .u8 0, .int .u8 0, .int .u8 0, .int .u8 0, .int .u8 0, .int .u8 0, .int .u8 0] : Array Value) = ints .u8 Z0) := ⟨by rw [hZ0]; exact z64_eq2⟩
  have A0 : Blk (((w.alloc (.cells (ints .u8 key) 22)).alloc (.cells (ints .u8 nonce) 36)).alloc (.cells #[.int .u8 0, .int .u8 0, .int .u8 0, .int .u8 0, .int .u8 0, .int .u8 0, .int .u8 0, .int .u8 0, .int .u8 0, .int .u8 0, .int .u8 0, .int .u8 0, .int .u8 0, .int .u8 0, .int .u8 0, .int .u8 0, .int .u8 0, .int .u8 0, .int .u8 0, .int .u8 0, .int .u8 0, .int .u8 0, .int .u8 0, .int .u8 0, .int .u8 0, .int .u8 0, .int .u8 0, .int .u8 0, .int .u8 0, .int .u8 0, .int .u8 0, .int .u8 0, .int .u8 0, .int .u8 0, .int .u8 0, .int .u8 0, .int .u8 0, .int .u8 0, .int .u8 0, .int .u8 0, .int .u8 0, .int .u8 0, .int .u8 0, .int .u8 0, .int .u8 0, .int .u8 0, .int .u8 0, .int .u8 0, .int .u8 0, .int .u8 0, .int .u8 0, .int .u8 0, .int .u8 0, .int .u8 0, .int .u8 0, .int .u8 0, .int .u8 0, .int .u8 0, .int .u8 0, .int .u8 0, .int .u8 0, .int .u8 0, .int .u8 0, .int .u8 0] 50)) w.heap.size 22 (ints .u8 key) := ((blk_new w _ _).alloc _).alloc _
  have A1 : Blk (((w.alloc (.cells (ints .u8 key) 22)).alloc (.cells (ints .u8 nonce) 36)).alloc (.cells #[.int .u8 0, .int .u8 0, .int .u8 0, .int .u8 0, .int .u8 0, .int .u8 0, .int .u8 0, .int .u8 0, .int .u8 0, .int .u8 0, .int .u8 0, .int .u8 0, .int .u8 0, .int .u8 0, .int .u8 0, .int .u8 0, .int .u8 0, .int .u8 0, .int .u8 0, .int .u8 0, .int .u8 0, .int .u8 0, .int .u8 0, .int .u8 0, .int .u8 0, .int .u8 0, .int .u8 0, .int .u8 0, .int .u8 0, .int .u8 0, .int .u8 0, .int .u8 0, .int .u8 0, .int .u8 0, .int .u8 0, .int .u8 0, .int .u8 0, .int .u8 0, .int .u8 0, .int .u8 0, .int .u8 0, .int .u8 0, .int .u8 0, .int .u8 0, .int .u8 0, .int .u8 0, .int .u8 0, .int .u8 0, .int .u8 0, .int .u8 0, .int .u8 0, .int .u8 0, .int .u8 0, .int .u8 0, .int .u8 0, .int .u8 0, .int .u8 0, .int .u8 0, .int .u8 0, .int .u8 0, .int .u8 0, .int .u8 0, .int .u8 0, .int .u8 0] 50)) (w.heap.size + 1) 36 (ints .u8 nonce) := (blk_top _ _ _ _ (by simp)).alloc _
  have A2 : Blk (((w.alloc (.cells (ints .u8 key) 22)).alloc (.cells (ints .u8 nonce) 36)).alloc (.cells #[.int .u8 0, .int .u8 0, .int .u8 0, .int .u8 0, .int .u8 0, .int .u8 0, .int .u8 0, .int .u8 0, .int .u8 0, .int .u8 0, .int .u8 0, .int .u8 0, .int .u8 0, .int .u8 0, .int .u8 0, .int .u8 0, .int .u8 0, .int .u8 0, .int .u8 0, .int .u8 0, .int .u8 0, .int .u8 0, .int .u8 0, .int .u8 0, .int .u8 0, .int .u8 0, .int .u8 0, .int .u8 0, .int .u8 0, .int .u8 0, .int .u8 0, .int .u8 0, .int .u8 0, .int .u8 0, .int .u8 0, .int .u8 0, .int .u8 0, .int .u8 0, .int .u8 0, .int .u8 0, .int .u8 0, .int .u8 0, .int .u8 0, .int .u8 0, .int .u8 0, .int .u8 0, .int .u8 0, .int .u8 0, .int .u8 0, .int .u8 0, .int .u8 0, .int .u8 0, .int .u8 0, .int .u8 0, .int .u8 0, .int .u8 0, .int .u8 0, .int .u8 0, .int .u8 0, .int .u8 0, .int .u8 0, .int .u8 0, .int .u8 0, .int .u8 0] 50)) (w.heap.size + 2) 50 (ints .u8 Z0) := by rw [← EI.out]; exact blk_top _ _ _ _ (by simp)
  have Q0 : Below w.heap.size w (((w.alloc (.cells (ints .u8 key) 22)).alloc (.cells (ints .u8 nonce) 36)).alloc (.cells #[.int .u8 0, .int .u8 0, .int .u8 0, .int .u8 0, .int .u8 0, .int .u8 0, .int .u8 0, .int .u8 0, .int .u8 0, .int .u8 0, .int .u8 0, .int .u8 0, .int .u8 0, .int .u8 0, .int .u8 0, .int .u8 0, .int .u8 0, .int .u8 0, .int .u8 0, .int .u8 0, .int .u8 0, .int .u8 0, .int .u8 0, .int .u8 0, .int .u8 0, .int .u8 0, .int .u8 0, .int .u8 0, .int .u8 0, .int .u8 0, .int .u8 0, .int .u8 0, .int .u8 0, .int .u8 0, .int .u8 0, .int .u8 0, .int .u8 0, .int .u8 0, .int .u8 0, .int .u8 0, .int .u8 0, .int .u8 0, .int .u8 0, .int .u8 0, .int .u8 0, .int .u8 0, .int .u8 0, .int .u8 0, .int .u8 0, .int .u8 0, .int .u8 0, .int .u8 0, .int .u8 0, .int .u8 0, .int .u8 0, .int .u8 0, .int .u8 0, .int .u8 0, .int .u8 0, .int .u8 0, .int .u8 0, .int .u8 0, .int .u8 0, .int .u8 0] 50)) := (((Below.refl _ _).alloc (Nat.le_refl _) _).alloc (by simp) _).alloc (by simp; omega) _
  have h' : ¬ (65536 : Int) < (n : Int) := by omega
  clear hn hB hS he h3 hcn hL hk hy hnl hyn hyb hZ0 EI
  go_enter Try.func16, Try.ntmps16
  go_wp2_with (first | ((with_reducible refine wv_val (d := 24) ?hd ?hw (.bool false) ?hr ?_); (case hd => rfl); (case hw => kernel_rfl); (case hr => intro w; exact run_gtr64c rfl (by kernel_rfl) hBB.out w); simp only [Act.put, List.setIfInBounds_toArray, List.set_cons_succ, List.set_cons_zero]) | ((with_reducible refine wv_val (d := 17) ?hd ?hw (.int .u64 (count : Int)) ?hr ?_); (case hd => rfl); (case hw => kernel_rfl); (case hr => intro w; exact run_c3264 rfl (by kernel_rfl) hc w); simp only [Act.put, List.setIfInBounds_toArray, List.set_cons_succ, List.set_cons_zero]) | ((with_reducible refine wv_val (d := 20) ?hd ?hw (.int .i64 (n3 : Int)) ?hr ?_); (case hd => rfl); (case hw => kernel_rfl); (case hr => intro w; exact run_addZ 63 rfl (by kernel_rfl) E3.out n362 w); simp only [Act.put, List.setIfInBounds_toArray, List.set_cons_succ, List.set_cons_zero]) | ((with_reducible refine wv_val (d := 21) ?hd ?hw (.int .i64 (B : Int)) ?hr ?_); (case hd => rfl); (case hw => kernel_rfl); (case hr => intro w; exact run_quo64 rfl (by kernel_rfl) HB.out n362 w); simp only [Act.put, List.setIfInBounds_toArray, List.set_cons_succ, List.set_cons_zero]) | ((with_reducible refine wv_val (d := 22) ?hd ?hw (.int .u64 (B : Int)) ?hr ?_); (case hd => rfl); (case hw => kernel_rfl); (case hr => intro w; exact run_c364 rfl (by kernel_rfl) hB62 w); simp only [Act.put, List.setIfInBounds_toArray, List.set_cons_succ, List.set_cons_zero]) | ((with_reducible refine wv_val (d := 23) ?hd ?hw (.int .u64 (S : Int)) ?hr ?_); (case hd => rfl); (case hw => kernel_rfl); (case hr => intro w; exact run_add64 rfl (by kernel_rfl) (by kernel_rfl) HS.out hS62 w); simp only [Act.put, List.setIfInBounds_toArray, List.set_cons_succ, List.set_cons_zero]))
  generalize hW : ((w.alloc (.cells (ints .u8 key) 22)).alloc (.cells (ints .u8 nonce) 36)).alloc (.cells #[.int .u8 0, .int .u8 0, .int .u8 0, .int .u8 0, .int .u8 0, .int .u8 0, .int .u8 0, .int .u8 0, .int .u8 0, .int .u8 0, .int .u8 0, .int .u8 0, .int .u8 0, .int .u8 0, .int .u8 0, .int .u8 0, .int .u8 0, .int .u8 0, .int .u8 0, .int .u8 0, .int .u8 0, .int .u8 0, .int .u8 0, .int .u8 0, .int .u8 0, .int .u8 0, .int .u8 0, .int .u8 0, .int .u8 0, .int .u8 0, .int .u8 0, .int .u8 0, .int .u8 0, .int .u8 0, .int .u8 0, .int .u8 0, .int .u8 0, .int .u8 0, .int .u8 0, .int .u8 0, .int .u8 0, .int .u8 0, .int .u8 0, .int .u8 0, .int .u8 0, .int .u8 0, .int .u8 0, .int .u8 0, .int .u8 0, .int .u8 0, .int .u8 0, .int .u8 0, .int .u8 0, .int .u8 0, .int .u8 0, .int .u8 0, .int .u8 0, .int .u8 0, .int .u8 0, .int .u8 0, .int .u8 0, .int .u8 0, .int .u8 0, .int .u8 0] 50) = wa at *
  clear hW
  go_loopg [10, 12] n (fun k s10 s12 wr => ∃ (i : Nat) (KB : List Nat), i + k = n ∧ s12 = .int .i64 (i : Int) ∧ Kept (i % 64 ≠ 0 → KB = blockL key nonce (count + i / 64)) ∧ Kept (KB.length = 64) ∧ Below w.heap.size w wr ∧ Blk wr w.heap.size 22 (ints .u8 key) ∧ Blk wr (w.heap.size + 1) 36 (ints .u8 nonce) ∧ Blk wr (w.heap.size + 2) 50 (ints .u8 KB) ∧ Kept (Row (w.heap.size + 3) 5 .u8 (L.take i) s10 wr))
  case atStart => exact ⟨0, Z0, by omega, rfl, ⟨fun h => absurd rfl h⟩, LZ, Q0, A0, A1, A2, ⟨row_nil _ _ _ _⟩⟩
  case round =>
    clear A0 A1 A2 Q0 LZ
    obtain ⟨i, KB, hik, rfl, EKB0, LKB, QR, D0, D1, D2, RO⟩ := hrel
    by_cases hi : i < n
    case pos =>
      have hi' : (i : Int) < (n : Int) := by omega
      obtain ⟨x, hx⟩ : ∃ x, b[i]? = some x := ⟨_, List.getElem?_eq_getElem (by have := EN.out; omega)⟩
      obtain ⟨r, hr⟩ : ∃ q, q = i % 64 := ⟨_, rfl⟩
      obtain ⟨q, hq⟩ : ∃ q, q = i / 64 := ⟨_, rfl⟩
      obtain ⟨ci, hci⟩ : ∃ z, z = (count + q) % 4294967296 := ⟨_, rfl⟩
      have hcq : count + q < 4294967296 := by rw [hq]; exact HCN.out i hi
      have hci2 : ci = count + q := by rw [hci]; exact Nat.mod_eq_of_lt hcq
      have hci4 : ci < 4294967296 := by omega
      have hq32 : q < 4294967296 := by omega
      have r64 : r < 64 := by omega
      obtain ⟨KB2, hKB2⟩ : ∃ K, K = blockL key nonce ci := ⟨_, rfl⟩
      obtain ⟨y, hy⟩ : ∃ y, y = KB2.getD r 0 := ⟨_, rfl⟩
      obtain ⟨z, hz⟩ : ∃ z, z = x ^^^ y := ⟨_, rfl⟩
      have hx8 : x < 256 := KYB.out i x hx
      have hy8 : y < 256 := by rw [hy, hKB2]; exact byte_getD (blockL_bytes _ _ _) _
      have LKB2 : Kept (KB2.length = 64) := ⟨by rw [hKB2]; exact blockL_len _ _ _⟩
      have GY : Kept ((ints .u8 KB2)[r]? = some (.int .u8 (y : Int))) := ⟨ints_get (by rw [hy, List.getD_eq_getElem?_getD, List.getElem?_eq_getElem (by rw [LKB2.out]; exact r64)]; rfl)⟩
      have GZ : Kept (L[i]? = some z) := ⟨by
        rw [EL.out, encL_get _ _ _ _ _ _ hx, hz, hy, hKB2, hci2, hq, hr]
        rfl⟩
      have EKB : Kept ((i + 1) % 64 ≠ 0 → KB2 = blockL key nonce (count + (i + 1) / 64)) := ⟨fun h1 => by
        rw [hKB2, hci2, hq, show (i + 1) / 64 = i / 64 by omega]⟩
      have EKB1 : Kept (r ≠ 0 → KB = KB2) := ⟨fun h1 => by rw [EKB0.out (by rw [← hr]; exact h1), hKB2, hci2, hq]⟩
      obtain ⟨AB, rfl, _, _⟩ := bytes_at KV.out hx
      have Cbk : Kept (∀ w', Calls Try.prog 26 #[.agg (ints .u8 key), .agg (ints .u8 nonce), .int .u32 (ci : Int)] w' fun e w2 => e = .returned (.agg (ints .u8 KB2)) ∧ Below w'.heap.size w' w2) := ⟨fun w' => by rw [hKB2]; exact CBk.out ci w' hci4⟩
      have Eq : Kept _ := ⟨hq⟩
      have Er : Kept _ := ⟨hr⟩
      have Ec : Kept _ := ⟨hci⟩
      have Ez : Kept _ := ⟨hz⟩
      have Gx : Kept _ := ⟨hx⟩
      clear hx hq hr hci hci2 hKB2 hy hz EKB0 hcq
      by_cases hr0 : r = 0
      case pos =>
        have HR0 : Kept (true = decide (r = 0)) := ⟨(decide_eq_true hr0).symm⟩
        clear hr0
        go_wp2_with (first | ((with_reducible refine wv_val (d := 32) ?hd ?hw (.int .i64 (r : Int)) ?hr ?_); (case hd => rfl); (case hw => kernel_rfl); (case hr => intro w; exact run_rem64 (i := i) rfl (by kernel_rfl) Er.out (by omega) w); simp only [Act.put, List.setIfInBounds_toArray, List.set_cons_succ, List.set_cons_zero]) | ((with_reducible refine wv_val (d := 33) ?hd ?hw (.bool true) ?hr ?_); (case hd => rfl); (case hw => kernel_rfl); (case hr => intro w; exact run_eq0 rfl (by kernel_rfl) HR0.out w); simp only [Act.put, List.setIfInBounds_toArray, List.set_cons_succ, List.set_cons_zero]) | ((with_reducible refine wv_row (d := 34) ?hd ?hw 22 (.tmp 4) ?ho (w.heap.size) ?hx (t' := 22) (ints .u8 key) _ _ Try.underlying22 ?hs ?hg ?_); (case hd => rfl); (case hw => kernel_rfl); (case ho => rfl); (case hx => kernel_rfl); (case hs => rw [ints_size, LK.out]; exact t32_info); (case hg => exact D0); simp only [Act.put, List.setIfInBounds_toArray, List.set_cons_succ, List.set_cons_zero]) | ((with_reducible refine wv_row (d := 35) ?hd ?hw 36 (.tmp 5) ?ho (w.heap.size + 1) ?hx (t' := 36) (ints .u8 nonce) _ _ Try.underlying36 ?hs ?hg ?_); (case hd => rfl); (case hw => kernel_rfl); (case ho => rfl); (case hx => kernel_rfl); (case hs => rw [ints_size, LN.out]; exact i12_info); (case hg => exact D1); simp only [Act.put, List.setIfInBounds_toArray, List.set_cons_succ, List.set_cons_zero]) | ((with_reducible refine wv_val (d := 38) ?hd ?hw (.int .i64 (q : Int)) ?hr ?_); (case hd => rfl); (case hw => kernel_rfl); (case hr => intro w; exact run_quo64 (i := i) rfl (by kernel_rfl) Eq.out (by omega) w); simp only [Act.put, List.setIfInBounds_toArray, List.set_cons_succ, List.set_cons_zero]) | ((with_reducible refine wv_val (d := 39) ?hd ?hw (.int .u32 (q : Int)) ?hr ?_); (case hd => rfl); (case hw => kernel_rfl); (case hr => intro w; exact run_c332 rfl (by kernel_rfl) hq32 w); simp only [Act.put, List.setIfInBounds_toArray, List.set_cons_succ, List.set_cons_zero]) | ((with_reducible refine wv_val (d := 40) ?hd ?hw (.int .u32 (ci : Int)) ?hr ?_); (case hd => rfl); (case hw => kernel_rfl); (case hr => intro w; exact run_add32 rfl (by kernel_rfl) (by kernel_rfl) Ec.out w); simp only [Act.put, List.setIfInBounds_toArray, List.set_cons_succ, List.set_cons_zero]))
        refine (Cbk.out wr).mono ?_
        rintro e w5 ⟨rfl, hb5⟩
        have D05 := D0.under hb5
        have D15 := D1.under hb5
        have D25 := D2.under hb5
        have Q5 := QR.trans (hb5.mono QR.size)
        have RO5 : Kept _ := ⟨RO.out.under hb5⟩
        clear D0 D1 D2 QR RO hb5 Cbk
        go_wp2_with (first | (refine wl_store rfl 50 (.tmp 11) (.tmp 41) rfl (w.heap.size + 2) (ints .u8 KB2) rfl rfl _ D25 (by rw [ints_size, LKB2.out]; exact i64_inf2) (by rw [ints_size, ints_size, LKB2.out, LKB.out]) (ints_one _ _) ?_))
        intro w6 D2 P6
        have D0 := P6.blk D05 (by omega)
        have D1 := P6.blk D15 (by omega)
        have QR := Q5.trans (P6.below (by omega))
        have RO : Kept (Row (w.heap.size + 3) 5 .u8 (L.take i) u10 w6) := ⟨RO5.out.keeps P6.grown (by
          cases hbk : blkOf u10 with
          | none => exact .inl rfl
          | some b' => exact .inr (fun e => by have := (RO5.out.range b' hbk).1; have := Option.some.inj e; omega))⟩
        clear D05 D15 D25 Q5 RO5 P6 HR0 Eq Ec
        have CB : Kept (∀ w', Below w6.heap.size w6 w' → w'.cell? (AB.add i) = some (.int .u8 (x : Int))) := ⟨fun w' hb => bytes_cell ((KV.out.under QR).under hb) Gx.out⟩
        go_wp2_with fail
        refine region_ownL w6 11 [(42, u10), (43, .slice (some AB) n cb), (44, .int .i64 (i : Int)), (45, .pointer (some (AB.add i))), (46, .int .u8 (x : Int)), (47, .int .i64 (i : Int)), (48, .int .i64 (r : Int)), (49, .pointer (some ⟨w.heap.size + 2, r, none⟩)), (50, .int .u8 (y : Int)), (51, .int .u8 (z : Int))] [(52, Const 5 .u8 [z])] [52] [] rfl (by kernel_rfl) (by kernel_rfl) (by kernel_rfl) (by kernel_rfl) (by kernel_rfl) (by kernel_rfl) (by kernel_rfl) (by kernel_rfl) (by kernel_rfl) (by kernel_rfl) (by kernel_rfl) ?hst1 ?hst2 (Below.refl _ _) (fun hA => ⟨ow_val hA (wants_none rfl) 42 (u10) (by kernel_rfl) rfl rfl rfl rfl (by kernel_rfl) (fun w => by kernel_rfl), ow_val hA (wants_none rfl) 43 (.slice (some AB) n cb) (by kernel_rfl) rfl rfl rfl rfl (by kernel_rfl) (fun w => by kernel_rfl), ow_val hA (wants_none rfl) 44 (.int .i64 (i : Int)) (by kernel_rfl) rfl rfl rfl rfl (by kernel_rfl) (fun w => by kernel_rfl), ow_val hA (wants_none rfl) 45 (.pointer (some (AB.add i))) (by kernel_rfl) rfl rfl rfl rfl (by kernel_rfl) (fun w => run_idxS (A := AB) (i := i) (l := n) (c := cb) rfl (by kernel_rfl) (by kernel_rfl) Try.underlying24 hi sz_u8 w), ow_elem hA (wants_none rfl) 46 (.int .u8 (x : Int)) (by kernel_rfl) rfl rfl rfl rfl (by kernel_rfl) 5 ag_u8 (.tmp 45) rfl (AB.add i) (by kernel_rfl) (fun w1 hb => CB.out w1 hb), ow_val hA (wants_none rfl) 47 (.int .i64 (i : Int)) (by kernel_rfl) rfl rfl rfl rfl (by kernel_rfl) (fun w => by kernel_rfl), ow_val hA (wants_none rfl) 48 (.int .i64 (r : Int)) (by kernel_rfl) rfl rfl rfl rfl (by kernel_rfl) (fun w => run_rem64 (i := i) rfl (by kernel_rfl) Er.out (by omega) w), ow_val hA (wants_none rfl) 49 (.pointer (some ⟨w.heap.size + 2, r, none⟩)) (by kernel_rfl) rfl rfl rfl rfl (by kernel_rfl) (fun w => run_idx (i := r) rfl (by kernel_rfl) (by kernel_rfl) Try.underlying50 r64 sz_u8 w), ow_elem hA (wants_none rfl) 50 (.int .u8 (y : Int)) (by kernel_rfl) rfl rfl rfl rfl (by kernel_rfl) 5 ag_u8 (.tmp 49) rfl (⟨w.heap.size + 2, r, none⟩) (by kernel_rfl) (fun w1 hb => (D2.under hb).cell GY.out), ow_val hA (wants_none rfl) 51 (.int .u8 (z : Int)) (by kernel_rfl) rfl rfl rfl rfl (by kernel_rfl) (fun w => run_xorV (m := x) (n := y) rfl (by kernel_rfl) (by kernel_rfl) hx8 hy8 Ez.out w), ow_byte hA (wants_none rfl) 52 51 z rfl rfl (by kernel_rfl) (by kernel_rfl) rfl rfl rfl, trivial⟩) ?_
        case hst1 =>
          intro q hq hO
          simp only [List.mem_cons, List.not_mem_nil, or_false] at hq
          subst hq
          cases hO
        case hst2 =>
          intro q hq hO v w3 w4 row h1 h2 h3 h4
          simp only [List.mem_cons, List.not_mem_nil, or_false] at hq
          subst hq
          exact Const.keeps h1 h2 h3
        intro fv w9 hf hD hb9
        have h52 := (hf 52 _ rfl rfl).1
        simp only [putR, List.foldl_cons, List.foldl_nil, List.map_cons, List.map_nil, Act.put, List.setIfInBounds_toArray, List.set_cons_succ, List.set_cons_zero]
        obtain ⟨u52, e52⟩ : ∃ v, v = fv 52 := ⟨_, rfl⟩
        rw [← e52] at h52 ⊢
        have V52 : Kept (IntsV .u8 u52 w9 [z]) := ⟨Const.ints h52⟩
        clear hf hD CB e52 h52
        have F0 := D0.under hb9
        have F1 := D1.under hb9
        have F2 := D2.under hb9
        have Q9 := QR.trans (hb9.mono QR.size)
        have RO9 : Kept _ := ⟨RO.out.under hb9⟩
        have SN : Kept ((L.take i).length + [z].length ≤ 8796093022208) := ⟨by rw [List.length_take, LL.out]; simp; omega⟩
        have SB : w.heap.size + 3 ≤ w9.heap.size := F2.lt
        clear D0 D1 D2 QR RO hb9
        refine wl_app (by kernel_rfl) (.tmp 42) (.tmp 52) 24 5 .u8 1 rfl Try.underlying24 inf_u8 (by decide) (w.heap.size + 3) (L.take i) [z] u10 u52 (by kernel_rfl) (by kernel_rfl) RO9.out V52.out SN.out SB ?_
        intro v10 w10 r10 g10 _
        have QA := app_below (Below.refl (w.heap.size + 3) w9) SB RO9.out g10
        have G0 := F0.below QA (by omega)
        have G1 := F1.below QA (by omega)
        have G2 := F2.below QA (by omega)
        have Q10 := Q9.trans (QA.mono (by omega))
        have RO10 : Kept (Row (w.heap.size + 3) 5 .u8 (L.take (i + 1)) v10 w10) := ⟨by rw [List.take_add_one, GZ.out]; exact r10⟩
        clear F0 F1 F2 Q9 QA RO9 SN SB V52 r10 g10 GY GZ Er Ez Gx
        go_wp2_with fail
        go_roundg (gk - 1)
        case measure => omega
        case rel => exact ⟨i + 1, KB2, by omega, by simp, EKB, LKB2, Q10, G0, G1, G2, RO10⟩

      case neg =>
        have HR0 : Kept (false = decide (r = 0)) := ⟨(decide_eq_false hr0).symm⟩
        obtain rfl : KB = KB2 := EKB1.out hr0
        clear hr0 Cbk EKB1 LKB
        go_wp2_with (first | ((with_reducible refine wv_val (d := 32) ?hd ?hw (.int .i64 (r : Int)) ?hr ?_); (case hd => rfl); (case hw => kernel_rfl); (case hr => intro w; exact run_rem64 (i := i) rfl (by kernel_rfl) Er.out (by omega) w); simp only [Act.put, List.setIfInBounds_toArray, List.set_cons_succ, List.set_cons_zero]) | ((with_reducible refine wv_val (d := 33) ?hd ?hw (.bool false) ?hr ?_); (case hd => rfl); (case hw => kernel_rfl); (case hr => intro w; exact run_eq0 rfl (by kernel_rfl) HR0.out w); simp only [Act.put, List.setIfInBounds_toArray, List.set_cons_succ, List.set_cons_zero]))
        clear HR0 Eq Ec
        have CB : Kept (∀ w', Below wr.heap.size wr w' → w'.cell? (AB.add i) = some (.int .u8 (x : Int))) := ⟨fun w' hb => bytes_cell ((KV.out.under QR).under hb) Gx.out⟩
        go_wp2_with fail
        refine region_ownL wr 11 [(42, u10), (43, .slice (some AB) n cb), (44, .int .i64 (i : Int)), (45, .pointer (some (AB.add i))), (46, .int .u8 (x : Int)), (47, .int .i64 (i : Int)), (48, .int .i64 (r : Int)), (49, .pointer (some ⟨w.heap.size + 2, r, none⟩)), (50, .int .u8 (y : Int)), (51, .int .u8 (z : Int))] [(52, Const 5 .u8 [z])] [52] [] rfl (by kernel_rfl) (by kernel_rfl) (by kernel_rfl) (by kernel_rfl) (by kernel_rfl) (by kernel_rfl) (by kernel_rfl) (by kernel_rfl) (by kernel_rfl) (by kernel_rfl) (by kernel_rfl) ?hst1 ?hst2 (Below.refl _ _) (fun hA => ⟨ow_val hA (wants_none rfl) 42 (u10) (by kernel_rfl) rfl rfl rfl rfl (by kernel_rfl) (fun w => by kernel_rfl), ow_val hA (wants_none rfl) 43 (.slice (some AB) n cb) (by kernel_rfl) rfl rfl rfl rfl (by kernel_rfl) (fun w => by kernel_rfl), ow_val hA (wants_none rfl) 44 (.int .i64 (i : Int)) (by kernel_rfl) rfl rfl rfl rfl (by kernel_rfl) (fun w => by kernel_rfl), ow_val hA (wants_none rfl) 45 (.pointer (some (AB.add i))) (by kernel_rfl) rfl rfl rfl rfl (by kernel_rfl) (fun w => run_idxS (A := AB) (i := i) (l := n) (c := cb) rfl (by kernel_rfl) (by kernel_rfl) Try.underlying24 hi sz_u8 w), ow_elem hA (wants_none rfl) 46 (.int .u8 (x : Int)) (by kernel_rfl) rfl rfl rfl rfl (by kernel_rfl) 5 ag_u8 (.tmp 45) rfl (AB.add i) (by kernel_rfl) (fun w1 hb => CB.out w1 hb), ow_val hA (wants_none rfl) 47 (.int .i64 (i : Int)) (by kernel_rfl) rfl rfl rfl rfl (by kernel_rfl) (fun w => by kernel_rfl), ow_val hA (wants_none rfl) 48 (.int .i64 (r : Int)) (by kernel_rfl) rfl rfl rfl rfl (by kernel_rfl) (fun w => run_rem64 (i := i) rfl (by kernel_rfl) Er.out (by omega) w), ow_val hA (wants_none rfl) 49 (.pointer (some ⟨w.heap.size + 2, r, none⟩)) (by kernel_rfl) rfl rfl rfl rfl (by kernel_rfl) (fun w => run_idx (i := r) rfl (by kernel_rfl) (by kernel_rfl) Try.underlying50 r64 sz_u8 w), ow_elem hA (wants_none rfl) 50 (.int .u8 (y : Int)) (by kernel_rfl) rfl rfl rfl rfl (by kernel_rfl) 5 ag_u8 (.tmp 49) rfl (⟨w.heap.size + 2, r, none⟩) (by kernel_rfl) (fun w1 hb => (D2.under hb).cell GY.out), ow_val hA (wants_none rfl) 51 (.int .u8 (z : Int)) (by kernel_rfl) rfl rfl rfl rfl (by kernel_rfl) (fun w => run_xorV (m := x) (n := y) rfl (by kernel_rfl) (by kernel_rfl) hx8 hy8 Ez.out w), ow_byte hA (wants_none rfl) 52 51 z rfl rfl (by kernel_rfl) (by kernel_rfl) rfl rfl rfl, trivial⟩) ?_
        case hst1 =>
          intro q hq hO
          simp only [List.mem_cons, List.not_mem_nil, or_false] at hq
          subst hq
          cases hO
        case hst2 =>
          intro q hq hO v w3 w4 row h1 h2 h3 h4
          simp only [List.mem_cons, List.not_mem_nil, or_false] at hq
          subst hq
          exact Const.keeps h1 h2 h3
        intro fv w9 hf hD hb9
        have h52 := (hf 52 _ rfl rfl).1
        simp only [putR, List.foldl_cons, List.foldl_nil, List.map_cons, List.map_nil, Act.put, List.setIfInBounds_toArray, List.set_cons_succ, List.set_cons_zero]
        obtain ⟨u52, e52⟩ : ∃ v, v = fv 52 := ⟨_, rfl⟩
        rw [← e52] at h52 ⊢
        have V52 : Kept (IntsV .u8 u52 w9 [z]) := ⟨Const.ints h52⟩
        clear hf hD CB e52 h52
        have F0 := D0.under hb9
        have F1 := D1.under hb9
        have F2 := D2.under hb9
        have Q9 := QR.trans (hb9.mono QR.size)
        have RO9 : Kept _ := ⟨RO.out.under hb9⟩
        have SN : Kept ((L.take i).length + [z].length ≤ 8796093022208) := ⟨by rw [List.length_take, LL.out]; simp; omega⟩
        have SB : w.heap.size + 3 ≤ w9.heap.size := F2.lt
        clear D0 D1 D2 QR RO hb9
        refine wl_app (by kernel_rfl) (.tmp 42) (.tmp 52) 24 5 .u8 1 rfl Try.underlying24 inf_u8 (by decide) (w.heap.size + 3) (L.take i) [z] u10 u52 (by kernel_rfl) (by kernel_rfl) RO9.out V52.out SN.out SB ?_
        intro v10 w10 r10 g10 _
        have QA := app_below (Below.refl (w.heap.size + 3) w9) SB RO9.out g10
        have G0 := F0.below QA (by omega)
        have G1 := F1.below QA (by omega)
        have G2 := F2.below QA (by omega)
        have Q10 := Q9.trans (QA.mono (by omega))
        have RO10 : Kept (Row (w.heap.size + 3) 5 .u8 (L.take (i + 1)) v10 w10) := ⟨by rw [List.take_add_one, GZ.out]; exact r10⟩
        clear F0 F1 F2 Q9 QA RO9 SN SB V52 r10 g10 GY GZ Er Ez Gx
        go_wp2_with fail
        go_roundg (gk - 1)
        case measure => omega
        case rel => exact ⟨i + 1, KB, by omega, by simp, EKB, LKB2, Q10, G0, G1, G2, RO10⟩

    case neg =>
      have hi' : ¬ (i : Int) < (n : Int) := by omega
      have VR : Kept (BytesV u10 wr L) := ⟨by have := row_bytes RO.out; rw [List.take_of_length_le (by rw [LL.out]; omega)] at this; exact this⟩
      clear D0 D1 D2 RO EKB0 LKB
      go_wp2_with fail
      go_ret2
      exact ⟨_, rfl, VR.out, QR⟩
end Go.Proofs.Ytpamcmhfimnfbaa.sh
/-
  Poly1305 as plain numbers: words of a number, a product modulo 2^130 - 5, the tag of bytes.
-/
namespace Go.Proofs.Ytpamcmhfimnfbaa.sh
open Go Go.RowKit
set_option linter.unusedVariables false
set_option linter.unusedSimpArgs false

/-- The word i of a number. -/
def wd (N i : Nat) : Nat := N / 18446744073709551616 ^ i % 18446744073709551616
def nw (N : Nat) : List Nat := [wd N 0, wd N 1, wd N 2]
def nw2 (N : Nat) : List Nat := [wd N 0, wd N 1]
def nw4 (N : Nat) : List Nat := [wd N 0, wd N 1, wd N 2, wd N 3]
theorem wd_lt (N i : Nat) : wd N i < 18446744073709551616 := Nat.mod_lt _ (by decide)
theorem nw_len (N : Nat) : (nw N).length = 3 := rfl
theorem nw_get (N i : Nat) (h : i < 3) : (nw N)[i]? = some (wd N i) := by
  match i, h with
  | 0, _ => rfl
  | 1, _ => rfl
  | 2, _ => rfl
theorem wd0 (N : Nat) : wd N 0 = N % 18446744073709551616 := by simp [wd]
theorem wd1 (N : Nat) : wd N 1 = N / 18446744073709551616 % 18446744073709551616 := by simp [wd]
theorem wd2 (N : Nat) : wd N 2 = N / 340282366920938463463374607431768211456 % 18446744073709551616 := by simp [wd]
theorem wd3 (N : Nat) : wd N 3 = N / 6277101735386680763835789423207666416102355444464034512896 % 18446744073709551616 := by simp [wd]
theorem nw_of (z0 z1 z2 N : Nat) (h0 : z0 < 18446744073709551616) (h1 : z1 < 18446744073709551616) (h2 : z2 < 18446744073709551616) (h : z0 + 18446744073709551616 * z1 + 340282366920938463463374607431768211456 * z2 = N) : nw N = [z0, z1, z2] := by
  unfold nw
  rw [wd0, wd1, wd2]
  have e0 : N % 18446744073709551616 = z0 := by omega
  have e1 : N / 18446744073709551616 % 18446744073709551616 = z1 := by omega
  have e2 : N / 340282366920938463463374607431768211456 % 18446744073709551616 = z2 := by omega
  rw [e0, e1, e2]
theorem nw4_of (z0 z1 z2 z3 N : Nat) (h0 : z0 < 18446744073709551616) (h1 : z1 < 18446744073709551616) (h2 : z2 < 18446744073709551616) (h3 : z3 < 18446744073709551616) (h : z0 + 18446744073709551616 * z1 + 340282366920938463463374607431768211456 * z2 + 6277101735386680763835789423207666416102355444464034512896 * z3 = N) : nw4 N = [z0, z1, z2, z3] := by
  unfold nw4
  rw [wd0, wd1, wd2, wd3]
  have e0 : N % 18446744073709551616 = z0 := by omega
  have e1 : N / 18446744073709551616 % 18446744073709551616 = z1 := by omega
  have e2 : N / 340282366920938463463374607431768211456 % 18446744073709551616 = z2 := by omega
  have e3 : N / 6277101735386680763835789423207666416102355444464034512896 % 18446744073709551616 = z3 := by omega
  rw [e0, e1, e2, e3]
theorem nw_sum (N : Nat) (h : N < 6277101735386680763835789423207666416102355444464034512896) : wd N 0 + 18446744073709551616 * wd N 1 + 340282366920938463463374607431768211456 * wd N 2 = N := by
  rw [wd0, wd1, wd2]
  omega

/-- What is over behind i words of X + Y w. -/
def cy (X Y w i : Nat) : Nat := (X % 18446744073709551616 ^ i + Y % 18446744073709551616 ^ i * w) / 18446744073709551616 ^ i
theorem cy_zero (X Y w : Nat) : cy X Y w 0 = 0 := by simp [cy, Nat.mod_one]
theorem cy_step (X Y w i : Nat) : wd X i + wd Y i * w + cy X Y w i = wd (X + Y * w) i + 18446744073709551616 * cy X Y w (i + 1) := by
  unfold wd cy
  have hp : 0 < 18446744073709551616 ^ i := Nat.pow_pos (by decide)
  generalize hm : 18446744073709551616 ^ i = m at *
  have hm1 : 18446744073709551616 ^ (i + 1) = m * 18446744073709551616 := by rw [Nat.pow_succ, hm]
  rw [hm1]
  have eX := Nat.div_add_mod X m
  have eY := Nat.div_add_mod Y m
  have e1 : X % (m * 18446744073709551616) = X % m + m * (X / m % 18446744073709551616) := Nat.mod_mul
  have e2 : Y % (m * 18446744073709551616) = Y % m + m * (Y / m % 18446744073709551616) := Nat.mod_mul
  rw [e1, e2]
  have e3 : X % m + m * (X / m % 18446744073709551616) + (Y % m + m * (Y / m % 18446744073709551616)) * w = (X % m + Y % m * w) + m * (X / m % 18446744073709551616 + Y / m % 18446744073709551616 * w) := by grind
  have e4 : X + Y * w = (X % m + Y % m * w) + m * (X / m + Y / m * w) := by
    have : X + Y * w = (m * (X / m) + X % m) + (m * (Y / m) + Y % m) * w := by rw [eX, eY]
    rw [this]; grind
  rw [e3, e4, ← Nat.div_div_eq_div_mul, Nat.add_mul_div_left _ _ hp, Nat.add_mul_div_left _ _ hp]
  generalize (X % m + Y % m * w) / m = c
  have e5 : (c + (X / m + Y / m * w)) % 18446744073709551616 = (c + (X / m % 18446744073709551616 + Y / m % 18446744073709551616 * w)) % 18446744073709551616 := by
    rw [Nat.add_mod, Nat.add_mod (X / m), Nat.mul_mod]
    simp only [Nat.add_mod, Nat.mul_mod, Nat.mod_mod]
  rw [e5]
  generalize X / m % 18446744073709551616 + Y / m % 18446744073709551616 * w = t
  omega
theorem cy_lt (X Y w i : Nat) (hw : w < 18446744073709551616) : cy X Y w i < 18446744073709551616 := by
  unfold cy
  have hp : 0 < 18446744073709551616 ^ i := Nat.pow_pos (by decide)
  generalize 18446744073709551616 ^ i = m at *
  rw [Nat.div_lt_iff_lt_mul hp]
  have h1 : X % m < m := Nat.mod_lt _ hp
  have h2 : Y % m < m := Nat.mod_lt _ hp
  have h3 : Y % m * w ≤ m * w := Nat.mul_le_mul_right _ (by omega)
  have h4 : m * w + m ≤ 18446744073709551616 * m := by
    have : (w + 1) * m ≤ 18446744073709551616 * m := Nat.mul_le_mul_right _ (by omega)
    rw [Nat.add_mul, Nat.one_mul, Nat.mul_comm w m] at this
    exact this
  omega
theorem cy_one (X Y i : Nat) : cy X Y 1 i ≤ 1 := by
  unfold cy
  have hp : 0 < 18446744073709551616 ^ i := Nat.pow_pos (by decide)
  generalize 18446744073709551616 ^ i = m at *
  have h1 : X % m < m := Nat.mod_lt _ hp
  have h2 : Y % m < m := Nat.mod_lt _ hp
  have : (X % m + Y % m * 1) / m < 2 := by rw [Nat.div_lt_iff_lt_mul hp]; omega
  omega

/-- n r modulo p, not wholly. -/
def timesN (N r : Nat) : Nat := N * r % 1361129467683753853853498429727072845824 + 5 * (N * r / 1361129467683753853853498429727072845824)
theorem timesN_lt (N r : Nat) (hN : N < 2722258935367507707706996859454145691648) (hr : r < 21267647932558653966460912964485513216) : timesN N r < 1701411834604692317316873037158841057280 := by
  have h : N * r < 2722258935367507707706996859454145691648 * 21267647932558653966460912964485513216 := by
    have h1 : N * r ≤ N * 21267647932558653966460912964485513216 := Nat.mul_le_mul_left _ (by omega)
    have h2 : N * 21267647932558653966460912964485513216 < 2722258935367507707706996859454145691648 * 21267647932558653966460912964485513216 := Nat.mul_lt_mul_of_pos_right hN (by decide)
    omega
  unfold timesN
  generalize N * r = P at *
  omega
theorem timesN_mod (N r : Nat) : timesN N r % 1361129467683753853853498429727072845819 = N * r % 1361129467683753853853498429727072845819 := by
  unfold timesN
  generalize N * r = P at *
  omega
theorem prod_lt (N r : Nat) (hN : N < 2722258935367507707706996859454145691648) (hr : r < 21267647932558653966460912964485513216) : N * r < 57896044618658097711785492504343953926634992332820282019728792003956564819968 := by
  have h1 : N * r ≤ N * 21267647932558653966460912964485513216 := Nat.mul_le_mul_left _ (by omega)
  have h2 : N * 21267647932558653966460912964485513216 < 2722258935367507707706996859454145691648 * 21267647932558653966460912964485513216 := Nat.mul_lt_mul_of_pos_right hN (by decide)
  omega
theorem times_low (P : Nat) : nw (P % 1361129467683753853853498429727072845824) = [wd P 0, wd P 1, wd P 2 % 4] := by
  refine nw_of _ _ _ _ (wd_lt _ _) (wd_lt _ _) (by omega) ?_
  rw [wd0, wd1, wd2]
  omega
theorem times_high (P : Nat) (h : P < 115792089237316195423570985008687907853269984665640564039457584007913129639936) : nw (P / 1361129467683753853853498429727072845824) = [wd P 2 / 4 + wd P 3 % 4 * 4611686018427387904, wd P 3 / 4, 0] := by
  have h2 := wd_lt P 2
  have h3 := wd_lt P 3
  refine nw_of _ _ _ _ (by omega) (by omega) (by decide) ?_
  rw [wd2, wd3]
  omega

/-- Bits of bytes. -/
theorem and_byte (x y X Y : Nat) (hx : x < 256) (hy : y < 256) : (x + 256 * X) &&& (y + 256 * Y) = (x &&& y) + 256 * (X &&& Y) := by
  have hm : ((x + 256 * X) &&& (y + 256 * Y)) % 2 ^ 8 = x &&& y := by
    rw [Nat.and_mod_two_pow, show (x + 256 * X) % 2 ^ 8 = x by omega, show (y + 256 * Y) % 2 ^ 8 = y by omega]
  have hd : ((x + 256 * X) &&& (y + 256 * Y)) / 2 ^ 8 = X &&& Y := by
    rw [Nat.and_div_two_pow, show (x + 256 * X) / 2 ^ 8 = X by omega, show (y + 256 * Y) / 2 ^ 8 = Y by omega]
  rw [← hm, ← hd]
  omega
theorem val_and : ∀ (a m : List Nat), a.length = m.length → (∀ x ∈ a, x < 256) → (∀ x ∈ m, x < 256) → val a &&& val m = val (List.zipWith (· &&& ·) a m)
  | [], [], _, _, _ => rfl
  | x :: a, y :: m, h, ha, hm => by
    simp only [val, List.zipWith_cons_cons]
    rw [and_byte x y _ _ (ha x (by simp)) (hm y (by simp)), val_and a m (by simpa using h) (fun z hz => ha z (by simp [hz])) (fun z hz => hm z (by simp [hz]))]
theorem Bytes.all {l : List Nat} (h : Bytes l) : ∀ x ∈ l, x < 256 := fun x hx => by
  obtain ⟨i, hi⟩ := List.mem_iff_getElem?.1 hx
  exact h i x hi
theorem bytes_of_all {l : List Nat} (h : ∀ x ∈ l, x < 256) : Bytes l := fun i x hx => h x (List.mem_of_getElem? hx)

def maskL : List Nat := [255, 255, 255, 15, 252, 255, 255, 15, 252, 255, 255, 15, 252, 255, 255, 15]
/-- The bytes of r. -/
def clampL (key : List Nat) : List Nat := List.zipWith (· &&& ·) (key.take 16) maskL
def rN (key : List Nat) : Nat := val (clampL key)
def sN (key : List Nat) : Nat := val (key.drop 16)
theorem val_append (a b : List Nat) : val (a ++ b) = val a + 256 ^ a.length * val b := by
  have h := val_split (a ++ b) a.length
  rw [List.take_left, List.drop_left] at h
  exact h
theorem val_lt : ∀ (a : List Nat), (∀ x ∈ a, x < 256) → val a < 256 ^ a.length
  | [], _ => by simp [val]
  | x :: a, h => by
    have h1 := val_lt a (fun z hz => h z (by simp [hz]))
    have h2 := h x (by simp)
    simp only [val, List.length_cons, Nat.pow_succ]
    omega
theorem digs_get (N n i : Nat) (h : i < n) : (digs N n)[i]? = some (N / 256 ^ i % 256) := by simp [digs, h]
theorem digs_bytes (N n : Nat) : Bytes (digs N n) := bytes_of_all fun x hx => by
  simp only [digs, List.mem_map] at hx
  obtain ⟨i, _, rfl⟩ := hx
  exact Nat.mod_lt _ (by decide)
theorem val_digs (N : Nat) : ∀ n, val (digs N n) = N % 256 ^ n
  | 0 => by simp [digs, val, Nat.mod_one]
  | n + 1 => by
    rw [digs_succ, val_append, val_digs N n, digs_len, mod_succ, Nat.mul_comm]
    simp [val]
theorem val_digit : ∀ (a : List Nat), (∀ x ∈ a, x < 256) → ∀ i, i < a.length → val a / 256 ^ i % 256 = a.getD i 0
  | [], _, i, h => by simp at h
  | x :: a, ha, 0, _ => by
    have := ha x (by simp)
    simp [val]
    omega
  | x :: a, ha, i + 1, h => by
    have h0 := ha x (by simp)
    have := val_digit a (fun z hz => ha z (by simp [hz])) i (by simpa using h)
    simp only [val, Nat.pow_succ, List.getD_cons_succ]
    rw [Nat.mul_comm _ 256, ← Nat.div_div_eq_div_mul, show (x + 256 * val a) / 256 = val a by omega]
    exact this
theorem digs_val (a : List Nat) (h : ∀ x ∈ a, x < 256) : digs (val a) a.length = a := by
  apply List.ext_getElem?
  intro i
  by_cases hi : i < a.length
  · rw [digs_get _ _ _ hi, val_digit a h i hi, List.getD_eq_getElem?_getD, List.getElem?_eq_getElem hi]
    rfl
  · rw [List.getElem?_eq_none (by rw [digs_len]; omega), List.getElem?_eq_none (by omega)]
theorem digs_congr (N M n : Nat) (h : N % 256 ^ n = M % 256 ^ n) : digs N n = digs M n := by
  have h1 : ∀ K, digs (K % 256 ^ n) n = digs K n := fun K => by
    have := digs_val (digs K n) (digs_bytes K n).all
    rw [digs_len, val_digs] at this
    exact this
  rw [← h1 N, h, h1 M]

/-- The number behind k pieces of 16 bytes. -/
def polyT (r : Nat) (b : List Nat) : Nat → Nat
  | 0 => 0
  | k + 1 => timesN (polyT r b k + val ((b.drop (16 * k)).take 16 ++ [1])) r
def tagL (key b : List Nat) : List Nat := digs (polyT (rN key) b ((b.length + 15) / 16) % 1361129467683753853853498429727072845819 + sN key) 16
theorem tagL_len (key b : List Nat) : (tagL key b).length = 16 := digs_len _ _
theorem tagL_bytes (key b : List Nat) : Bytes (tagL key b) := digs_bytes _ _

theorem and_255 : ∀ x, x < 256 → x &&& 255 = x := by decide +kernel
theorem and_15 : ∀ x, x < 256 → x &&& 15 = x % 16 := by decide +kernel
theorem and_252 : ∀ x, x < 256 → x &&& 252 = x - x % 4 := by decide +kernel
theorem and_le (x y : Nat) : x &&& y ≤ y := Nat.and_le_right
theorem clampL_len (key : List Nat) (h : key.length = 32) : (clampL key).length = 16 := by
  simp [clampL, h, maskL]
theorem clampL_all (key : List Nat) : ∀ x ∈ clampL key, x < 256 := fun x hx => by
  obtain ⟨i, hi⟩ := List.mem_iff_getElem?.1 hx
  simp only [clampL, List.getElem?_zipWith] at hi
  split at hi
  · rename_i a b ha hb
    have hm : ∀ y ∈ maskL, y < 256 := by decide
    have := hm b (List.mem_of_getElem? hb)
    have := and_le a b
    simp at hi
    omega
  · cases hi
theorem maskL_val : val maskL = 21267647620597763993911028882763415551 := by kernel_rfl
theorem rN_lt (key : List Nat) (h : key.length = 32) (hy : Bytes key) : rN key < 21267647932558653966460912964485513216 := by
  unfold rN clampL
  rw [← val_and _ _ (by simp [h, maskL]) (hy.take 16).all (by decide), maskL_val]
  exact Nat.lt_of_le_of_lt Nat.and_le_right (by decide)
theorem sN_lt (key : List Nat) (h : key.length = 32) (hy : Bytes key) : sN key < 340282366920938463463374607431768211456 := by
  have := val_lt (key.drop 16) (hy.drop 16).all
  rw [List.length_drop, h] at this
  exact this
theorem piece_lt (b : List Nat) (hy : Bytes b) (h : b.length ≤ 16) : val (b ++ [1]) < 680564733841876926926749214863536422912 := by
  rw [val_append]
  have h1 := val_lt b hy.all
  have h2 : 256 ^ b.length ≤ 256 ^ 16 := Nat.pow_le_pow_right (by decide) h
  have e : (256 : Nat) ^ 16 = 340282366920938463463374607431768211456 := by decide
  simp only [val]
  omega
theorem polyT_lt (r : Nat) (b : List Nat) (hr : r < 21267647932558653966460912964485513216) (hy : Bytes b) : ∀ k, polyT r b k < 1701411834604692317316873037158841057280
  | 0 => by simp [polyT]
  | k + 1 => by
    have h1 := polyT_lt r b hr hy k
    have h2 := piece_lt ((b.drop (16 * k)).take 16) ((hy.drop _).take _) (by simp; omega)
    exact timesN_lt _ _ (by omega) hr
end Go.Proofs.Ytpamcmhfimnfbaa.sh
/-
  Sums and products of words, and the word of eight bytes, by the program.
-/
namespace Go.Proofs.Ytpamcmhfimnfbaa.sh
open Go Go.RowKit
set_option linter.unusedVariables false
set_option linter.unusedSimpArgs false

theorem call_addD (x y c : Nat) (hc : c ≤ 1) (w : World) : (callFunc 50 #[.int .u64 (x : Int), .int .u64 (y : Int), .int .u64 (c : Int)]).run Try.prog w = .ok (.value (.tuple #[.int .u64 (((x + y + c) % 18446744073709551616 : Nat) : Int), .int .u64 (((x + y + c) / 18446744073709551616 : Nat) : Int)])) w := by
  rw [run_callFunc_extern Try.func50 (by kernel_rfl) (by kernel_rfl) (by kernel_rfl) (e := add64Entry) (by kernel_rfl), Go.run_add64 x y c (by omega) (by omega) (by omega) (by omega)]
  simp only [Result.andThen]
  congr 5 <;> omega
theorem run_callAdd {o : Oper} {a : Act} {x y z : Operand} {ts : Array TypeId} {X Y C lo hi : Nat} (ho : o.op = .call { callee := .value (.func 50), args := #[x, y, z], argTypes := ts }) (hx : a.eval x = .int .u64 (X : Int)) (hy : a.eval y = .int .u64 (Y : Int)) (hz : a.eval z = .int .u64 (C : Int)) (hc : C ≤ 1) (hlo : lo = (X + Y + C) % 18446744073709551616) (hhi : hi = (X + Y + C) / 18446744073709551616) (w : World) :
    (execOp a.eval o).run Try.prog w = .ok (.value (.tuple #[.int .u64 (lo : Int), .int .u64 (hi : Int)])) w := by
  have h := call_addD X Y C hc w
  rw [hlo, hhi]
  unfold execOp
  simp only [ho, resolve]
  simp [Deferred.ofValue, invoke, Act.eval] at *
  simp [hx, hy, hz]
  exact h
theorem run_ext {o : Oper} {a : Act} {x : Operand} {A : Array Value} {i : Nat} {v : Value} (ho : o.op = .extract x i) (hx : a.eval x = .tuple A) (hv : A[i]? = some v) (w : World) : (execOp a.eval o).run Try.prog w = .ok (.value v) w := by
  unfold execOp
  simp only [ho, hx]
  simp [go_sem, hv]

theorem stepD (x y u m : Nat) (hx : x < 18446744073709551616) (hy : y < 18446744073709551616) (hu : u < 18446744073709551616) (hm : m < 18446744073709551616) (w : World) :
    Calls Try.prog 52 #[.int .u64 (x : Int), .int .u64 (y : Int), .int .u64 (u : Int), .int .u64 (m : Int)] w fun e w' => e = .returned (.tuple #[.int .u64 (((x + y * u + m) % 18446744073709551616 : Nat) : Int), .int .u64 (((x + y * u + m) / 18446744073709551616 : Nat) : Int)]) ∧ w' = w := by
  have hP : Kept (y * u ≤ 18446744073709551615 * 18446744073709551615) := ⟨Nat.mul_le_mul (by omega) (by omega)⟩
  have HB : Kept (x < 18446744073709551616 ∧ m < 18446744073709551616) := ⟨hx, hm⟩
  go_enter Try.func52, Try.ntmps52
  go_wp2_with fail
  refine (mul64_any _ _ _ hy hu).mono ?_
  rintro e w' ⟨hi, lo, rfl, rfl, H⟩
  clear hx hy hu hm
  obtain ⟨z0, c0, h0, H0⟩ := call_add64_0 lo m
  obtain ⟨z1, c1, h1, H1⟩ := call_add64_0 z0 x
  go_wp2
  go_ret2
  have b1 := H.out; have b2 := H0.out; have b3 := H1.out; have b4 := HB.out; have b5 := hP.out
  generalize y * u = P at *
  refine ⟨ret_two ?_ ?_, rfl⟩
  · congr 1; omega
  · simp only [IntKind.wrap_u64]; omega

set_option maxHeartbeats 1000000 in
theorem word_walk (g off cap : Nat) (b0 b1 b2 b3 b4 b5 b6 b7 : Nat) (w : World)
   (c0 : w.cell? ⟨g, off, none⟩ = some (.int .u8 (b0 : Int))) (c1 : w.cell? ⟨g, off + 1, none⟩ = some (.int .u8 (b1 : Int))) (c2 : w.cell? ⟨g, off + 2, none⟩ = some (.int .u8 (b2 : Int))) (c3 : w.cell? ⟨g, off + 3, none⟩ = some (.int .u8 (b3 : Int)))
   (c4 : w.cell? ⟨g, off + 4, none⟩ = some (.int .u8 (b4 : Int))) (c5 : w.cell? ⟨g, off + 5, none⟩ = some (.int .u8 (b5 : Int))) (c6 : w.cell? ⟨g, off + 6, none⟩ = some (.int .u8 (b6 : Int))) (c7 : w.cell? ⟨g, off + 7, none⟩ = some (.int .u8 (b7 : Int)))
   (hb : Kept (b0 < 256 ∧ b1 < 256 ∧ b2 < 256 ∧ b3 < 256 ∧ b4 < 256 ∧ b5 < 256 ∧ b6 < 256 ∧ b7 < 256)) :
    Calls Try.prog 49 #[.slice (some ⟨g, off, none⟩) 8 cap] w
      fun e w' => e = .returned (.int .u64 ((b0 + b1 * 256 + b2 * 65536 + b3 * 16777216 + b4 * 4294967296 + b5 * 1099511627776 + b6 * 281474976710656 + b7 * 72057594037927936 : Nat) : Int)) ∧ Below w.heap.size w w' := by
  go_enter Try.func49, Try.ntmps49
  go_wp2
  go_quiet (fail)
  go_wp2
  go_ret
  obtain ⟨h0, h1, h2, h3, h4, h5, h6, h7⟩ := hb.out
  refine ⟨ret_int (word_bits b0 b1 b2 b3 b4 b5 b6 b7 h0 h1 h2 h3 h4 h5 h6 h7), ?_⟩
  exact ⟨rfl, rfl, rfl, Nat.le_refl _, fun _ _ => rfl⟩
theorem val8 (b0 b1 b2 b3 b4 b5 b6 b7 : Nat) : val [b0, b1, b2, b3, b4, b5, b6, b7] = b0 + b1 * 256 + b2 * 65536 + b3 * 16777216 + b4 * 4294967296 + b5 * 1099511627776 + b6 * 281474976710656 + b7 * 72057594037927936 := by
  simp only [val]
  omega
/-- The word of eight bytes in the midst of a block. -/
theorem wordD (g off cap : Nat) (t : TypeId) (L : List Nat) (w : World) (hB : Blk w g t (ints .u8 L)) (hy : Bytes L) (hl : off + 8 ≤ L.length) (z : Nat) (hz : z = val ((L.drop off).take 8)) :
    Calls Try.prog 49 #[.slice (some ⟨g, off, none⟩) 8 cap] w fun e w' => e = .returned (.int .u64 (z : Int)) ∧ Below w.heap.size w w' := by
  have hg : ∀ i, i < 8 → ∃ x, L[off + i]? = some x ∧ x < 256 := fun i hi => ⟨_, List.getElem?_eq_getElem (by omega), hy _ _ (List.getElem?_eq_getElem (by omega))⟩
  obtain ⟨b0, g0, l0⟩ := hg 0 (by omega)
  obtain ⟨b1, g1, l1⟩ := hg 1 (by omega)
  obtain ⟨b2, g2, l2⟩ := hg 2 (by omega)
  obtain ⟨b3, g3, l3⟩ := hg 3 (by omega)
  obtain ⟨b4, g4, l4⟩ := hg 4 (by omega)
  obtain ⟨b5, g5, l5⟩ := hg 5 (by omega)
  obtain ⟨b6, g6, l6⟩ := hg 6 (by omega)
  obtain ⟨b7, g7, l7⟩ := hg 7 (by omega)
  have e : (L.drop off).take 8 = [b0, b1, b2, b3, b4, b5, b6, b7] := by
    apply List.ext_getElem?
    intro i
    by_cases hi : i < 8
    · rw [List.getElem?_take_of_lt hi, List.getElem?_drop]
      match i, hi with
      | 0, _ => exact g0
      | 1, _ => exact g1
      | 2, _ => exact g2
      | 3, _ => exact g3
      | 4, _ => exact g4
      | 5, _ => exact g5
      | 6, _ => exact g6
      | 7, _ => exact g7
    · rw [List.getElem?_eq_none (by simp; omega), List.getElem?_eq_none (by simp; omega)]
  rw [hz, e, val8]
  exact word_walk g off cap b0 b1 b2 b3 b4 b5 b6 b7 w (hB.cell (ints_get g0)) (hB.cell (ints_get g1)) (hB.cell (ints_get g2)) (hB.cell (ints_get g3)) (hB.cell (ints_get g4)) (hB.cell (ints_get g5)) (hB.cell (ints_get g6)) (hB.cell (ints_get g7)) ⟨l0, l1, l2, l3, l4, l5, l6, l7⟩
end Go.Proofs.Ytpamcmhfimnfbaa.sh
/-
  A region that draws its order, with one store among its operations that does not wait for all of them: 'x[i], c = f(..)'. Those that the store waits for read memory as it was; the others read none.
-/
namespace Go.Proofs.Ytpamcmhfimnfbaa.sh
open Go Go.RowKit
set_option linter.unusedVariables false
set_option linter.unusedSimpArgs false

def waitsOn (o : Oper) (i : Nat) : Bool := o.after.any fun e => Region.binds .any e && e.on == i
def LateAll (P : Program) (h : List Oper) (A0 : Act) (W0 : World) (R : Nat → Value → World → Prop) (s : Nat) (os : Oper) : Nat → List Oper → Prop
  | _, [] => True
  | i, o :: r => (i = s ∨ (waitsOn os i = true ∧ OwnOk P h A0 W0 R [] [] i o) ∨ ∀ W1, OwnOk P h A0 W1 R [] [] i o) ∧ LateAll P h A0 W0 R s os (i + 1) r
theorem lateAll_get {P : Program} {h : List Oper} {A0 : Act} {W0 : World} {R : Nat → Value → World → Prop} {s : Nat} {os : Oper} : ∀ (r : List Oper) (k : Nat), LateAll P h A0 W0 R s os k r → ∀ i o, r[i]? = some o → k + i = s ∨ (waitsOn os (k + i) = true ∧ OwnOk P h A0 W0 R [] [] (k + i) o) ∨ ∀ W1, OwnOk P h A0 W1 R [] [] (k + i) o
  | [], _, _, i, o, ho => by simp at ho
  | x :: r, k, hr, 0, o, ho => by simp at ho; subst ho; exact hr.1
  | x :: r, k, hr, i + 1, o, ho => by
    have := lateAll_get r (k + 1) hr.2 i o (by simpa using ho)
    rwa [show k + 1 + i = k + (i + 1) from by omega] at this

theorem region_late {P : Program} {Q : Exit → Act → World → Prop} {id : Nat} {a : Act} {w : World} (W0 : World) (n s : Nat) {l : List Oper} (vals : List (Nat × Value)) (C2 : World → Prop) (hm : P.follows .mixedOrders = true)
    (hE : edgesIn (l.take n) = true) (hG : guardsIn (l.take n) = true) (hA : dstsApart (l.take n) 0 = true) (hI : dstsIn (l.take n) a.tmps.size = true) (hT : tailUnder (l.take n) (l.drop n) = true)
    (hS : Region.seqB .any l.toArray (l.drop n).length (l.take n).length (Array.replicate (l.take n).length true ++ Array.replicate (l.drop n).length false) = true)
    (hv : (vals.all fun p => (dstsOf (l.take n)).contains p.1) = true)
    (os : Oper) (hos : (l.take n)[s]? = some os) (hsd : os.dst = none) (hw : Below W0.heap.size W0 w)
    (hC : ∀ w w', C2 w → Below w.heap.size w w' → C2 w')
    (hok : Full (l.take n) a (putR a vals) (specOf []) [] → LateAll P (l.take n) a W0 (relR (putR a vals) (specOf [])) s os 0 (l.take n))
    (hst : Full (l.take n) a (putR a vals) (specOf []) [] → ∀ a' w', Fr (l.take n) a a' → Below W0.heap.size W0 w' → GotE (l.take n) [] (relR (putR a vals) (specOf [])) [] W0.heap.size s a' w' os →
      Region.wanted os (yielded (l.take n).toArray a'.tmps) = true ∧ os.wp P a' w' (fun a2 w2 => a2 = a' ∧ C2 w2) (fun _ _ _ => False))
    (hfin : ∀ w', C2 w' → wpList P l.toArray Q (l.drop n) (putR a vals) w') : (Code.region id l.toArray true).wp P Q a w := by
  have hfull : Full (l.take n) a (putR a vals) (specOf []) [] := full_put vals hv (specOf_none [])
  have hok' := hok hfull
  have hst' := hst hfull
  have hRR : ∀ d v (w : World), relR (putR a vals) (specOf []) d v w ↔ (putR a vals).tmps[d]? = some v := fun d v w => Iff.rfl
  clear hok hst
  have e : l.take n ++ l.drop n = l := List.take_append_drop n l
  refine wp_region_any hm ?_
  generalize hh : l.take n = h at *
  have main := wpAny_inv (P := P) (l := h) (Q := headPost P (h ++ l.drop n).toArray Q (l.drop n))
    (fun listed a' w' => Fr h a a' ∧ (∀ d, (∃ (i : Nat) (o : Oper), h[i]? = some o ∧ listed.getD i false = true ∧ o.dst = some d) → ∃ v, a'.tmps[d]? = some v ∧ (putR a vals).tmps[d]? = some v) ∧
      (listed.getD s false = false → Below W0.heap.size W0 w') ∧ (listed.getD s false = true → C2 w' ∧ ∀ x ∈ os.after, Region.binds .any x = true → listed.getD x.on false = true)) hE
    (by
      intro listed a' w' i o hls hI' ho hun hall
      obtain ⟨hF, hV, hB, hD⟩ := hI'
      have hil : i < listed.size := by rw [hls]; exact (List.getElem?_eq_some_iff.1 ho).1
      have hun' : listed.getD i false = false := by simpa [hil] using hun
      have hson : ∀ k, (listed.setIfInBounds i true).getD k false = if k = i then true else listed.getD k false := fun k => by
        by_cases hk : k = i
        · subst hk; simp [hil]
        · rw [if_neg hk, getD_set_ne false (Ne.symm hk)]
      have hup : ∀ k, listed.getD k false = true → (listed.setIfInBounds i true).getD k false = true := fun k hk => by
        rw [hson k]; split <;> first | rfl | exact hk
      have hgot : ∀ B, GotE h [] (relR (putR a vals) (specOf [])) [] B i a' w' o := fun B d hs hq => by
        obtain ⟨x, hx, h1⟩ := Array.any_eq_true'.1 hs
        simp only [Bool.and_eq_true] at h1
        cases ho' : h[x.on]? with
        | none => simp [ho'] at h1
        | some o' =>
          obtain ⟨v, e1, e2⟩ := hV d ⟨x.on, o', ho', hall x hx h1.1, by simpa [ho'] using h1.2⟩
          exact ⟨v, e1, e2, fun hc => by simp at hc⟩
      by_cases his : i = s
      · subst his
        have hoo : o = os := by rw [ho] at hos; exact Option.some.inj hos
        subst hoo
        obtain ⟨hwant, hwp⟩ := hst' a' w' hF (hB hun') (hgot _)
        refine ⟨hwant, wp_false ?_ hwp⟩
        rintro a2 w2 ⟨rfl, hC2⟩
        refine ⟨hF, fun d hd => ?_, fun hf => ?_, fun _ => ⟨hC2, fun x hx hb => hup _ (hall x hx hb)⟩⟩
        · obtain ⟨j, o', h1, h2, h3⟩ := hd
          refine hV d ⟨j, o', h1, ?_, h3⟩
          rw [hson j] at h2
          split at h2
          · next hji => subst hji; rw [ho] at h1; cases h1; rw [hsd] at h3; cases h3
          · exact h2
        · rw [hson, if_pos rfl] at hf; cases hf
      · have hson_s : (listed.setIfInBounds i true).getD s false = listed.getD s false := by rw [hson s, if_neg (Ne.symm his)]
        have step : ∀ W1 : World, Below W1.heap.size W1 w' → OwnOk P h a W1 (relR (putR a vals) (specOf [])) [] [] i o →
            Region.wanted o (yielded h.toArray a'.tmps) = true ∧ o.wp P a' w' (fun a2 w2 => Fr h a a2 ∧ (∀ d, (∃ (j : Nat) (o : Oper), h[j]? = some o ∧ (listed.setIfInBounds i true).getD j false = true ∧ o.dst = some d) → ∃ v, a2.tmps[d]? = some v ∧ (putR a vals).tmps[d]? = some v) ∧ Below w'.heap.size w' w2) (fun _ _ _ => False) := by
          rintro W1 hW1 ⟨d, hd, hrun⟩
          obtain ⟨hwant, hwp⟩ := hrun a' w' hF hW1 (hgot _)
          refine ⟨hwant, wp_false ?_ hwp⟩
          rintro a2 w2 ⟨v, row, rfl, hR, hg, hrow, _⟩
          have hdl : d < a'.tmps.size := by
            have := List.all_eq_true.1 hI o (List.mem_of_getElem? ho)
            rw [hd] at this
            rw [hF.size]
            simpa using this
          have hother : ∀ d', d' ≠ d → (a'.put (some d) v).tmps[d']? = a'.tmps[d']? := fun d' hne => by simp [Act.put, Array.getElem?_setIfInBounds_ne (Ne.symm hne)]
          have hself : (a'.put (some d) v).tmps[d]? = some v := by simp [Act.put, hdl]
          refine ⟨⟨by rw [size_put]; exact hF.size, hF.defers, fun d' h' => ?_⟩, fun d' hL => ?_, grown_empty hg (fun b hb => by obtain ⟨s', hs', _⟩ := hrow b hb; cases hs')⟩
          · rw [hother d' (fun e2 => h' i o ho (by rw [hd, e2]))]
            exact hF.out d' h'
          · by_cases hdd : d' = d
            · subst hdd
              exact ⟨v, hself, hR⟩
            · obtain ⟨j, o', h1, h2, h3⟩ := hL
              rw [hother d' hdd]
              refine hV d' ⟨j, o', h1, ?_, h3⟩
              rw [hson j] at h2
              split at h2
              · next hji => subst hji; rw [ho] at h1; cases h1; rw [hd] at h3; exact absurd (Option.some.inj h3).symm hdd
              · exact h2
        rcases (by have := lateAll_get h 0 hok' i o ho; rwa [Nat.zero_add] at this : i = s ∨ (waitsOn os i = true ∧ OwnOk P h a W0 (relR (putR a vals) (specOf [])) [] [] i o) ∨ ∀ W1, OwnOk P h a W1 (relR (putR a vals) (specOf [])) [] [] i o) with h1 | ⟨hon, hown⟩ | hown
        · exact absurd h1 his
        · have hsf : listed.getD s false = false := by
            cases hc : listed.getD s false with
            | false => rfl
            | true =>
              obtain ⟨x, hx, h1⟩ := Array.any_eq_true'.1 hon
              simp only [Bool.and_eq_true, beq_iff_eq] at h1
              have := (hD hc).2 x hx h1.1
              rw [h1.2, hun'] at this
              cases this
          obtain ⟨hwant, hwp⟩ := step W0 (hB hsf) hown
          refine ⟨hwant, wp_false ?_ hwp⟩
          rintro a2 w2 ⟨h1, h2, h3⟩
          refine ⟨h1, h2, fun _ => (hB hsf).trans (h3.mono (hB hsf).size), fun hs => ?_⟩
          rw [hson_s, hsf] at hs
          cases hs
        · obtain ⟨hwant, hwp⟩ := step w' (Below.refl _ _) (hown w')
          refine ⟨hwant, wp_false ?_ hwp⟩
          rintro a2 w2 ⟨h1, h2, h3⟩
          refine ⟨h1, h2, fun hs => ?_, fun hs => ?_⟩
          · rw [hson_s] at hs
            exact (hB hs).trans (h3.mono (hB hs).size)
          · rw [hson_s] at hs
            exact ⟨hC _ _ (hD hs).1 h3, fun x hx hb => hup _ ((hD hs).2 x hx hb)⟩)
    (by
      intro a' w' hI'
      obtain ⟨hF, hV, hB, hD⟩ := hI'
      have hsl : s < h.length := (List.getElem?_eq_some_iff.1 hos).1
      have hC2 := (hD (by simp [hsl])).1
      have ea : a' = putR a vals := by
        refine act_eq (Array.ext_getElem? fun d => ?_) (by rw [putR_defers]; exact hF.defers)
        by_cases hd : ∃ (i : Nat) (o : Oper), h[i]? = some o ∧ o.dst = some d
        · obtain ⟨i, o, h1, h2⟩ := hd
          obtain ⟨v, e1, e2⟩ := hV d ⟨i, o, h1, by simp [(List.getElem?_eq_some_iff.1 h1).1], h2⟩
          rw [e1, e2]
        · have hno : ∀ (i : Nat) (o : Oper), h[i]? = some o → o.dst ≠ some d := fun i o h1 h2 => hd ⟨i, o, h1, h2⟩
          rw [hF.out d hno, hfull.out d hno]
      have hfr := hfin w' hC2
      rw [← ea] at hfr
      show wpList P (h ++ l.drop n).toArray Q (l.drop n) a' w'
      rw [e]
      exact hfr)
    h.length (Array.replicate h.length false) a { w with drawn := w.drawn + 1 } (by simp) (by simp [open_])
    (by
      have hno : ∀ k, (Array.replicate h.length false).getD k false = true → False := fun k hk => by
        rw [Array.getD_eq_getD_getElem?, Array.getElem?_replicate] at hk
        split at hk <;> simp at hk
      exact ⟨⟨rfl, rfl, fun _ _ => rfl⟩, fun d hL => (by obtain ⟨i, o, _, hon, _⟩ := hL; exact (hno i hon).elim), fun _ => hw.drew, fun hs => (hno s hs).elim⟩)
  have h3 := lift_under (Q := Q) hE hG hT (by rw [e]; exact hS) h.length (Array.replicate h.length false) a _ (by simp) (by simp [open_]) (closed_none _) main
  rw [e] at h3
  have e1 : l.toArray.size = h.length + (l.drop n).length := by rw [← List.length_append, e]; simp
  rw [e1, show Array.replicate (h.length + (l.drop n).length) false = Array.replicate h.length false ++ Array.replicate (l.drop n).length false by simp]
  exact h3

/-- The store of one cell, in such a region. -/
theorem late_store {h : List Oper} {A0 A : Act} {W0 : World} {i : Nat} {o : Oper} {C2 : World → Prop} (hA : Full h A0 A (specOf []) []) (hg : o.guard = none) (hd : o.dst = none) (e : TypeId) (sz : ∀ w, (sizeOf e).run Try.prog w = .ok 1 w) (x y : Nat) (ho : o.op = .store e (.tmp x) (.tmp y)) (hwx : waitsFor h o x = true) (hwy : waitsFor h o y = true)
    (g k : Nat) (kd : IntKind) (v : Int) (hx : A.tmps[x]? = some (.pointer (some ⟨g, k, none⟩))) (hy : A.tmps[y]? = some (.int kd v)) (t : TypeId) (C : Array Value) (hB : ∀ w, Below W0.heap.size W0 w → Blk w g t C) (hk : k < C.size)
    (hC : ∀ w w', Below W0.heap.size W0 w → Blk w' g t (C.setIfInBounds k (.int kd v)) → Put w w' g → C2 w') :
    ∀ a' w', Fr h A0 a' → Below W0.heap.size W0 w' → GotE h [] (relR A (specOf [])) [] W0.heap.size i a' w' o →
      Region.wanted o (yielded h.toArray a'.tmps) = true ∧ o.wp Try.prog a' w' (fun a2 w2 => a2 = a' ∧ C2 w2) (fun _ _ _ => False) := by
  intro a' w' hF hb hgot
  have ex := gotE_det hA hgot hwx rfl rfl hx
  have ey := gotE_det hA hgot hwy rfl rfl hy
  refine ⟨by simp [Region.wanted, hg], ?_⟩
  have hgk := hB w' hb
  have hc : w'.cell? ⟨g, k, none⟩ = some C[k] := cell_row hgk (Array.getElem?_eq_getElem hk)
  have hf : w'.frozen? ⟨g, k, none⟩ = false := frozen_of_row w' g k C _ hgk
  have hrun : (execOp a'.eval o).run Try.prog w' = .ok .skip (w'.setCell ⟨g, k, none⟩ (.int kd v)) := by
    unfold execOp
    simp only [ho, ex, ey, Instr.storeAt, Instr.sureAddr, Sem.run_bind, Sem.run_pure, Result.andThen_ok]
    simp [storeVar, storeCells, sz, go_sem, hc, hf, Value.cells]
    try rfl
  unfold Oper.wp
  rw [hrun]
  refine ⟨by rw [hd]; rfl, hC w' _ hb (heap_setCell_same _ _ _ _ _ _ hgk) ⟨⟨rfl, rfl, rfl, by simp, fun j _ hj => heap_setCell_other w' ⟨g, k, none⟩ j _ (fun e => hj (by rw [e]))⟩, by simp⟩⟩
end Go.Proofs.Ytpamcmhfimnfbaa.sh
/-
  A region that draws its order, in which operations may be left out by their guards; no operation takes a block over.
-/
namespace Go.Proofs.Ytpamcmhfimnfbaa.sh
open Go Go.RowKit
set_option linter.unusedVariables false
set_option linter.unusedSimpArgs false

/-- An invariant carries any order, also where operations are left out. -/
theorem wpAny_skip {P : Program} {Q : Exit → Act → World → Prop} {l : List Oper} (I : Array Bool → Act → World → Prop) (hE : edgesIn l = true)
    (hstep : ∀ listed a w i o, listed.size = l.length → I listed a w → l[i]? = some o → listed.getD i true = false → (∀ e ∈ o.after, Region.binds .any e = true → listed.getD e.on false = true) →
      (Region.wanted o (yielded l.toArray a.tmps) = true ∧ o.wp P a w (fun a' w' => I (listed.setIfInBounds i true) a' w') Q) ∨ (Region.wanted o (yielded l.toArray a.tmps) = false ∧ I (listed.setIfInBounds i true) (a.put o.dst undef) w))
    (hdone : ∀ a w, I (Array.replicate l.length true) a w → Q .normal a w) :
    ∀ (fuel : Nat) (listed : Array Bool) (a : Act) (w : World), listed.size = l.length → open_ listed = fuel → I listed a w → wpAny P .any l.toArray Q fuel listed a w
  | 0, listed, a, w, hs, ho, hI => by
    have ha := all_true ho
    rw [hs] at ha
    refine ⟨?_, hdone a w (by rw [← ha]; exact hI)⟩
    rw [List.eq_nil_iff_forall_not_mem]
    intro j hj
    obtain ⟨h1, o, h2, _⟩ := mem_ready.1 hj
    have hl : j < l.length := by
      have := (Array.getElem?_eq_some_iff.1 h2).1
      simpa using this
    rw [ha] at h1
    simp [hl] at h1
  | f + 1, listed, a, w, hs, ho, hI => by
    refine ⟨fun hr => ?_, fun i hi => ?_⟩
    · obtain ⟨i, h1, h2⟩ := least_open (listed := listed) (by omega)
      have hil : i < l.length := by
        rcases Nat.lt_or_ge i l.length with h' | h'
        · exact h'
        · have : listed.size ≤ i := by omega
          simp [Array.getElem?_eq_none this] at h1
      have hm : i ∈ Region.ready .any l.toArray listed := mem_ready.2 ⟨h1, l[i], by simp [hil], fun e he hb => h2 _ (edge_lt hE (List.getElem?_eq_getElem hil) he hb)⟩
      rw [hr] at hm
      cases hm
    · obtain ⟨h1, o, h2, h3⟩ := mem_ready.1 hi
      have h2' : l[i]? = some o := by simpa using h2
      have next : ∀ a' w', I (listed.setIfInBounds i true) a' w' → wpAny P .any l.toArray Q f (listed.setIfInBounds i true) a' w' := fun a' w' h => wpAny_skip I hE hstep hdone f _ a' w' (by simpa using hs) (by have := open_set h1; omega) h
      rcases hstep listed a w i o hs hI h2' h1 h3 with ⟨hw, hwp⟩ | ⟨hw, hsk⟩
      · unfold wpOp
        simp only [h2, hw, if_true]
        left
        exact Oper.wp_mono next hwp
      · unfold wpOp
        simp only [h2, hw]
        exact next _ _ hsk

/-- What is asked of each operation: it is carried out, or left out. -/
def SkipOk (P : Program) (h : List Oper) (A0 : Act) (W0 : World) (R : Nat → Value → World → Prop) (i : Nat) (o : Oper) : Prop :=
  OwnOk P h A0 W0 R [] [] i o ∨ ∃ d, o.dst = some d ∧ ∀ a w, Fr h A0 a → GotE h [] R [] W0.heap.size i a w o → Region.wanted o (yielded h.toArray a.tmps) = false ∧ R d undef w
def SkipAll (P : Program) (h : List Oper) (A0 : Act) (W0 : World) (R : Nat → Value → World → Prop) : Nat → List Oper → Prop
  | _, [] => True
  | i, o :: r => SkipOk P h A0 W0 R i o ∧ SkipAll P h A0 W0 R (i + 1) r
theorem skipAll_get {P : Program} {h : List Oper} {A0 : Act} {W0 : World} {R : Nat → Value → World → Prop} : ∀ (r : List Oper) (k : Nat), SkipAll P h A0 W0 R k r → ∀ i o, r[i]? = some o → SkipOk P h A0 W0 R (k + i) o
  | [], _, _, i, o, ho => by simp at ho
  | x :: r, k, hr, 0, o, ho => by simp at ho; subst ho; exact hr.1
  | x :: r, k, hr, i + 1, o, ho => by
    have := skipAll_get r (k + 1) hr.2 i o (by simpa using ho)
    rwa [show k + 1 + i = k + (i + 1) from by omega] at this
theorem skip_at {P : Program} {h : List Oper} {A0 A : Act} {W0 : World} {S : Nat → Option (Value → World → Prop)} {sp : List Nat} {i : Nat} {o : Oper} (hA : Full h A0 A S sp) (j : Nat) (b c : Bool) (d s : Nat) (hg : o.guard = some (j, b)) (hj : (h[j]?).bind (·.dst) = some s) (hw : waitsFor h o s = true) (hs : sp.contains s = false) (hv : A.tmps[s]? = some (.bool c)) (hc : (c == b) = false) (hd : o.dst = some d) (hds : sp.contains d = false) (hu : A.tmps[d]? = some undef) : SkipOk P h A0 W0 (relR A S) i o :=
  .inr ⟨d, hd, fun a w _ hgot => by
    obtain ⟨u, e1, e2, _⟩ := hgot s hw rfl
    unfold relR at e2
    rw [hA.spec s (not_mem_of hs), hv] at e2
    cases e2
    have hcb : c ≠ b := by simpa using hc
    refine ⟨by simp [Region.wanted, hg, yielded, hj, e1, hcb], ?_⟩
    unfold relR
    rw [hA.spec d (not_mem_of hds)]
    exact hu⟩
/-- As it is left out of a slot that was left out, too. -/
theorem skip_undef {P : Program} {h : List Oper} {A0 A : Act} {W0 : World} {S : Nat → Option (Value → World → Prop)} {sp : List Nat} {i : Nat} {o : Oper} (hA : Full h A0 A S sp) (j : Nat) (b : Bool) (d s : Nat) (hg : o.guard = some (j, b)) (hj : (h[j]?).bind (·.dst) = some s) (hw : waitsFor h o s = true) (hs : sp.contains s = false) (hv : A.tmps[s]? = some undef) (hd : o.dst = some d) (hds : sp.contains d = false) (hu : A.tmps[d]? = some undef) : SkipOk P h A0 W0 (relR A S) i o :=
  .inr ⟨d, hd, fun a w _ hgot => by
    obtain ⟨u, e1, e2, _⟩ := hgot s hw rfl
    unfold relR at e2
    rw [hA.spec s (not_mem_of hs), hv] at e2
    cases e2
    refine ⟨by simp [Region.wanted, hg, yielded, hj, e1, undef], ?_⟩
    unfold relR
    rw [hA.spec d (not_mem_of hds)]
    exact hu⟩

theorem region_skipL {P : Program} {Q : Exit → Act → World → Prop} {id : Nat} {a : Act} {w : World} (W0 : World) (n : Nat) {l : List Oper} (vals : List (Nat × Value)) (L : List (Nat × (Value → World → Prop))) (hm : P.follows .mixedOrders = true)
    (hE : edgesIn (l.take n) = true) (hG : guardsIn (l.take n) = true) (hA : dstsApart (l.take n) 0 = true) (hI : dstsIn (l.take n) a.tmps.size = true) (hT : tailUnder (l.take n) (l.drop n) = true)
    (hS : Region.seqB .any l.toArray (l.drop n).length (l.take n).length (Array.replicate (l.take n).length true ++ Array.replicate (l.drop n).length false) = true)
    (hv : (vals.all fun p => (dstsOf (l.take n)).contains p.1) = true) (hsp : ((L.map (·.1)).all fun d => (dstsOf (l.take n)).contains d) = true)
    (hst : ∀ q ∈ L, ∀ (v : Value) (w w' : World), q.2 v w → Below w.heap.size w w' → q.2 v w') (hw : Below W0.heap.size W0 w)
    (hok : Full (l.take n) a (putR a vals) (specOf L) (L.map (·.1)) → SkipAll P (l.take n) a W0 (relR (putR a vals) (specOf L)) 0 (l.take n))
    (hfin : ∀ (f : Nat → Value) w', (∀ d p, specOf L d = some p → p (f d) w') → Below W0.heap.size W0 w' → wpList P l.toArray Q (l.drop n) (putR (putR a vals) ((L.map (·.1)).map fun d => (d, f d))) w') : (Code.region id l.toArray true).wp P Q a w := by
  have hfull : Full (l.take n) a (putR a vals) (specOf L) (L.map (·.1)) := full_put vals hv (specOf_none L)
  have hok' := hok hfull
  clear hok
  have hin : ∀ d, d ∈ L.map (·.1) → d ∈ dstsOf (l.take n) := fun d hd => List.contains_iff_mem.1 (List.all_eq_true.1 hsp d hd)
  have hkeep : ∀ d v (w w' : World), relR (putR a vals) (specOf L) d v w → Below w.heap.size w w' → relR (putR a vals) (specOf L) d v w' := fun d v w w' h1 h2 => by
    unfold relR at *
    cases hs : specOf L d with
    | none => rw [hs] at h1; exact h1
    | some p =>
      rw [hs] at h1
      obtain ⟨q, hq, rfl, rfl⟩ := specOf_mem' L d p hs
      exact hst q hq v w w' h1 h2
  have e : l.take n ++ l.drop n = l := List.take_append_drop n l
  refine wp_region_any hm ?_
  generalize hh : l.take n = h at *
  have main := wpAny_skip (P := P) (l := h) (Q := headPost P (h ++ l.drop n).toArray Q (l.drop n))
    (fun listed a' w' => Fr h a a' ∧ Below W0.heap.size W0 w' ∧ ∀ d, (∃ (i : Nat) (o : Oper), h[i]? = some o ∧ listed.getD i false = true ∧ o.dst = some d) → ∃ v, a'.tmps[d]? = some v ∧ relR (putR a vals) (specOf L) d v w') hE
    (by
      intro listed a' w' i o hls hI' ho hun hall
      obtain ⟨hF, hB, hV⟩ := hI'
      have hil : i < listed.size := by rw [hls]; exact (List.getElem?_eq_some_iff.1 ho).1
      have hson : ∀ k, (listed.setIfInBounds i true).getD k false = if k = i then true else listed.getD k false := fun k => by
        by_cases hk : k = i
        · subst hk; simp [hil]
        · rw [if_neg hk, getD_set_ne false (Ne.symm hk)]
      have hgot : GotE h [] (relR (putR a vals) (specOf L)) [] W0.heap.size i a' w' o := fun d hs hq => by
        obtain ⟨x, hx, h1⟩ := Array.any_eq_true'.1 hs
        simp only [Bool.and_eq_true] at h1
        cases ho' : h[x.on]? with
        | none => simp [ho'] at h1
        | some o' =>
          obtain ⟨v, e1, e2⟩ := hV d ⟨x.on, o', ho', hall x hx h1.1, by simpa [ho'] using h1.2⟩
          exact ⟨v, e1, e2, fun hc => by simp at hc⟩
      have step : ∀ d v w2, o.dst = some d → relR (putR a vals) (specOf L) d v w2 → Below w'.heap.size w' w2 → Fr h a (a'.put (some d) v) ∧ Below W0.heap.size W0 w2 ∧ ∀ d', (∃ (j : Nat) (o : Oper), h[j]? = some o ∧ (listed.setIfInBounds i true).getD j false = true ∧ o.dst = some d') → ∃ u, (a'.put (some d) v).tmps[d']? = some u ∧ relR (putR a vals) (specOf L) d' u w2 := by
        intro d v w2 hd hR hb
        have hdl : d < a'.tmps.size := by
          have := List.all_eq_true.1 hI o (List.mem_of_getElem? ho)
          rw [hd] at this
          rw [hF.size]
          simpa using this
        have hother : ∀ d', d' ≠ d → (a'.put (some d) v).tmps[d']? = a'.tmps[d']? := fun d' hne => by simp [Act.put, Array.getElem?_setIfInBounds_ne (Ne.symm hne)]
        have hself : (a'.put (some d) v).tmps[d]? = some v := by simp [Act.put, hdl]
        refine ⟨⟨by rw [size_put]; exact hF.size, hF.defers, fun d' h' => ?_⟩, hB.trans (hb.mono hB.size), fun d' hL => ?_⟩
        · rw [hother d' (fun e2 => h' i o ho (by rw [hd, e2]))]
          exact hF.out d' h'
        · by_cases hdd : d' = d
          · subst hdd
            exact ⟨v, hself, hR⟩
          · obtain ⟨j, o', h1, h2, h3⟩ := hL
            rw [hother d' hdd]
            have h2' : listed.getD j false = true := by
              rw [hson j] at h2
              split at h2
              · next hji => subst hji; rw [ho] at h1; cases h1; rw [hd] at h3; exact absurd (Option.some.inj h3).symm hdd
              · exact h2
            obtain ⟨u, e1, e2⟩ := hV d' ⟨j, o', h1, h2', h3⟩
            exact ⟨u, e1, hkeep d' u w' w2 e2 hb⟩
      rcases (by have := skipAll_get h 0 hok' i o ho; rwa [Nat.zero_add] at this : SkipOk P h a W0 (relR (putR a vals) (specOf L)) i o) with ⟨d, hd, hrun⟩ | ⟨d, hd, hskip⟩
      · obtain ⟨hwant, hwp⟩ := hrun a' w' hF hB hgot
        refine .inl ⟨hwant, wp_false ?_ hwp⟩
        rintro a2 w2 ⟨v, row, rfl, hR, hg, hrow, _⟩
        exact step d v w2 hd hR (grown_empty hg (fun b hb => by obtain ⟨s', hs', _⟩ := hrow b hb; cases hs'))
      · obtain ⟨hwant, hR⟩ := hskip a' w' hF hgot
        refine .inr ⟨hwant, ?_⟩
        rw [hd]
        exact step d undef w' hd hR (Below.refl _ _))
    (by
      intro a' w' hI'
      obtain ⟨hF, hB, hV⟩ := hI'
      have hall : ∀ d (i : Nat) (o : Oper), h[i]? = some o → o.dst = some d → ∃ v, a'.tmps[d]? = some v ∧ relR (putR a vals) (specOf L) d v w' := fun d i o h1 h2 => hV d ⟨i, o, h1, by simp [(List.getElem?_eq_some_iff.1 h1).1], h2⟩
      have hfr := hfin (fun d => (a'.tmps[d]?).getD undef) w' (fun d p hp => by
        obtain ⟨q, hq, e1, rfl⟩ := specOf_mem' L d p hp
        have hd := hin d (by rw [← e1]; exact List.mem_map.2 ⟨q, hq, rfl⟩)
        obtain ⟨o, ho, hdo⟩ := List.mem_filterMap.1 hd
        obtain ⟨i, hi, he⟩ := List.getElem_of_mem ho
        obtain ⟨v, e2, e3⟩ := hall d i o (by rw [List.getElem?_eq_getElem hi, he]) hdo
        simp only [e2, Option.getD_some]
        unfold relR at e3
        rw [hp] at e3
        exact e3) hB
      have ea : a' = putR (putR a vals) ((L.map (·.1)).map fun d => (d, (a'.tmps[d]?).getD undef)) := by
        refine act_eq (Array.ext_getElem? fun d => ?_) (by rw [putR_defers, putR_defers]; exact hF.defers)
        rw [putR_get', putR_size]
        by_cases hdl : d < a.tmps.size
        · rw [if_pos hdl]
          have hsm : a'.tmps[d]? = some ((a'.tmps[d]?).getD undef) := by
            rw [Array.getElem?_eq_getElem (show d < a'.tmps.size by rw [hF.size]; exact hdl)]
            rfl
          by_cases h2 : d ∈ L.map (·.1)
          · rw [if_pos h2]
            exact hsm
          · rw [if_neg h2]
            by_cases hd : ∃ (i : Nat) (o : Oper), h[i]? = some o ∧ o.dst = some d
            · obtain ⟨i, o, h1, h3⟩ := hd
              obtain ⟨v, e1, e2⟩ := hall d i o h1 h3
              unfold relR at e2
              rw [hfull.spec d h2] at e2
              rw [e1]
              exact e2.symm
            · have hno : ∀ (i : Nat) (o : Oper), h[i]? = some o → o.dst ≠ some d := fun i o h1 h3 => hd ⟨i, o, h1, h3⟩
              rw [hF.out d hno, hfull.out d hno]
        · rw [if_neg hdl, Array.getElem?_eq_none (by rw [hF.size]; omega)]
      rw [← ea] at hfr
      show wpList P (h ++ l.drop n).toArray Q (l.drop n) a' w'
      rw [e]
      exact hfr)
    h.length (Array.replicate h.length false) a { w with drawn := w.drawn + 1 } (by simp) (by simp [open_])
    (by
      have hno : ∀ k, (Array.replicate h.length false).getD k false = true → False := fun k hk => by
        rw [Array.getD_eq_getD_getElem?, Array.getElem?_replicate] at hk
        split at hk <;> simp at hk
      exact ⟨⟨rfl, rfl, fun _ _ => rfl⟩, hw.drew, fun d hL => (by obtain ⟨i, o, _, hon, _⟩ := hL; exact (hno i hon).elim)⟩)
  have h3 := lift_under (Q := Q) hE hG hT (by rw [e]; exact hS) h.length (Array.replicate h.length false) a _ (by simp) (by simp [open_]) (closed_none _) main
  rw [e] at h3
  have e1 : l.toArray.size = h.length + (l.drop n).length := by rw [← List.length_append, e]; simp
  rw [e1, show Array.replicate (h.length + (l.drop n).length) false = Array.replicate h.length false ++ Array.replicate (l.drop n).length false by simp]
  exact h3
end Go.Proofs.Ytpamcmhfimnfbaa.sh
/-
  Sums of numbers, what is left modulo p, and the bytes of a number, by the program.
-/
namespace Go.Proofs.Ytpamcmhfimnfbaa.sh
open Go Go.RowKit
set_option linter.unusedVariables false
set_option linter.unusedSimpArgs false

theorem nt_info : (Try.prog.info? 67).map (·.size) = some 3 := by kernel_rfl
theorem a16_info : (Try.prog.info? 43).map (·.size) = some 16 := by kernel_rfl
set_option maxHeartbeats 1000000 in
theorem plus_any (x0 x1 x2 y0 y1 y2 : Nat) (w : World) (hx : x0 < 18446744073709551616 ∧ x1 < 18446744073709551616 ∧ x2 < 18446744073709551616) (hy : y0 < 18446744073709551616 ∧ y1 < 18446744073709551616 ∧ y2 < 18446744073709551616) :
    Calls Try.prog 35 #[.agg #[.int .u64 (x0 : Int), .int .u64 (x1 : Int), .int .u64 (x2 : Int)], .agg #[.int .u64 (y0 : Int), .int .u64 (y1 : Int), .int .u64 (y2 : Int)]] w
      fun e w' => ∃ z0 z1 z2 c : Nat, e = .returned (.agg #[.int .u64 (z0 : Int), .int .u64 (z1 : Int), .int .u64 (z2 : Int)]) ∧ Below w.heap.size w w' ∧
        Kept (z0 < 18446744073709551616 ∧ z1 < 18446744073709551616 ∧ z2 < 18446744073709551616 ∧ z0 + 18446744073709551616 * z1 + 340282366920938463463374607431768211456 * z2 + 6277101735386680763835789423207666416102355444464034512896 * c = x0 + 18446744073709551616 * x1 + 340282366920938463463374607431768211456 * x2 + (y0 + 18446744073709551616 * y1 + 340282366920938463463374607431768211456 * y2)) := by
  obtain ⟨z0, c0, h0, H0⟩ := call_add64_0 x0 y0
  obtain ⟨z1, c1, h1, H1⟩ := call_add64 x1 y1 c0 (by have := H0.out; have := hx.1; have := hy.1; omega)
  obtain ⟨z2, c2, h2, H2⟩ := call_add64 x2 y2 c1 (by have := H1.out; have := H0.out; have := hx.1; have := hy.1; have := hx.2.1; have := hy.2.1; omega)
  have HF : Kept (z0 < 18446744073709551616 ∧ z1 < 18446744073709551616 ∧ z2 < 18446744073709551616 ∧ z0 + 18446744073709551616 * z1 + 340282366920938463463374607431768211456 * z2 + 6277101735386680763835789423207666416102355444464034512896 * c2 = x0 + 18446744073709551616 * x1 + 340282366920938463463374607431768211456 * x2 + (y0 + 18446744073709551616 * y1 + 340282366920938463463374607431768211456 * y2)) := ⟨by
    have := H0.out; have := H1.out; have := H2.out
    omega⟩
  clear H0 H1 H2 hx hy
  go_enter Try.func35, Try.ntmps35
  go_wp2
  refine wp_loop_rounds 4 ?_
  rw [rounds_succ]
  go_wp2
  go_region
  go_wp2
  rw [rounds_succ]
  go_wp2
  go_region
  go_wp2
  rw [rounds_succ]
  go_wp2
  go_region
  go_wp2
  rw [rounds_succ]
  go_wp2
  refine bodyPost_ret (v := .agg #[.int .u64 (z0 : Int), .int .u64 (z1 : Int), .int .u64 (z2 : Int)]) (by simp [results, Try.results35, go_sem]) rfl ⟨z0, z1, z2, c2, rfl, ?_, HF⟩
  repeat (first | exact Below.refl _ _ | refine Below.drew ?_ | refine Below.alloc ?_ (by simp <;> omega) _ | refine Below.setCell ?_ (by simp <;> omega) _)

theorem plusD (N K : Nat) (w : World) (h : N + K < 6277101735386680763835789423207666416102355444464034512896) :
    Calls Try.prog 35 #[.agg (ints .u64 (nw N)), .agg (ints .u64 (nw K))] w fun e w' => e = .returned (.agg (ints .u64 (nw (N + K)))) ∧ Below w.heap.size w w' := by
  refine (plus_any (wd N 0) (wd N 1) (wd N 2) (wd K 0) (wd K 1) (wd K 2) w ⟨wd_lt _ _, wd_lt _ _, wd_lt _ _⟩ ⟨wd_lt _ _, wd_lt _ _, wd_lt _ _⟩).mono ?_
  rintro e w' ⟨z0, z1, z2, c, rfl, hb, H⟩
  refine ⟨?_, hb⟩
  obtain ⟨h0, h1, h2, h3⟩ := H.out
  rw [nw_sum N (by omega), nw_sum K (by omega)] at h3
  rw [nw_of z0 z1 z2 (N + K) h0 h1 h2 (by omega)]
  rfl

theorem run_shr2 {o : Oper} {a : Act} {x : Operand} {m z : Nat} (ho : o.op = .binOp .shr 23 x (.const (.int .u64 2)) 90) (hx : a.eval x = .int .u64 (m : Int)) (hm : m < 18446744073709551616) (hz : z = m / 4) (w : World) : (execOp a.eval o).run Try.prog w = .ok (.value (.int .u64 (z : Int))) w := by
  have e3 : a.eval (.const (.int .u64 2)) = .int .u64 2 := rfl
  unfold execOp
  simp only [ho, hx, e3]
  rw [hz]
  simp [go_sem, Op.shift, IntKind.bits]
  exact Int.fdiv_eq_ediv_of_nonneg _ (by decide)
theorem run_and3 {o : Oper} {a : Act} {x : Operand} {m z : Nat} (ho : o.op = .binOp .and 23 x (.const (.int .u64 3)) 23) (hx : a.eval x = .int .u64 (m : Int)) (hm : m < 18446744073709551616) (hz : z = m % 4) (w : World) : (execOp a.eval o).run Try.prog w = .ok (.value (.int .u64 (z : Int))) w := by
  have e3 : a.eval (.const (.int .u64 3)) = .int .u64 3 := rfl
  have h := u64_and_nat m 3 hm (by decide)
  rw [show (3 : Nat) = 2 ^ 2 - 1 by decide, Nat.and_two_pow_sub_one_eq_mod] at h
  unfold execOp
  simp only [ho, hx, e3]
  rw [hz]
  simp [go_sem]
  exact h
theorem red_less (N : Nat) (h : N < 2722258935367507707706996859454145691638) (h0 : wd (N + 5) 2 / 4 = 0) : N % 1361129467683753853853498429727072845819 = N := by
  rw [wd2] at h0
  omega
theorem red_more (N : Nat) (h : N < 2722258935367507707706996859454145691638) (h0 : wd (N + 5) 2 / 4 ≠ 0) : nw (N % 1361129467683753853853498429727072845819) = [wd (N + 5) 0, wd (N + 5) 1, wd (N + 5) 2 % 4] := by
  refine nw_of _ _ _ _ (wd_lt _ _) (wd_lt _ _) (by omega) ?_
  have hs := nw_sum (N + 5) (by omega)
  generalize wd (N + 5) 0 = a at *
  generalize wd (N + 5) 1 = b at *
  generalize wd (N + 5) 2 = c at *
  have hc : c / 4 = 1 := by omega
  have hm : 1361129467683753853853498429727072845819 ≤ N := by omega
  have hmod : N % 1361129467683753853853498429727072845819 = N - 1361129467683753853853498429727072845819 := by rw [Nat.mod_eq_sub_mod hm]; exact Nat.mod_eq_of_lt (by omega)
  rw [hmod]
  omega

set_option maxRecDepth 100000 in
set_option maxHeartbeats 1000000 in
theorem reducedD (N : Nat) (w : World) (hN : N < 2722258935367507707706996859454145691638) :
    Calls Try.prog 38 #[.agg (ints .u64 (nw N))] w fun e w' => e = .returned (.agg (ints .u64 (nw (N % 1361129467683753853853498429727072845819)))) ∧ Below w.heap.size w w' := by
  obtain ⟨L, hL⟩ : ∃ L, L = nw (N % 1361129467683753853853498429727072845819) := ⟨_, rfl⟩
  obtain ⟨a, ha⟩ : ∃ a, a = nw N := ⟨_, rfl⟩
  obtain ⟨m, hm⟩ : ∃ m, m = nw (N + 5) := ⟨_, rfl⟩
  obtain ⟨m2, hm2⟩ : ∃ m, m = wd (N + 5) 2 := ⟨_, rfl⟩
  obtain ⟨q, hq⟩ : ∃ q, q = m2 / 4 := ⟨_, rfl⟩
  obtain ⟨r, hr⟩ : ∃ r, r = m2 % 4 := ⟨_, rfl⟩
  rw [← hL, ← ha]
  have LL : Kept (L.length = 3) := ⟨by rw [hL]; rfl⟩
  have LA : Kept (a.length = 3) := ⟨by rw [ha]; rfl⟩
  have LM : Kept (m.length = 3) := ⟨by rw [hm]; rfl⟩
  have G2 : Kept ((ints .u64 m)[2]? = some (.int .u64 (m2 : Int))) := ⟨ints_get (by rw [hm, hm2]; rfl)⟩
  have B2 : Kept (m2 < 18446744073709551616) := ⟨by rw [hm2]; exact wd_lt _ _⟩
  have Hq : Kept _ := ⟨hq⟩
  have Hr : Kept _ := ⟨hr⟩
  have C0 : Kept (q = 0 → L = a) := ⟨fun h => by rw [hL, ha, red_less N hN (by rw [← hm2, ← hq, h])]⟩
  have C1 : Kept (q ≠ 0 → m.set 2 r = L) := ⟨fun h => by rw [hL, red_more N hN (by rw [← hm2, ← hq]; exact h), hm, hr, hm2]; rfl⟩
  have CP : Kept (∀ w', Calls Try.prog 35 #[.agg (ints .u64 a), .agg #[.int .u64 5, .int .u64 0, .int .u64 0]] w' fun e w2 => e = .returned (.agg (ints .u64 m)) ∧ Below w'.heap.size w' w2) := ⟨fun w' => by rw [ha, hm]; exact plusD N 5 w' (by omega)⟩
  obtain ⟨ZZ, hZZ⟩ : ∃ ZZ : Array Value, ZZ = #[.int .u64 0, .int .u64 0, .int .u64 0] := ⟨_, rfl⟩
  have LZ : Kept (ZZ.size = 3) := ⟨by rw [hZZ]; rfl⟩
  have A0 : Blk ((w.alloc (.cells (ints .u64 a) 67)).alloc (.cells #[.int .u64 0, .int .u64 0, .int .u64 0] 67)) w.heap.size 67 (ints .u64 a) := (blk_new w _ _).alloc _
  have A1 : Blk ((w.alloc (.cells (ints .u64 a) 67)).alloc (.cells #[.int .u64 0, .int .u64 0, .int .u64 0] 67)) (w.heap.size + 1) 67 ZZ := by rw [hZZ]; exact blk_top _ _ _ _ (by simp)
  have Q0 : Below w.heap.size w ((w.alloc (.cells (ints .u64 a) 67)).alloc (.cells #[.int .u64 0, .int .u64 0, .int .u64 0] 67)) := ((Below.refl _ _).alloc (Nat.le_refl _) _).alloc (by simp) _
  clear hL ha hm hm2 hq hr hN hZZ
  go_enter Try.func38, Try.ntmps38
  go_wp2_with (first | ((with_reducible refine wv_row (d := 4) ?hd ?hw 67 (.tmp 1) ?ho (w.heap.size) ?hx (t' := 67) (ints .u64 a) _ _ Try.underlying67 ?hs ?hg ?_); (case hd => rfl); (case hw => kernel_rfl); (case ho => rfl); (case hx => kernel_rfl); (case hs => rw [ints_size, LA.out]; exact nt_info); (case hg => exact A0); simp only [Act.put, List.setIfInBounds_toArray, List.set_cons_succ, List.set_cons_zero]))
  refine (CP.out _).mono ?_
  rintro e w1 ⟨rfl, hb1⟩
  have B0 := A0.under hb1
  have B1 := A1.under hb1
  have Q1 := Q0.trans (hb1.mono Q0.size)
  have hl1 : w.heap.size + 1 < w1.heap.size := B1.lt
  clear A0 A1 Q0 hb1 CP
  go_wp2_with (first | (refine wl_store rfl 67 (.tmp 3) (.tmp 6) rfl w1.heap.size (ints .u64 m) rfl rfl _ (blk_new w1 _ _) (by rw [ints_size, LM.out]; exact nt_info) (by rw [ints_size, LM.out]; rfl) (ints_one _ _) ?_))
  intro w3 A3 P3
  have C0' := P3.blk (B0.alloc _) (by omega)
  have C1' := P3.blk (B1.alloc _) (by omega)
  have Q3 := (Q1.alloc Q1.size _).trans (P3.below (by omega))
  generalize hg3 : w1.heap.size = g3 at *
  clear B0 B1 Q1 P3
  have KA : Kept _ := ⟨A3⟩
  by_cases hq0 : q = 0
  · have e := C0.out hq0
    subst e
    subst hq0
    clear C0 C1
    go_wp2_with (first | ((with_reducible refine wv_elem (d := 8) ?hd ?hw 23 ag_u64 (.tmp 7) ?ho (⟨g3, 2, none⟩) ?hx (.int .u64 (m2 : Int)) ?hc ?_); (case hd => rfl); (case hw => kernel_rfl); (case ho => rfl); (case hx => kernel_rfl); (case hc => exact KA.out.cell G2.out); simp only [Act.put, List.setIfInBounds_toArray, List.set_cons_succ, List.set_cons_zero]) | ((with_reducible refine wv_val (d := 9) ?hd ?hw (.int .u64 (0 : Int)) ?hr ?_); (case hd => rfl); (case hw => kernel_rfl); (case hr => intro w; exact run_shr2 (z := 0) rfl (by kernel_rfl) B2.out Hq.out w); simp only [Act.put, List.setIfInBounds_toArray, List.set_cons_succ, List.set_cons_zero]) | (refine wl_load rfl 67 (.tmp 1) rfl (w.heap.size) rfl (ints .u64 L) 3 23 Try.underlying67 (by rw [ints_size, LL.out]; exact nt_info) C0' ?_) | (refine wl_store rfl 67 (.tmp 2) (.tmp 11) rfl _ (ints .u64 L) rfl rfl _ C1' (by rw [ints_size, LL.out]; exact nt_info) (by rw [ints_size, LL.out, LZ.out]) (ints_one _ _) ?_))
    intro w5 A5 P5
    go_wp2
    exact bodyPost_ret (v := .agg (ints .u64 L)) (results_cell_row Try.results38 _ _ _ 67 (ints .u64 L) (0, 0) _ rfl A5 Try.underlying67 rfl (by rw [ints_size, LL.out]; exact nt_info)) rfl ⟨rfl, Q3.trans (P5.below (by omega))⟩
  · have e := C1.out hq0
    have EM : Kept _ := ⟨e⟩
    have hqi : ¬ (q : Int) = 0 := by omega
    clear C0 C1 e
    go_wp2_with (first | ((with_reducible refine wv_elem (d := 8) ?hd ?hw 23 ag_u64 (.tmp 7) ?ho (⟨g3, 2, none⟩) ?hx (.int .u64 (m2 : Int)) ?hc ?_); (case hd => rfl); (case hw => kernel_rfl); (case ho => rfl); (case hx => kernel_rfl); (case hc => exact KA.out.cell G2.out); simp only [Act.put, List.setIfInBounds_toArray, List.set_cons_succ, List.set_cons_zero]) | ((with_reducible refine wv_val (d := 9) ?hd ?hw (.int .u64 (q : Int)) ?hr ?_); (case hd => rfl); (case hw => kernel_rfl); (case hr => intro w; exact run_shr2 rfl (by kernel_rfl) B2.out Hq.out w); simp only [Act.put, List.setIfInBounds_toArray, List.set_cons_succ, List.set_cons_zero]) | ((with_reducible refine wv_elem (d := 13) ?hd ?hw 23 ag_u64 (.tmp 12) ?ho (⟨g3, 2, none⟩) ?hx (.int .u64 (m2 : Int)) ?hc ?_); (case hd => rfl); (case hw => kernel_rfl); (case ho => rfl); (case hx => kernel_rfl); (case hc => exact KA.out.cell G2.out); simp only [Act.put, List.setIfInBounds_toArray, List.set_cons_succ, List.set_cons_zero]) | ((with_reducible refine wv_val (d := 14) ?hd ?hw (.int .u64 (r : Int)) ?hr ?_); (case hd => rfl); (case hw => kernel_rfl); (case hr => intro w; exact run_and3 rfl (by kernel_rfl) B2.out Hr.out w); simp only [Act.put, List.setIfInBounds_toArray, List.set_cons_succ, List.set_cons_zero]) | (refine wl_setElem rfl 23 sz_u64 (.tmp 15) (.tmp 14) rfl g3 2 .u64 (r : Int) rfl rfl _ KA.out (by rw [ints_size, LM.out]; decide) ?_))
    intro w4 A4 P4
    rw [ints_set, EM.out] at A4
    have C1'' := P4.blk C1' (by omega)
    have Q4 := Q3.trans (P4.below (by omega))
    clear C0' C1' Q3 P4 KA A3
    go_wp2_with (first | (refine wl_load rfl 67 (.tmp 3) rfl g3 rfl (ints .u64 L) 3 23 Try.underlying67 (by rw [ints_size, LL.out]; exact nt_info) A4 ?_) | (refine wl_store rfl 67 (.tmp 2) (.tmp 16) rfl _ (ints .u64 L) rfl rfl _ C1'' (by rw [ints_size, LL.out]; exact nt_info) (by rw [ints_size, LL.out, LZ.out]) (ints_one _ _) ?_))
    intro w5 A5 P5
    go_wp2
    exact bodyPost_ret (v := .agg (ints .u64 L)) (results_cell_row Try.results38 _ _ _ 67 (ints .u64 L) (0, 0) _ rfl A5 Try.underlying67 rfl (by rw [ints_size, LL.out]; exact nt_info)) rfl ⟨rfl, Q4.trans (P5.below (by omega))⟩
end Go.Proofs.Ytpamcmhfimnfbaa.sh
