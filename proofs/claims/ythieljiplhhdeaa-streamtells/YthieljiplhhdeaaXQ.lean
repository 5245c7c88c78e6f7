/-
  The reference: a word turned, a word of bytes, a quarter.
-/
import Derived.Test.YthieljiplhhdeaaXF
namespace Go.Proofs.Ythieljiplhhdeaa.sh
open Go Go.RowKit
set_option linter.unusedVariables false
set_option linter.unusedSimpArgs false

theorem run_mul32c {o : Oper} {a : Act} {x : Operand} {m z : Nat} (ho : o.op = .binOp .mul 24 x (.const (.int .u32 2)) 24) (hx : a.eval x = .int .u32 (m : Int)) (hz : z = m * 2 % 4294967296) (w : World) : (execOp a.eval o).run Try.prog w = .ok (.value (.int .u32 (z : Int))) w := by
  have e3 : a.eval (.const (.int .u32 2)) = .int .u32 2 := rfl
  unfold execOp
  simp only [ho, hx, e3]
  simp [go_sem, IntKind.wrap_u32']
  omega
theorem run_quo32c {o : Oper} {a : Act} {x : Operand} {m z : Nat} (c : Nat) (ho : o.op = .binOp .quo 24 x (.const (.int .u32 (c : Int))) 24) (hx : a.eval x = .int .u32 (m : Int)) (hc : 0 < c) (hm : m < 4294967296) (hz : z = m / c) (w : World) : (execOp a.eval o).run Try.prog w = .ok (.value (.int .u32 (z : Int))) w := by
  have e3 : a.eval (.const (.int .u32 (c : Int))) = .int .u32 (c : Int) := rfl
  have h3 : (m : Int).tdiv (c : Int) = (z : Int) := by rw [hz, Int.tdiv_eq_ediv_of_nonneg (by omega)]; rfl
  have h0 : ¬ (c : Int) = 0 := by omega
  have hz' : z < 4294967296 := by rw [hz]; exact Nat.lt_of_le_of_lt (Nat.div_le_self _ _) hm
  unfold execOp
  simp only [ho, hx, e3]
  simp [go_sem, h0, IntKind.wrap_u32']
  have h4 : (m : Int) / (c : Int) = (z : Int) := by rw [hz]; rfl
  rw [if_neg (by omega), h4, show ((z : Int) % 4294967296) = (z : Int) by omega]
theorem run_mulc32 {o : Oper} {a : Act} {x : Operand} {m z : Nat} (c : Nat) (ho : o.op = .binOp .mul 24 (.const (.int .u32 (c : Int))) x 24) (hx : a.eval x = .int .u32 (m : Int)) (hz : z = c * m % 4294967296) (w : World) : (execOp a.eval o).run Try.prog w = .ok (.value (.int .u32 (z : Int))) w := by
  have e3 : a.eval (.const (.int .u32 (c : Int))) = .int .u32 (c : Int) := rfl
  have h3 : ((c : Int) * (m : Int)) % 4294967296 = (z : Int) := by rw [hz, Int.natCast_emod, Int.natCast_mul]; rfl
  unfold execOp
  simp only [ho, hx, e3]
  simp [go_sem, IntKind.wrap_u32', h3]
set_option maxHeartbeats 400000 in
theorem rturn_any (x n : Nat) (w : World) (hx : x < 4294967296) (hn : n ≤ 16) :
    Calls Try.prog 23 #[.int .u32 (x : Int), .int .i64 (n : Int)] w fun e w' => e = .returned (.int .u32 (turnT x n : Nat)) ∧ w' = w := by
  have HX : Kept _ := ⟨hx⟩
  clear hx
  go_enter Try.func23, Try.ntmps23
  go_wp2_with fail
  go_loopg [5, 0] n (fun k s5 s0 wr => ∃ i y : Nat, i + k = n ∧ s5 = .int .i64 (i : Int) ∧ s0 = .int .u32 (y : Int) ∧ wr = w ∧ Kept (y = turnT x i))
  case atStart => exact ⟨0, x, by omega, rfl, rfl, rfl, ⟨rfl⟩⟩
  case round =>
    obtain ⟨i, y, hik, rfl, rfl, rfl, KX⟩ := hrel
    by_cases hi : i < n
    case pos =>
      have hi' : (i : Int) < (n : Int) := by omega
      obtain ⟨d, hd⟩ : ∃ d, d = y * 2 % 4294967296 := ⟨_, rfl⟩
      obtain ⟨q, hq⟩ : ∃ q, q = y / 2147483648 := ⟨_, rfl⟩
      obtain ⟨z, hz⟩ : ∃ z, z = (d + q) % 4294967296 := ⟨_, rfl⟩
      have Ly : y < 4294967296 := by rw [KX.out]; exact turnT_lt x i HX.out
      have EZ : Kept (z = turnT x (i + 1)) := ⟨by rw [hz, hd, hq, KX.out]; rfl⟩
      have Ed : Kept _ := ⟨hd⟩
      have Eq : Kept _ := ⟨hq⟩
      have Ez : Kept _ := ⟨hz⟩
      clear hd hq hz KX
      go_wp2_with (first | ((with_reducible refine wv_val (d := 12) ?hd ?hw (.int .u32 (d : Int)) ?hr ?_); (case hd => rfl); (case hw => kernel_rfl); (case hr => intro w; exact run_mul32c rfl (by kernel_rfl) Ed.out w); simp only [Act.put, List.setIfInBounds_toArray, List.set_cons_succ, List.set_cons_zero]) | ((with_reducible refine wv_val (d := 14) ?hd ?hw (.int .u32 (q : Int)) ?hr ?_); (case hd => rfl); (case hw => kernel_rfl); (case hr => intro w; exact run_quo32c 2147483648 rfl (by kernel_rfl) (by decide) Ly Eq.out w); simp only [Act.put, List.setIfInBounds_toArray, List.set_cons_succ, List.set_cons_zero]) | ((with_reducible refine wv_val (d := 15) ?hd ?hw (.int .u32 (z : Int)) ?hr ?_); (case hd => rfl); (case hw => kernel_rfl); (case hr => intro w; exact run_add32 rfl (by kernel_rfl) (by kernel_rfl) Ez.out w); simp only [Act.put, List.setIfInBounds_toArray, List.set_cons_succ, List.set_cons_zero]))
      go_roundg (gk - 1)
      case measure => omega
      case rel => exact ⟨i + 1, z, by omega, by simp, rfl, rfl, EZ⟩
    case neg =>
      have hi' : ¬ (i : Int) < (n : Int) := by omega
      obtain rfl : n = i := by omega
      have e : y = turnT x n := KX.out
      clear KX
      go_wp2_with fail
      go_ret
      exact ⟨rfl, rfl⟩
theorem rturn_at (x n z : Nat) (w : World) (hx : x < 4294967296) (hn : n ≤ 16) (hz : z = rotl x n) :
    Calls Try.prog 23 #[.int .u32 (x : Int), .int .i64 (n : Int)] w fun e w' => e = .returned (.int .u32 (z : Int)) ∧ w' = w := by
  rw [hz, ← turnT_rotl x n hx hn]
  exact rturn_any x n w hx hn
theorem cell_at {k : IntKind} {A : Addr} {n c : Nat} {w : World} {l : List Nat} (h : IntsV k (.slice (some A) n c) w l) {i x : Nat} (hx : l[i]? = some x) : w.cell? (A.add i) = some (.int k (x : Int)) := by
  obtain ⟨p', c', e1, _, e3⟩ := h
  cases e1
  obtain ⟨A', e4, _, e5⟩ := e3 (by intro e; rw [e] at hx; cases hx)
  cases e4
  exact e5 i x hx
theorem IntsV.under' {k : IntKind} {A : Addr} {n c : Nat} {w w' : World} {l : List Nat} (h : IntsV k (.slice (some A) n c) w l) (hl : l ≠ []) (hb : Below w.heap.size w w') : IntsV k (.slice (some A) n c) w' l := by
  refine h.below (fun b hb' => ?_) hb
  obtain ⟨p', c', e1, _, e3⟩ := h
  cases e1
  obtain ⟨A', e4, e5, _⟩ := e3 hl
  cases e4
  cases hb'
  exact e5
set_option maxRecDepth 100000 in
set_option maxHeartbeats 1000000 in
theorem rword_any (b : List Nat) (v : Value) (w : World) (hv : BytesV v w b) (hy : Bytes b) (hl : b.length = 4) :
    Calls Try.prog 19 #[v] w fun e w' => e = .returned (.int .u32 (part b 0 4 : Nat)) ∧ Below w.heap.size w w' := by
  match b, hl with
  | [x0, x1, x2, x3], _ =>
    obtain ⟨p, c, rfl, _, hp⟩ := hv
    obtain ⟨A, rfl, hA, hc⟩ := hp (by simp)
    have hcell : ∀ w', Below w.heap.size w w' → ∀ j, w'.cell? (A.add j) = w.cell? (A.add j) := fun w' hb j => hb.cell (by rw [add_block]; exact hA)
    have h0 : x0 < 256 := hy 0 x0 rfl
    have h1 : x1 < 256 := hy 1 x1 rfl
    have h2 : x2 < 256 := hy 2 x2 rfl
    have h3 : x3 < 256 := hy 3 x3 rfl
    have C0 : Kept (∀ w', Below w.heap.size w w' → w'.cell? (A.add 0) = some (.int .u8 (x0 : Int))) := ⟨fun w' hb => (hcell w' hb 0).trans (hc 0 x0 rfl)⟩
    have C1 : Kept (∀ w', Below w.heap.size w w' → w'.cell? (A.add 1) = some (.int .u8 (x1 : Int))) := ⟨fun w' hb => (hcell w' hb 1).trans (hc 1 x1 rfl)⟩
    have C2 : Kept (∀ w', Below w.heap.size w w' → w'.cell? (A.add 2) = some (.int .u8 (x2 : Int))) := ⟨fun w' hb => (hcell w' hb 2).trans (hc 2 x2 rfl)⟩
    have C3 : Kept (∀ w', Below w.heap.size w w' → w'.cell? (A.add 3) = some (.int .u8 (x3 : Int))) := ⟨fun w' hb => (hcell w' hb 3).trans (hc 3 x3 rfl)⟩
    obtain ⟨y1, e1⟩ : ∃ y, y = 256 * x1 % 4294967296 := ⟨_, rfl⟩
    obtain ⟨y2, e2⟩ : ∃ y, y = 65536 * x2 % 4294967296 := ⟨_, rfl⟩
    obtain ⟨y3, e3⟩ : ∃ y, y = 16777216 * x3 % 4294967296 := ⟨_, rfl⟩
    obtain ⟨s1, t1⟩ : ∃ y, y = (x0 + y1) % 4294967296 := ⟨_, rfl⟩
    obtain ⟨s2, t2⟩ : ∃ y, y = (s1 + y2) % 4294967296 := ⟨_, rfl⟩
    obtain ⟨s3, t3⟩ : ∃ y, y = (s2 + y3) % 4294967296 := ⟨_, rfl⟩
    have E1 : Kept _ := ⟨e1⟩
    have E2 : Kept _ := ⟨e2⟩
    have E3 : Kept _ := ⟨e3⟩
    have T1 : Kept _ := ⟨t1⟩
    have T2 : Kept _ := ⟨t2⟩
    have T3 : Kept _ := ⟨t3⟩
    have ER : Kept (s3 = part [x0, x1, x2, x3] 0 4) := ⟨by
      show s3 = 0 + x0 * 256 ^ 0 + x1 * 256 ^ 1 + x2 * 256 ^ 2 + x3 * 256 ^ 3
      simp only [Nat.reducePow]
      omega⟩
    rw [← ER.out]
    clear e1 e2 e3 t1 t2 t3 hc hcell hp hy ER
    go_enter Try.func19, Try.ntmps19
    go_wp2_with fail
    refine region_ownL w 22 [(3, .slice (some A) 4 c), (4, .pointer (some (A.add 0))), (5, .int .u8 (x0 : Int)), (6, .int .u32 (x0 : Int)), (7, .slice (some A) 4 c), (8, .pointer (some (A.add 1))), (9, .int .u8 (x1 : Int)), (10, .int .u32 (x1 : Int)), (11, .int .u32 (y1 : Int)), (12, .int .u32 (s1 : Int)), (13, .slice (some A) 4 c), (14, .pointer (some (A.add 2))), (15, .int .u8 (x2 : Int)), (16, .int .u32 (x2 : Int)), (17, .int .u32 (y2 : Int)), (18, .int .u32 (s2 : Int)), (19, .slice (some A) 4 c), (20, .pointer (some (A.add 3))), (21, .int .u8 (x3 : Int)), (22, .int .u32 (x3 : Int)), (23, .int .u32 (y3 : Int)), (24, .int .u32 (s3 : Int))] [] [] [] rfl (by kernel_rfl) (by kernel_rfl) (by kernel_rfl) (by kernel_rfl) (by kernel_rfl) (by kernel_rfl) (by kernel_rfl) (by kernel_rfl) (by kernel_rfl) (by kernel_rfl) (by kernel_rfl) ?hst1 ?hst2 (Below.refl _ _) (fun hA => ⟨ow_val hA (wants_none rfl) 3 (.slice (some A) 4 c) (by kernel_rfl) rfl rfl rfl rfl (by kernel_rfl) (fun w => by kernel_rfl), ow_val hA (wants_none rfl) 4 (.pointer (some (A.add 0))) (by kernel_rfl) rfl rfl rfl rfl (by kernel_rfl) (fun w => run_idxS (A := A) (i := 0) (l := 4) (c := c) rfl (by kernel_rfl) (by kernel_rfl) Try.underlying27 (by decide) sz_u8 w), ow_elem hA (wants_none rfl) 5 (.int .u8 (x0 : Int)) (by kernel_rfl) rfl rfl rfl rfl (by kernel_rfl) 5 ag_u8 (.tmp 4) rfl (A.add 0) (by kernel_rfl) (fun w1 hb => C0.out w1 hb), ow_val hA (wants_none rfl) 6 (.int .u32 (x0 : Int)) (by kernel_rfl) rfl rfl rfl rfl (by kernel_rfl) (fun w => run_c832 rfl (by kernel_rfl) h0 w), ow_val hA (wants_none rfl) 7 (.slice (some A) 4 c) (by kernel_rfl) rfl rfl rfl rfl (by kernel_rfl) (fun w => by kernel_rfl), ow_val hA (wants_none rfl) 8 (.pointer (some (A.add 1))) (by kernel_rfl) rfl rfl rfl rfl (by kernel_rfl) (fun w => run_idxS (A := A) (i := 1) (l := 4) (c := c) rfl (by kernel_rfl) (by kernel_rfl) Try.underlying27 (by decide) sz_u8 w), ow_elem hA (wants_none rfl) 9 (.int .u8 (x1 : Int)) (by kernel_rfl) rfl rfl rfl rfl (by kernel_rfl) 5 ag_u8 (.tmp 8) rfl (A.add 1) (by kernel_rfl) (fun w1 hb => C1.out w1 hb), ow_val hA (wants_none rfl) 10 (.int .u32 (x1 : Int)) (by kernel_rfl) rfl rfl rfl rfl (by kernel_rfl) (fun w => run_c832 rfl (by kernel_rfl) h1 w), ow_val hA (wants_none rfl) 11 (.int .u32 (y1 : Int)) (by kernel_rfl) rfl rfl rfl rfl (by kernel_rfl) (fun w => run_mulc32 256 rfl (by kernel_rfl) E1.out w), ow_val hA (wants_none rfl) 12 (.int .u32 (s1 : Int)) (by kernel_rfl) rfl rfl rfl rfl (by kernel_rfl) (fun w => run_add32 rfl (by kernel_rfl) (by kernel_rfl) T1.out w), ow_val hA (wants_none rfl) 13 (.slice (some A) 4 c) (by kernel_rfl) rfl rfl rfl rfl (by kernel_rfl) (fun w => by kernel_rfl), ow_val hA (wants_none rfl) 14 (.pointer (some (A.add 2))) (by kernel_rfl) rfl rfl rfl rfl (by kernel_rfl) (fun w => run_idxS (A := A) (i := 2) (l := 4) (c := c) rfl (by kernel_rfl) (by kernel_rfl) Try.underlying27 (by decide) sz_u8 w), ow_elem hA (wants_none rfl) 15 (.int .u8 (x2 : Int)) (by kernel_rfl) rfl rfl rfl rfl (by kernel_rfl) 5 ag_u8 (.tmp 14) rfl (A.add 2) (by kernel_rfl) (fun w1 hb => C2.out w1 hb), ow_val hA (wants_none rfl) 16 (.int .u32 (x2 : Int)) (by kernel_rfl) rfl rfl rfl rfl (by kernel_rfl) (fun w => run_c832 rfl (by kernel_rfl) h2 w), ow_val hA (wants_none rfl) 17 (.int .u32 (y2 : Int)) (by kernel_rfl) rfl rfl rfl rfl (by kernel_rfl) (fun w => run_mulc32 65536 rfl (by kernel_rfl) E2.out w), ow_val hA (wants_none rfl) 18 (.int .u32 (s2 : Int)) (by kernel_rfl) rfl rfl rfl rfl (by kernel_rfl) (fun w => run_add32 rfl (by kernel_rfl) (by kernel_rfl) T2.out w), ow_val hA (wants_none rfl) 19 (.slice (some A) 4 c) (by kernel_rfl) rfl rfl rfl rfl (by kernel_rfl) (fun w => by kernel_rfl), ow_val hA (wants_none rfl) 20 (.pointer (some (A.add 3))) (by kernel_rfl) rfl rfl rfl rfl (by kernel_rfl) (fun w => run_idxS (A := A) (i := 3) (l := 4) (c := c) rfl (by kernel_rfl) (by kernel_rfl) Try.underlying27 (by decide) sz_u8 w), ow_elem hA (wants_none rfl) 21 (.int .u8 (x3 : Int)) (by kernel_rfl) rfl rfl rfl rfl (by kernel_rfl) 5 ag_u8 (.tmp 20) rfl (A.add 3) (by kernel_rfl) (fun w1 hb => C3.out w1 hb), ow_val hA (wants_none rfl) 22 (.int .u32 (x3 : Int)) (by kernel_rfl) rfl rfl rfl rfl (by kernel_rfl) (fun w => run_c832 rfl (by kernel_rfl) h3 w), ow_val hA (wants_none rfl) 23 (.int .u32 (y3 : Int)) (by kernel_rfl) rfl rfl rfl rfl (by kernel_rfl) (fun w => run_mulc32 16777216 rfl (by kernel_rfl) E3.out w), ow_val hA (wants_none rfl) 24 (.int .u32 (s3 : Int)) (by kernel_rfl) rfl rfl rfl rfl (by kernel_rfl) (fun w => run_add32 rfl (by kernel_rfl) (by kernel_rfl) T3.out w), trivial⟩) ?_
    case hst1 => intro q hq; cases hq
    case hst2 => intro q hq; cases hq
    intro fv w7 hf hD hb7
    simp only [putR, List.foldl_cons, List.foldl_nil, List.map_cons, List.map_nil, Act.put, List.setIfInBounds_toArray, List.set_cons_succ, List.set_cons_zero]
    clear hf hD C0 C1 C2 C3
    go_wp2_with fail
    go_ret
    exact ⟨rfl, hb7⟩
theorem row_emp32 {base : Nat} (w : World) (hb : base ≤ w.heap.size) : Row base 24 .u32 [] (.slice (some ⟨w.heap.size, 0, none⟩) 0 0) (w.alloc (.cells #[] 24)) := World.ownsRow_lit w #[] 0 hb (by unfold maxLen; omega) rfl
theorem run_idx0 {o : Oper} {a : Act} {x y : Operand} {i l c g : Nat} {t e : TypeId} (ho : o.op = .indexAddr t x y) (hx : a.eval x = .slice (some ⟨g, 0, none⟩) l c) (hy : a.eval y = .int .i64 (i : Int)) (ht : Try.prog.underlying t = some (.slice e)) (hi : i < l) (sz : ∀ w, (sizeOf e).run Try.prog w = .ok 1 w) (w : World) : (execOp a.eval o).run Try.prog w = .ok (.value (.pointer (some ⟨g, i, none⟩))) w := by
  have h := run_idxS ho hx hy ht hi sz w
  rw [addr_add, Nat.zero_add] at h
  exact h
set_option maxRecDepth 100000 in
set_option maxHeartbeats 2000000 in
theorem rquarter_any (W : List Nat) (v : Value) (i0 i1 i2 i3 : Nat) (w : World) (hv : IntsV .u32 v w W) (hW : Ws W) (l0 : i0 < 16) (l1 : i1 < 16) (l2 : i2 < 16) (l3 : i3 < 16) :
    Calls Try.prog 20 #[v, .int .i64 (i0 : Int), .int .i64 (i1 : Int), .int .i64 (i2 : Int), .int .i64 (i3 : Int)] w fun e w' => ∃ v, e = .returned v ∧ Row w.heap.size 24 .u32 (qL W i0 i1 i2 i3) v w' ∧ Below w.heap.size w w' := by
  have KV : Kept _ := ⟨hv⟩
  have LW : Kept (W.length = 16) := ⟨hW.len⟩
  have NW : Kept (W ≠ []) := ⟨fun e => by have := hW.len; rw [e] at this; cases this⟩
  obtain ⟨p, cp, rfl, _, hp⟩ := hv
  obtain ⟨A, rfl, hA, _⟩ := hp NW.out
  rw [hW.len] at KV ⊢
  obtain ⟨a, ha⟩ : ∃ x, x = W.getD i0 0 := ⟨_, rfl⟩
  obtain ⟨b, hb⟩ : ∃ x, x = W.getD i1 0 := ⟨_, rfl⟩
  obtain ⟨c, hc⟩ : ∃ x, x = W.getD i2 0 := ⟨_, rfl⟩
  obtain ⟨d, hd⟩ : ∃ x, x = W.getD i3 0 := ⟨_, rfl⟩
  have h : Four a b c d := by rw [ha, hb, hc, hd]; exact hW.four i0 i1 i2 i3
  have C0 : Kept (∀ w', Below w.heap.size w w' → w'.cell? (A.add i0) = some (.int .u32 (a : Int))) := ⟨fun w' hb => cell_at (KV.out.under' NW.out hb) (by rw [ha]; exact hW.get i0 l0)⟩
  have C1 : Kept (∀ w', Below w.heap.size w w' → w'.cell? (A.add i1) = some (.int .u32 (b : Int))) := ⟨fun w' hb' => cell_at (KV.out.under' NW.out hb') (by rw [hb]; exact hW.get i1 l1)⟩
  have C2 : Kept (∀ w', Below w.heap.size w w' → w'.cell? (A.add i2) = some (.int .u32 (c : Int))) := ⟨fun w' hb => cell_at (KV.out.under' NW.out hb) (by rw [hc]; exact hW.get i2 l2)⟩
  have C3 : Kept (∀ w', Below w.heap.size w w' → w'.cell? (A.add i3) = some (.int .u32 (d : Int))) := ⟨fun w' hb => cell_at (KV.out.under' NW.out hb) (by rw [hd]; exact hW.get i3 l3)⟩
  have F0 : Kept _ := ⟨h⟩
  have F1 : Kept _ := ⟨four_q h⟩
  have F2 : Kept _ := ⟨four_q2 h⟩
  obtain ⟨a1, ha1⟩ : ∃ z, z = qa a b c d := ⟨_, rfl⟩
  obtain ⟨b1, hb1⟩ : ∃ z, z = qb a b c d := ⟨_, rfl⟩
  obtain ⟨c1, hc1⟩ : ∃ z, z = qc a b c d := ⟨_, rfl⟩
  obtain ⟨d1, hd1⟩ : ∃ z, z = qd a b c d := ⟨_, rfl⟩
  obtain ⟨a2, ha2⟩ : ∃ z, z = qa2 a b c d := ⟨_, rfl⟩
  obtain ⟨b2, hb2⟩ : ∃ z, z = qb2 a b c d := ⟨_, rfl⟩
  obtain ⟨c2, hc2⟩ : ∃ z, z = qc2 a b c d := ⟨_, rfl⟩
  obtain ⟨d2, hd2⟩ : ∃ z, z = qd2 a b c d := ⟨_, rfl⟩
  have EQ : Kept ((((W.set i0 a2).set i1 b2).set i2 c2).set i3 d2 = qL W i0 i1 i2 i3) := ⟨by rw [ha2, hb2, hc2, hd2, ha, hb, hc, hd]; rfl⟩
  have Ea : Kept (a1 = (a + b) % 4294967296) := ⟨ha1⟩
  have Ed : Kept (d1 = rotl (d ^^^ a1) 16) := ⟨by rw [hd1, ha1]; rfl⟩
  have Ec : Kept (c1 = (c + d1) % 4294967296) := ⟨by rw [hc1, hd1]; rfl⟩
  have Eb : Kept (b1 = rotl (b ^^^ c1) 12) := ⟨by rw [hb1, hc1]; rfl⟩
  have Ea2 : Kept (a2 = (a1 + b1) % 4294967296) := ⟨by rw [ha2, ha1, hb1]; rfl⟩
  have Ed2 : Kept (d2 = rotl (d1 ^^^ a2) 8) := ⟨by rw [hd2, hd1, ha2]; rfl⟩
  have Ec2 : Kept (c2 = (c1 + d2) % 4294967296) := ⟨by rw [hc2, hc1, hd2]; rfl⟩
  have Eb2 : Kept (b2 = rotl (b1 ^^^ c2) 7) := ⟨by rw [hb2, hb1, hc2]; rfl⟩
  rw [← ha1, ← hb1, ← hc1, ← hd1] at F1
  rw [← ha2, ← hb2, ← hc2, ← hd2] at F2
  rw [← EQ.out]
  obtain ⟨x1, hx1⟩ : ∃ z, z = d ^^^ a1 := ⟨_, rfl⟩
  obtain ⟨x2, hx2⟩ : ∃ z, z = b ^^^ c1 := ⟨_, rfl⟩
  obtain ⟨x3, hx3⟩ : ∃ z, z = d1 ^^^ a2 := ⟨_, rfl⟩
  obtain ⟨x4, hx4⟩ : ∃ z, z = b1 ^^^ c2 := ⟨_, rfl⟩
  have X1 : Kept _ := ⟨hx1⟩
  have X2 : Kept _ := ⟨hx2⟩
  have X3 : Kept _ := ⟨hx3⟩
  have X4 : Kept _ := ⟨hx4⟩
  rw [← hx1] at Ed
  rw [← hx2] at Eb
  rw [← hx3] at Ed2
  rw [← hx4] at Eb2
  have L1 : Kept (x1 < 4294967296) := ⟨by rw [hx1]; exact xor_lt32 F0.out.d F1.out.a⟩
  have L2 : Kept (x2 < 4294967296) := ⟨by rw [hx2]; exact xor_lt32 F0.out.b F1.out.c⟩
  have L3 : Kept (x3 < 4294967296) := ⟨by rw [hx3]; exact xor_lt32 F1.out.d F2.out.a⟩
  have L4 : Kept (x4 < 4294967296) := ⟨by rw [hx4]; exact xor_lt32 F1.out.b F2.out.c⟩
  clear h ha hb hc hd ha1 hb1 hc1 hd1 ha2 hb2 hc2 hd2 hx1 hx2 hx3 hx4 hW hp EQ
  go_enter Try.func20, Try.ntmps20
  go_wp2_with fail
  refine region_ownL w 20 [(16, .slice (some A) 16 cp), (17, .int .i64 (i0 : Int)), (18, .pointer (some (A.add i0))), (19, .int .u32 (a : Int)), (20, .slice (some A) 16 cp), (21, .int .i64 (i1 : Int)), (22, .pointer (some (A.add i1))), (23, .int .u32 (b : Int)), (24, .slice (some A) 16 cp), (25, .int .i64 (i2 : Int)), (26, .pointer (some (A.add i2))), (27, .int .u32 (c : Int)), (28, .slice (some A) 16 cp), (29, .int .i64 (i3 : Int)), (30, .pointer (some (A.add i3))), (31, .int .u32 (d : Int)), (11, .int .u32 (a : Int)), (12, .int .u32 (b : Int)), (13, .int .u32 (c : Int)), (14, .int .u32 (d : Int))] [] [] [] rfl (by kernel_rfl) (by kernel_rfl) (by kernel_rfl) (by kernel_rfl) (by kernel_rfl) (by kernel_rfl) (by kernel_rfl) (by kernel_rfl) (by kernel_rfl) (by kernel_rfl) (by kernel_rfl) ?hst1 ?hst2 (Below.refl _ _) (fun hA => ⟨ow_val hA (wants_none rfl) 16 (.slice (some A) 16 cp) (by kernel_rfl) rfl rfl rfl rfl (by kernel_rfl) (fun w => by kernel_rfl), ow_val hA (wants_none rfl) 17 (.int .i64 (i0 : Int)) (by kernel_rfl) rfl rfl rfl rfl (by kernel_rfl) (fun w => by kernel_rfl), ow_val hA (wants_none rfl) 18 (.pointer (some (A.add i0))) (by kernel_rfl) rfl rfl rfl rfl (by kernel_rfl) (fun w => run_idxS (A := A) (i := i0) (l := 16) (c := cp) rfl (by kernel_rfl) (by kernel_rfl) Try.underlying50 l0 sz_u32 w), ow_elem hA (wants_none rfl) 19 (.int .u32 (a : Int)) (by kernel_rfl) rfl rfl rfl rfl (by kernel_rfl) 24 ag_u32 (.tmp 18) rfl (A.add i0) (by kernel_rfl) (fun w1 hb => C0.out w1 hb), ow_val hA (wants_none rfl) 20 (.slice (some A) 16 cp) (by kernel_rfl) rfl rfl rfl rfl (by kernel_rfl) (fun w => by kernel_rfl), ow_val hA (wants_none rfl) 21 (.int .i64 (i1 : Int)) (by kernel_rfl) rfl rfl rfl rfl (by kernel_rfl) (fun w => by kernel_rfl), ow_val hA (wants_none rfl) 22 (.pointer (some (A.add i1))) (by kernel_rfl) rfl rfl rfl rfl (by kernel_rfl) (fun w => run_idxS (A := A) (i := i1) (l := 16) (c := cp) rfl (by kernel_rfl) (by kernel_rfl) Try.underlying50 l1 sz_u32 w), ow_elem hA (wants_none rfl) 23 (.int .u32 (b : Int)) (by kernel_rfl) rfl rfl rfl rfl (by kernel_rfl) 24 ag_u32 (.tmp 22) rfl (A.add i1) (by kernel_rfl) (fun w1 hb => C1.out w1 hb), ow_val hA (wants_none rfl) 24 (.slice (some A) 16 cp) (by kernel_rfl) rfl rfl rfl rfl (by kernel_rfl) (fun w => by kernel_rfl), ow_val hA (wants_none rfl) 25 (.int .i64 (i2 : Int)) (by kernel_rfl) rfl rfl rfl rfl (by kernel_rfl) (fun w => by kernel_rfl), ow_val hA (wants_none rfl) 26 (.pointer (some (A.add i2))) (by kernel_rfl) rfl rfl rfl rfl (by kernel_rfl) (fun w => run_idxS (A := A) (i := i2) (l := 16) (c := cp) rfl (by kernel_rfl) (by kernel_rfl) Try.underlying50 l2 sz_u32 w), ow_elem hA (wants_none rfl) 27 (.int .u32 (c : Int)) (by kernel_rfl) rfl rfl rfl rfl (by kernel_rfl) 24 ag_u32 (.tmp 26) rfl (A.add i2) (by kernel_rfl) (fun w1 hb => C2.out w1 hb), ow_val hA (wants_none rfl) 28 (.slice (some A) 16 cp) (by kernel_rfl) rfl rfl rfl rfl (by kernel_rfl) (fun w => by kernel_rfl), ow_val hA (wants_none rfl) 29 (.int .i64 (i3 : Int)) (by kernel_rfl) rfl rfl rfl rfl (by kernel_rfl) (fun w => by kernel_rfl), ow_val hA (wants_none rfl) 30 (.pointer (some (A.add i3))) (by kernel_rfl) rfl rfl rfl rfl (by kernel_rfl) (fun w => run_idxS (A := A) (i := i3) (l := 16) (c := cp) rfl (by kernel_rfl) (by kernel_rfl) Try.underlying50 l3 sz_u32 w), ow_elem hA (wants_none rfl) 31 (.int .u32 (d : Int)) (by kernel_rfl) rfl rfl rfl rfl (by kernel_rfl) 24 ag_u32 (.tmp 30) rfl (A.add i3) (by kernel_rfl) (fun w1 hb => C3.out w1 hb), ow_val hA (wants_none rfl) 11 (.int .u32 (a : Int)) (by kernel_rfl) rfl rfl rfl rfl (by kernel_rfl) (fun w => by kernel_rfl), ow_val hA (wants_none rfl) 12 (.int .u32 (b : Int)) (by kernel_rfl) rfl rfl rfl rfl (by kernel_rfl) (fun w => by kernel_rfl), ow_val hA (wants_none rfl) 13 (.int .u32 (c : Int)) (by kernel_rfl) rfl rfl rfl rfl (by kernel_rfl) (fun w => by kernel_rfl), ow_val hA (wants_none rfl) 14 (.int .u32 (d : Int)) (by kernel_rfl) rfl rfl rfl rfl (by kernel_rfl) (fun w => by kernel_rfl), trivial⟩) ?_
  case hst1 => intro q hq; cases hq
  case hst2 => intro q hq; cases hq
  intro fv w1 hf hD hb1
  simp only [putR, List.foldl_cons, List.foldl_nil, List.map_cons, List.map_nil, Act.put, List.setIfInBounds_toArray, List.set_cons_succ, List.set_cons_zero]
  clear hf hD C0 C1 C2 C3
  have KV1 : Kept _ := ⟨KV.out.under' NW.out hb1⟩
  clear KV
  refine (show wpList _ _ _ [] _ _ from ?_)
  refine wpList_nil ?_
  go_wp2_with (first | ((with_reducible refine wv_val (d := 34) ?hd ?hw (.int .u32 (a1 : Int)) ?hr ?_); (case hd => rfl); (case hw => kernel_rfl); (case hr => intro w; exact run_add32 rfl (by kernel_rfl) (by kernel_rfl) Ea.out w); simp only [Act.put, List.setIfInBounds_toArray, List.set_cons_succ, List.set_cons_zero]) | ((with_reducible refine wv_val (d := 37) ?hd ?hw (.int .u32 (x1 : Int)) ?hr ?_); (case hd => rfl); (case hw => kernel_rfl); (case hr => intro w; exact run_xor32 rfl (by kernel_rfl) (by kernel_rfl) F0.out.d F1.out.a X1.out w); simp only [Act.put, List.setIfInBounds_toArray, List.set_cons_succ, List.set_cons_zero]))
  refine (rturn_at x1 16 d1 w1 L1.out (by decide) Ed.out).mono ?_
  rintro e w' ⟨rfl, hw'⟩
  obtain rfl := hw'.symm
  clear hw'
  go_wp2_with (first | ((with_reducible refine wv_val (d := 41) ?hd ?hw (.int .u32 (c1 : Int)) ?hr ?_); (case hd => rfl); (case hw => kernel_rfl); (case hr => intro w; exact run_add32 rfl (by kernel_rfl) (by kernel_rfl) Ec.out w); simp only [Act.put, List.setIfInBounds_toArray, List.set_cons_succ, List.set_cons_zero]) | ((with_reducible refine wv_val (d := 44) ?hd ?hw (.int .u32 (x2 : Int)) ?hr ?_); (case hd => rfl); (case hw => kernel_rfl); (case hr => intro w; exact run_xor32 rfl (by kernel_rfl) (by kernel_rfl) F0.out.b F1.out.c X2.out w); simp only [Act.put, List.setIfInBounds_toArray, List.set_cons_succ, List.set_cons_zero]))
  refine (rturn_at x2 12 b1 w1 L2.out (by decide) Eb.out).mono ?_
  rintro e w' ⟨rfl, hw'⟩
  obtain rfl := hw'.symm
  clear hw'
  go_wp2_with (first | ((with_reducible refine wv_val (d := 48) ?hd ?hw (.int .u32 (a2 : Int)) ?hr ?_); (case hd => rfl); (case hw => kernel_rfl); (case hr => intro w; exact run_add32 rfl (by kernel_rfl) (by kernel_rfl) Ea2.out w); simp only [Act.put, List.setIfInBounds_toArray, List.set_cons_succ, List.set_cons_zero]) | ((with_reducible refine wv_val (d := 51) ?hd ?hw (.int .u32 (x3 : Int)) ?hr ?_); (case hd => rfl); (case hw => kernel_rfl); (case hr => intro w; exact run_xor32 rfl (by kernel_rfl) (by kernel_rfl) F1.out.d F2.out.a X3.out w); simp only [Act.put, List.setIfInBounds_toArray, List.set_cons_succ, List.set_cons_zero]))
  refine (rturn_at x3 8 d2 w1 L3.out (by decide) Ed2.out).mono ?_
  rintro e w' ⟨rfl, hw'⟩
  obtain rfl := hw'.symm
  clear hw'
  go_wp2_with (first | ((with_reducible refine wv_val (d := 55) ?hd ?hw (.int .u32 (c2 : Int)) ?hr ?_); (case hd => rfl); (case hw => kernel_rfl); (case hr => intro w; exact run_add32 rfl (by kernel_rfl) (by kernel_rfl) Ec2.out w); simp only [Act.put, List.setIfInBounds_toArray, List.set_cons_succ, List.set_cons_zero]) | ((with_reducible refine wv_val (d := 58) ?hd ?hw (.int .u32 (x4 : Int)) ?hr ?_); (case hd => rfl); (case hw => kernel_rfl); (case hr => intro w; exact run_xor32 rfl (by kernel_rfl) (by kernel_rfl) F1.out.b F2.out.c X4.out w); simp only [Act.put, List.setIfInBounds_toArray, List.set_cons_succ, List.set_cons_zero]))
  refine (rturn_at x4 7 b2 w1 L4.out (by decide) Eb2.out).mono ?_
  rintro e w' ⟨rfl, hw'⟩
  obtain rfl := hw'.symm
  clear hw'
  have RE : Kept (Row w.heap.size 24 .u32 [] (.slice (some ⟨w1.heap.size, 0, none⟩) 0 0) (w1.alloc (.cells #[] 24))) := ⟨row_emp32 w1 hb1.size⟩
  have QE := hb1.alloc hb1.size (.cells #[] 24)
  have KV2 : Kept (IntsV .u32 (.slice (some A) 16 cp) (w1.alloc (.cells #[] 24)) W) := ⟨KV1.out.under' NW.out ((Below.refl _ _).alloc (Nat.le_refl _) _)⟩
  clear KV1 Ea Eb Ec Ed Ea2 Eb2 Ec2 Ed2 X1 X2 X3 X4 L1 L2 L3 L4 F0 F1 F2
  go_wp2_with (first | (refine wl_app (by kernel_rfl) (.tmp 60) (.tmp 61) 50 24 .u32 4 rfl Try.underlying50 inf_u32 (by decide) w.heap.size [] W _ _ rfl rfl RE.out KV2.out (by rw [LW.out]; decide) QE.size ?_))
  intro v' w2 hrow hgr hblk
  have H0 := QE.trans (grown_mono hgr QE.size (fun b hb => by cases hb; exact hb1.size))
  obtain ⟨g, cap, cur, rfl, hbg, hcur, hsz, _⟩ := hrow.form (by rw [LW.out]; decide)
  rw [LW.out] at hsz
  have SC : Kept (16 ≤ cur.size) := ⟨hsz⟩
  have hl4 : Kept ((((W.set i0 a2).set i1 b2).set i2 c2).set i3 d2 = (((W.set i0 a2).set i1 b2).set i2 c2).set i3 d2) := ⟨rfl⟩
  have R' : w2.ownsRow w.heap.size 24 1 (.slice (some ⟨g, 0, none⟩) W.length cap) W.length (ints .u32 W).toList := hrow
  have B' := hcur
  rw [LW.out] at R' ⊢
  rw [← LW.out] at R'
  clear hrow hgr hblk hb1 QE KV2 RE hsz hcur
  have R'' : w2.ownsRow w.heap.size 24 1 (.slice (some ⟨g, 0, none⟩) 16 cap) W.length (ints .u32 W).toList := by rw [LW.out] at R' ⊢; exact R'
  clear R'
  have R' := R''
  clear R''
  go_wp2_with (first | ((with_reducible refine wv_val (d := 66) ?hd ?hw (.pointer (some ⟨g, i0, none⟩)) ?hr ?_); (case hd => rfl); (case hw => kernel_rfl); (case hr => intro w; exact run_idx0 rfl (by kernel_rfl) (by kernel_rfl) Try.underlying50 l0 sz_u32 w); simp only [Act.put, List.setIfInBounds_toArray, List.set_cons_succ, List.set_cons_zero]) | (refine wl_setElem rfl 24 sz_u32 (.tmp 66) (.tmp 65) rfl g i0 .u32 (a2 : Int) rfl rfl _ B' (by (try simp only [Array.size_setIfInBounds]); exact Nat.lt_of_lt_of_le l0 SC.out) ?_))
  intro w3 B0 P0
  have R0 := row_set R' B' i0 a2 B0
  have HH0 := H0.trans (P0.below hbg)
  clear R' B' P0 H0
  have R' := R0
  clear R0

  go_wp2_with (first | ((with_reducible refine wv_val (d := 70) ?hd ?hw (.pointer (some ⟨g, i1, none⟩)) ?hr ?_); (case hd => rfl); (case hw => kernel_rfl); (case hr => intro w; exact run_idx0 rfl (by kernel_rfl) (by kernel_rfl) Try.underlying50 l1 sz_u32 w); simp only [Act.put, List.setIfInBounds_toArray, List.set_cons_succ, List.set_cons_zero]) | (refine wl_setElem rfl 24 sz_u32 (.tmp 70) (.tmp 69) rfl g i1 .u32 (b2 : Int) rfl rfl _ B0 (by (try simp only [Array.size_setIfInBounds]); exact Nat.lt_of_lt_of_le l1 SC.out) ?_))
  intro w4 B1 P1
  have R1 := row_set R' B0 i1 b2 B1
  have H1 := HH0.trans (P1.below hbg)
  clear R' B0 P1 HH0
  have R' := R1
  clear R1

  go_wp2_with (first | ((with_reducible refine wv_val (d := 74) ?hd ?hw (.pointer (some ⟨g, i2, none⟩)) ?hr ?_); (case hd => rfl); (case hw => kernel_rfl); (case hr => intro w; exact run_idx0 rfl (by kernel_rfl) (by kernel_rfl) Try.underlying50 l2 sz_u32 w); simp only [Act.put, List.setIfInBounds_toArray, List.set_cons_succ, List.set_cons_zero]) | (refine wl_setElem rfl 24 sz_u32 (.tmp 74) (.tmp 73) rfl g i2 .u32 (c2 : Int) rfl rfl _ B1 (by (try simp only [Array.size_setIfInBounds]); exact Nat.lt_of_lt_of_le l2 SC.out) ?_))
  intro w5 B2 P2
  have R2 := row_set R' B1 i2 c2 B2
  have H2 := H1.trans (P2.below hbg)
  clear R' B1 P2 H1
  have R' := R2
  clear R2

  go_wp2_with (first | ((with_reducible refine wv_val (d := 78) ?hd ?hw (.pointer (some ⟨g, i3, none⟩)) ?hr ?_); (case hd => rfl); (case hw => kernel_rfl); (case hr => intro w; exact run_idx0 rfl (by kernel_rfl) (by kernel_rfl) Try.underlying50 l3 sz_u32 w); simp only [Act.put, List.setIfInBounds_toArray, List.set_cons_succ, List.set_cons_zero]) | (refine wl_setElem rfl 24 sz_u32 (.tmp 78) (.tmp 77) rfl g i3 .u32 (d2 : Int) rfl rfl _ B2 (by (try simp only [Array.size_setIfInBounds]); exact Nat.lt_of_lt_of_le l3 SC.out) ?_))
  intro w6 B3 P3
  have R3 := row_set R' B2 i3 d2 B3
  have H3 := H2.trans (P3.below hbg)
  clear R' B2 P3 H2
  have R' := R3
  clear R3

  go_wp2_with fail
  go_ret
  exact ⟨_, rfl, R', H3⟩
end Go.Proofs.Ythieljiplhhdeaa.sh
