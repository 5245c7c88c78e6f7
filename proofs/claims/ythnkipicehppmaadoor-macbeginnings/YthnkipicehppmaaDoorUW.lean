/-
  What MacBeginnings answers.
-/
import Derived.Test.YthnkipicehppmaaDoorUZ
namespace Go.Proofs.YthnkipicehppmaaDoor.sh
open Go Go.RowKit
set_option linter.unusedVariables false
set_option linter.unusedSimpArgs false

theorem ag_u16 (w : World) : (isAgg 39).run Tryd.prog w = .ok false w := by kernel_rfl
theorem run_rem16 {o : Oper} {a : Act} {x : Operand} {m z : Nat} (c : Nat) (ho : o.op = .binOp .rem 39 x (.const (.int .u16 (c : Int))) 39) (hx : a.eval x = .int .u16 (m : Int)) (hc : 0 < c) (hm : m < 65536) (hz : z = m % c) (w : World) : (execOp a.eval o).run Tryd.prog w = .ok (.value (.int .u16 (z : Int))) w := by
  have e3 : a.eval (.const (.int .u16 (c : Int))) = .int .u16 (c : Int) := rfl
  have h1 : ((c : Int) = 0) = False := by simp; omega
  have h2 : Int.tmod (m : Int) (c : Int) = (z : Int) := by rw [hz]; rfl
  have h3 : m % c ≤ m := Nat.mod_le _ _
  unfold execOp
  simp only [ho, hx, e3]
  simp [go_sem, h1, h2, IntKind.wrap_u16]
  omega
theorem run_conv163 {o : Oper} {a : Act} {x : Operand} {z : Nat} (ho : o.op = .convert 39 3 x) (hx : a.eval x = .int .u16 (z : Int)) (hz : z < 65536) (w : World) : (execOp a.eval o).run Tryd.prog w = .ok (.value (.int .i64 (z : Int))) w := by
  unfold execOp
  simp only [ho, hx]
  simp [go_sem, IntKind.wrap_i64, wrap64]
  omega
theorem run_neqI {o : Oper} {a : Act} {x y : Operand} {m : Nat} (ho : o.op = .binOp .neq 3 x y 3) (hx : a.eval x = .int .i64 (m : Int)) (hy : a.eval y = .int .i64 (m : Int)) (w : World) : (execOp a.eval o).run Tryd.prog w = .ok (.value (.bool false)) w := by
  unfold execOp
  simp only [ho, hx, hy]
  simp [go_sem]
theorem keysL_take (key b : List Nat) (n m : Nat) (h : m ≤ n) : (keysL key b n).take m = keysL key b m := by
  unfold keysL
  rw [← List.map_take, List.take_range, Nat.min_eq_left h]

set_option maxRecDepth 100000 in
set_option maxHeartbeats 8000000 in
theorem begin4_any (key : List Nat) (vi : Value) (info : List Nat) (x y : Nat) (w : World) (hk : key.length = 32) (hy : Bytes key) (hvi : BytesV vi w info) (hi : Bytes info) (hil : info.length ≤ maxLen) (x16 : x < 65536) (y16 : y < 65536) (hr : RootsAt w) :
    Calls Tryd.prog 5 #[.agg (ints .u8 key), vi, .agg (ints .u16 [x, y])] w fun e w' => e = .returned (.bool true) ∧ Below w.heap.size w w' := by
  have KV : Kept _ := ⟨hvi⟩
  obtain ⟨pi, ci, ei, _, _⟩ := hvi
  obtain ⟨ni, hni⟩ : ∃ n, n = info.length := ⟨_, rfl⟩
  rw [← hni] at ei
  subst ei
  have ENI : Kept _ := ⟨hni⟩
  have KR : Kept _ := ⟨hr⟩
  have LK : Kept _ := ⟨hk⟩
  have YK : Kept _ := ⟨hy⟩
  have YI : Kept _ := ⟨hi⟩
  have h0 := hr.1
  have A0 : Blk ((w.alloc (.cells (ints .u8 key) 24)).alloc (.cells (ints .u16 [x, y]) 40)) w.heap.size 24 (ints .u8 key) := (blk_new w _ _).alloc _
  have A0b : Blk ((w.alloc (.cells (ints .u8 key) 24)).alloc (.cells (ints .u16 [x, y]) 40)) (w.heap.size + 1) 40 (ints .u16 [x, y]) := blk_top _ _ _ _ (by simp)
  have Q0 : Below w.heap.size w ((w.alloc (.cells (ints .u8 key) 24)).alloc (.cells (ints .u16 [x, y]) 40)) := ((Below.refl _ _).alloc (Nat.le_refl _) _).alloc (by simp) _
  clear hk hy hr hi hni hil
  go_enter Tryd.func5, Tryd.ntmps5
  go_wp2_with fail
  generalize hW : (w.alloc (.cells (ints .u8 key) 24)).alloc (.cells (ints .u16 [x, y]) 40) = wa at *
  clear hW
  refine (alive4_any wa (KR.out.below h0 Q0)).mono ?_
  rintro e w1 ⟨rfl, hb1⟩
  have A1 := A0.under hb1
  have A1b := A0b.under hb1
  have Q1 := Q0.trans (hb1.mono Q0.size)
  clear A0 A0b Q0 hb1
  by_cases hb0 : ni ≤ 300
  case neg =>
    have hb0' : (300 : Int) < (ni : Int) := by omega
    go_wp2_with fail
    go_ret
    exact ⟨rfl, Q1⟩
  have hb0' : ¬ (300 : Int) < (ni : Int) := by omega
  have NI : Kept (info.length ≤ 300) := ⟨by rw [← ENI.out]; exact hb0⟩
  obtain ⟨a, ha⟩ : ∃ a, a = x % 400 := ⟨_, rfl⟩
  obtain ⟨b, hb⟩ : ∃ b, b = y % 400 := ⟨_, rfl⟩
  have Ea : Kept _ := ⟨ha⟩
  have Eb : Kept _ := ⟨hb⟩
  have a400 : a < 400 := by omega
  have b400 : b < 400 := by omega
  clear ha hb
  go_wp2_with fail
  refine region_ownL w1 9 [(24, .pointer (some ⟨w.heap.size + 1, 0, none⟩)), (25, .int .u16 (x : Int)), (26, .int .u16 (a : Int)), (27, .int .i64 (a : Int)), (28, .pointer (some ⟨w.heap.size + 1, 1, none⟩)), (29, .int .u16 (y : Int)), (30, .int .u16 (b : Int)), (31, .int .i64 (b : Int)), (7, .int .i64 (a : Int))] [] [] [] rfl (by kernel_rfl) (by kernel_rfl) (by kernel_rfl) (by kernel_rfl) (by kernel_rfl) (by kernel_rfl) (by kernel_rfl) (by kernel_rfl) (by kernel_rfl) (by kernel_rfl) (by kernel_rfl) ?hst1 ?hst2 (Below.refl _ _) (fun hA => ⟨ow_val hA (wants_none rfl) 24 (.pointer (some ⟨w.heap.size + 1, 0, none⟩)) (by kernel_rfl) rfl rfl rfl rfl (by kernel_rfl) (fun w => by kernel_rfl), ow_elem hA (wants_none rfl) 25 (.int .u16 (x : Int)) (by kernel_rfl) rfl rfl rfl rfl (by kernel_rfl) 39 ag_u16 (.tmp 24) rfl (⟨w.heap.size + 1, 0, none⟩) (by kernel_rfl) (fun w1 hb => (A1b.under hb).cell rfl), ow_val hA (wants_none rfl) 26 (.int .u16 (a : Int)) (by kernel_rfl) rfl rfl rfl rfl (by kernel_rfl) (fun w => run_rem16 400 rfl (by kernel_rfl) (by decide) x16 Ea.out w), ow_val hA (wants_none rfl) 27 (.int .i64 (a : Int)) (by kernel_rfl) rfl rfl rfl rfl (by kernel_rfl) (fun w => run_conv163 rfl (by kernel_rfl) (by omega) w), ow_val hA (wants_none rfl) 28 (.pointer (some ⟨w.heap.size + 1, 1, none⟩)) (by kernel_rfl) rfl rfl rfl rfl (by kernel_rfl) (fun w => by kernel_rfl), ow_elem hA (wants_none rfl) 29 (.int .u16 (y : Int)) (by kernel_rfl) rfl rfl rfl rfl (by kernel_rfl) 39 ag_u16 (.tmp 28) rfl (⟨w.heap.size + 1, 1, none⟩) (by kernel_rfl) (fun w1 hb => (A1b.under hb).cell rfl), ow_val hA (wants_none rfl) 30 (.int .u16 (b : Int)) (by kernel_rfl) rfl rfl rfl rfl (by kernel_rfl) (fun w => run_rem16 400 rfl (by kernel_rfl) (by decide) y16 Eb.out w), ow_val hA (wants_none rfl) 31 (.int .i64 (b : Int)) (by kernel_rfl) rfl rfl rfl rfl (by kernel_rfl) (fun w => run_conv163 rfl (by kernel_rfl) (by omega) w), ow_val hA (wants_none rfl) 7 (.int .i64 (a : Int)) (by kernel_rfl) rfl rfl rfl rfl (by kernel_rfl) (fun w => by kernel_rfl), trivial⟩) ?_
  case hst1 => intro q hq; cases hq
  case hst2 => intro q hq; cases hq
  intro fv2 w2 hf hD hb2
  simp only [putR, List.foldl_cons, List.foldl_nil, List.map_cons, List.map_nil, Act.put, List.setIfInBounds_toArray, List.set_cons_succ, List.set_cons_zero]
  have A2 := A1.under hb2
  have Q2 := Q1.trans (hb2.mono Q1.size)
  clear hf hD A1 A1b Q1 hb2
  by_cases hab : b < a
  case pos =>
    have hab' : (b : Int) < (a : Int) := by omega
    have hlh : b ≤ a := by omega
    have hlh' : b ≤ a := hlh
    have lo400 : b ≤ 400 := by omega
    have hi400 : a ≤ 400 := by omega
    obtain ⟨X, hX⟩ : ∃ X, X = expL key info b := ⟨_, rfl⟩
    obtain ⟨Y, hY⟩ : ∃ Y, Y = expL key info a := ⟨_, rfl⟩
    have EX : Kept (X = Y.take b) := ⟨by rw [hX, hY]; unfold expL; rw [List.take_take, Nat.min_eq_left hlh]⟩
    have LX : Kept (X.length = b) := ⟨by rw [hX]; exact expL_len _ _ _ (by omega)⟩
    have LY : Kept (Y.length = a) := ⟨by rw [hY]; exact expL_len _ _ _ (by omega)⟩
    have C9 : Kept (Calls Tryd.prog 14 #[.agg (ints .u8 key), .slice pi ni ci, .int .i64 (b : Int)] w2 fun e w' => ∃ v, e = .returned (.tuple #[v, .int .i64 0]) ∧ Row w2.heap.size 5 .u8 X v w' ∧ Below w2.heap.size w2 w') := ⟨by rw [hX]; exact Expand_ok key info b _ w2 LK.out YK.out YI.out (by have := NI.out; omega) (by omega) (KR.out.below h0 Q2) (KV.out.under Q2)⟩
    have EY : Kept _ := ⟨hY⟩
    clear hX hY
    go_wp2_with (first | ((with_reducible refine wv_row (d := 38) ?hd ?hw 24 (.tmp 3) ?ho (w.heap.size) ?hx (t' := 24) (ints .u8 key) _ _ Tryd.underlying24 ?hs ?hg ?_); (case hd => rfl); (case hw => kernel_rfl); (case ho => rfl); (case hx => kernel_rfl); (case hs => rw [ints_size, LK.out]; exact t32_info); (case hg => exact A2); simp only [Act.put, List.setIfInBounds_toArray, List.set_cons_succ, List.set_cons_zero]))
    refine C9.out.mono ?_
    rintro e w3 ⟨v9, rfl, R9, hb3⟩
    have B9 : Kept _ := ⟨row_bytes R9⟩
    obtain ⟨p9, c9, e9, _, _⟩ := row_cells R9
    rw [LX.out] at e9
    subst e9
    have A3 := A2.under hb3
    have Q3 := Q2.trans (hb3.mono Q2.size)
    have C11 : Kept (Calls Tryd.prog 14 #[.agg (ints .u8 key), .slice pi ni ci, .int .i64 (a : Int)] w3 fun e w' => ∃ v, e = .returned (.tuple #[v, .int .i64 0]) ∧ Row w3.heap.size 5 .u8 Y v w' ∧ Below w3.heap.size w3 w') := ⟨by rw [EY.out]; exact Expand_ok key info a _ w3 LK.out YK.out YI.out (by have := NI.out; omega) (by omega) (KR.out.below h0 Q3) (KV.out.under Q3)⟩
    clear A2 Q2 hb3 R9 C9
    go_wp2_with (first | ((with_reducible refine wv_row (d := 45) ?hd ?hw 24 (.tmp 3) ?ho (w.heap.size) ?hx (t' := 24) (ints .u8 key) _ _ Tryd.underlying24 ?hs ?hg ?_); (case hd => rfl); (case hw => kernel_rfl); (case ho => rfl); (case hx => kernel_rfl); (case hs => rw [ints_size, LK.out]; exact t32_info); (case hg => exact A3); simp only [Act.put, List.setIfInBounds_toArray, List.set_cons_succ, List.set_cons_zero]))
    refine C11.out.mono ?_
    rintro e w5 ⟨v11, rfl, R11, hb5⟩
    have B11 : Kept _ := ⟨row_bytes R11⟩
    obtain ⟨p11, c11, e11, hc11, _⟩ := row_cells R11
    rw [LY.out] at e11 hc11
    subst e11
    have A5 := A3.under hb5
    have Q5 := Q3.trans (hb5.mono Q3.size)
    have B95 : Kept _ := ⟨B9.out.under hb5⟩
    have loc : b ≤ c11 := by omega
    have VX : Kept (∀ w', Below w5.heap.size w5 w' → IntsV .u8 (.slice p9 b c9) w' X) := ⟨fun w' hb => B95.out.under hb⟩
    have VY : Kept (∀ w', Below w5.heap.size w5 w' → IntsV .u8 (.slice p11 b c11) w' X) := ⟨fun w' hb => by
      have h := IntsV.take (m := b) B11.out (by rw [LY.out]; exact hlh')
      rw [← EX.out] at h
      exact BytesV.under h hb⟩
    obtain ⟨S1, hS1⟩ : ∃ S, S = strOf X := ⟨_, rfl⟩
    have ES : Kept (Value.string S1 = .string (strOf X)) := ⟨by rw [hS1]⟩
    clear hS1 A3 Q3 hb5 R11 C11 B9
    go_wp2_with fail
    refine region_ownL w5 27 [(51, .int .i64 0), (52, .bool false), (53, .bool false), (54, .int .i64 0), (55, .bool false), (56, .bool false), (57, .bool false), (58, .slice p9 b c9), (59, .int .i64 (b : Int)), (60, .int .i64 (b : Int)), (61, .bool false), (62, .bool false), (63, .bool false), (64, .slice p11 a c11), (65, .int .i64 (a : Int)), (66, .int .i64 (a : Int)), (67, .bool false), (68, .bool false), (69, .bool false), (70, .slice p9 b c9), (71, .string S1), (72, .slice p11 a c11), (73, .int .i64 (b : Int)), (74, .slice p11 b c11), (75, .string S1), (76, .bool false), (77, .bool false)] [] [] [] rfl (by kernel_rfl) (by kernel_rfl) (by kernel_rfl) (by kernel_rfl) (by kernel_rfl) (by kernel_rfl) (by kernel_rfl) (by kernel_rfl) (by kernel_rfl) (by kernel_rfl) (by kernel_rfl) ?hst1 ?hst2 (Below.refl _ _) (fun hA => ⟨ow_val hA (wants_none rfl) 51 (.int .i64 0) (by kernel_rfl) rfl rfl rfl rfl (by kernel_rfl) (fun w => by kernel_rfl), ow_val hA (wants_none rfl) 52 (.bool false) (by kernel_rfl) rfl rfl rfl rfl (by kernel_rfl) (fun w => by kernel_rfl), ow_val hA (wants_none rfl) 53 (.bool false) (by kernel_rfl) rfl rfl rfl rfl (by kernel_rfl) (fun w => by kernel_rfl), ow_val hA (wants_at hA 2 false 53 rfl rfl (by kernel_rfl) rfl rfl (by kernel_rfl)) 54 (.int .i64 0) (by kernel_rfl) rfl rfl rfl rfl (by kernel_rfl) (fun w => by kernel_rfl), ow_val hA (wants_at hA 2 false 53 rfl rfl (by kernel_rfl) rfl rfl (by kernel_rfl)) 55 (.bool false) (by kernel_rfl) rfl rfl rfl rfl (by kernel_rfl) (fun w => by kernel_rfl), ow_val hA (wants_none rfl) 56 (.bool false) (by kernel_rfl) rfl rfl rfl rfl (by kernel_rfl) (fun w => by kernel_rfl), ow_val hA (wants_none rfl) 57 (.bool false) (by kernel_rfl) rfl rfl rfl rfl (by kernel_rfl) (fun w => by kernel_rfl), ow_val hA (wants_at hA 6 false 57 rfl rfl (by kernel_rfl) rfl rfl (by kernel_rfl)) 58 (.slice p9 b c9) (by kernel_rfl) rfl rfl rfl rfl (by kernel_rfl) (fun w => by kernel_rfl), ow_val hA (wants_at hA 6 false 57 rfl rfl (by kernel_rfl) rfl rfl (by kernel_rfl)) 59 (.int .i64 (b : Int)) (by kernel_rfl) rfl rfl rfl rfl (by kernel_rfl) (fun w => by kernel_rfl), ow_val hA (wants_at hA 6 false 57 rfl rfl (by kernel_rfl) rfl rfl (by kernel_rfl)) 60 (.int .i64 (b : Int)) (by kernel_rfl) rfl rfl rfl rfl (by kernel_rfl) (fun w => by kernel_rfl), ow_val hA (wants_at hA 6 false 57 rfl rfl (by kernel_rfl) rfl rfl (by kernel_rfl)) 61 (.bool false) (by kernel_rfl) rfl rfl rfl rfl (by kernel_rfl) (fun w => run_neqI (m := b) rfl (by kernel_rfl) (by kernel_rfl) w), ow_val hA (wants_none rfl) 62 (.bool false) (by kernel_rfl) rfl rfl rfl rfl (by kernel_rfl) (fun w => by kernel_rfl), ow_val hA (wants_none rfl) 63 (.bool false) (by kernel_rfl) rfl rfl rfl rfl (by kernel_rfl) (fun w => by kernel_rfl), ow_val hA (wants_at hA 12 false 63 rfl rfl (by kernel_rfl) rfl rfl (by kernel_rfl)) 64 (.slice p11 a c11) (by kernel_rfl) rfl rfl rfl rfl (by kernel_rfl) (fun w => by kernel_rfl), ow_val hA (wants_at hA 12 false 63 rfl rfl (by kernel_rfl) rfl rfl (by kernel_rfl)) 65 (.int .i64 (a : Int)) (by kernel_rfl) rfl rfl rfl rfl (by kernel_rfl) (fun w => by kernel_rfl), ow_val hA (wants_at hA 12 false 63 rfl rfl (by kernel_rfl) rfl rfl (by kernel_rfl)) 66 (.int .i64 (a : Int)) (by kernel_rfl) rfl rfl rfl rfl (by kernel_rfl) (fun w => by kernel_rfl), ow_val hA (wants_at hA 12 false 63 rfl rfl (by kernel_rfl) rfl rfl (by kernel_rfl)) 67 (.bool false) (by kernel_rfl) rfl rfl rfl rfl (by kernel_rfl) (fun w => run_neqI (m := a) rfl (by kernel_rfl) (by kernel_rfl) w), ow_val hA (wants_none rfl) 68 (.bool false) (by kernel_rfl) rfl rfl rfl rfl (by kernel_rfl) (fun w => by kernel_rfl), ow_val hA (wants_none rfl) 69 (.bool false) (by kernel_rfl) rfl rfl rfl rfl (by kernel_rfl) (fun w => by kernel_rfl), ow_val hA (wants_at hA 18 false 69 rfl rfl (by kernel_rfl) rfl rfl (by kernel_rfl)) 70 (.slice p9 b c9) (by kernel_rfl) rfl rfl rfl rfl (by kernel_rfl) (fun w => by kernel_rfl), ow_str hA (wants_at hA 18 false 69 rfl rfl (by kernel_rfl) rfl rfl (by kernel_rfl)) 71 (.string S1) (by kernel_rfl) rfl rfl rfl rfl (by kernel_rfl) (.tmp 70) rfl _ (by kernel_rfl) X (fun w1 hb => VX.out w1 hb) ES.out, ow_val hA (wants_at hA 18 false 69 rfl rfl (by kernel_rfl) rfl rfl (by kernel_rfl)) 72 (.slice p11 a c11) (by kernel_rfl) rfl rfl rfl rfl (by kernel_rfl) (fun w => by kernel_rfl), ow_val hA (wants_at hA 18 false 69 rfl rfl (by kernel_rfl) rfl rfl (by kernel_rfl)) 73 (.int .i64 (b : Int)) (by kernel_rfl) rfl rfl rfl rfl (by kernel_rfl) (fun w => by kernel_rfl), ow_val hA (wants_at hA 18 false 69 rfl rfl (by kernel_rfl) rfl rfl (by kernel_rfl)) 74 (.slice p11 b c11) (by kernel_rfl) rfl rfl rfl rfl (by kernel_rfl) (fun w => cutTo_run (l := a) rfl (by kernel_rfl) (by kernel_rfl) Tryd.underlying22 sz_u8 loc w), ow_str hA (wants_at hA 18 false 69 rfl rfl (by kernel_rfl) rfl rfl (by kernel_rfl)) 75 (.string S1) (by kernel_rfl) rfl rfl rfl rfl (by kernel_rfl) (.tmp 74) rfl _ (by kernel_rfl) X (fun w1 hb => VY.out w1 hb) ES.out, ow_val hA (wants_at hA 18 false 69 rfl rfl (by kernel_rfl) rfl rfl (by kernel_rfl)) 76 (.bool false) (by kernel_rfl) rfl rfl rfl rfl (by kernel_rfl) (fun w => run_neq_str (s := S1) rfl (by kernel_rfl) (by kernel_rfl) w), ow_val hA (wants_none rfl) 77 (.bool false) (by kernel_rfl) rfl rfl rfl rfl (by kernel_rfl) (fun w => by kernel_rfl), trivial⟩) ?_
    case hst1 => intro q hq; cases hq
    case hst2 => intro q hq; cases hq
    intro fv2 w6 hf hD hb6
    simp only [putR, List.foldl_cons, List.foldl_nil, List.map_cons, List.map_nil, Act.put, List.setIfInBounds_toArray, List.set_cons_succ, List.set_cons_zero]
    have A6 := A5.under hb6
    have Q6 := Q5.trans (hb6.mono Q5.size)
    clear hf hD VX VY A5 Q5 hb6 B95 B11
    refine (show wpList _ _ _ [] _ _ from ?_)
    refine wpList_nil ?_
    go_wp2_with (first | ((with_reducible refine wv_row (d := 79) ?hd ?hw 24 (.tmp 3) ?ho (w.heap.size) ?hx (t' := 24) (ints .u8 key) _ _ Tryd.underlying24 ?hs ?hg ?_); (case hd => rfl); (case hw => kernel_rfl); (case ho => rfl); (case hx => kernel_rfl); (case hs => rw [ints_size, LK.out]; exact t32_info); (case hg => exact A6); simp only [Act.put, List.setIfInBounds_toArray, List.set_cons_succ, List.set_cons_zero]))
    refine (Keys_ok key info 1 _ w6 LK.out YK.out YI.out (by have := NI.out; omega) (by decide) (by decide) (KR.out.below h0 Q6) (KV.out.under Q6)).mono ?_
    rintro e w7 ⟨k1, rfl, Rk1, hbw7⟩
    have Kk1 : Kept _ := ⟨Rk1.keys (keysL_32 key info 1)⟩
    obtain ⟨pk1, ck1, ek1, hck1, _⟩ := Kk1.out
    rw [keysL_len] at ek1 hck1
    subst ek1
    have A7 := A6.under hbw7
    have Q7 := Q6.trans (hbw7.mono Q6.size)
    skip
    clear Rk1 A6 Q6 hbw7
    go_wp2_with (first | ((with_reducible refine wv_row (d := 85) ?hd ?hw 24 (.tmp 3) ?ho (w.heap.size) ?hx (t' := 24) (ints .u8 key) _ _ Tryd.underlying24 ?hs ?hg ?_); (case hd => rfl); (case hw => kernel_rfl); (case ho => rfl); (case hx => kernel_rfl); (case hs => rw [ints_size, LK.out]; exact t32_info); (case hg => exact A7); simp only [Act.put, List.setIfInBounds_toArray, List.set_cons_succ, List.set_cons_zero]))
    refine (Keys_ok key info 2 _ w7 LK.out YK.out YI.out (by have := NI.out; omega) (by decide) (by decide) (KR.out.below h0 Q7) (KV.out.under Q7)).mono ?_
    rintro e w8 ⟨k2, rfl, Rk2, hbw8⟩
    have Kk2 : Kept _ := ⟨Rk2.keys (keysL_32 key info 2)⟩
    obtain ⟨pk2, ck2, ek2, hck2, _⟩ := Kk2.out
    rw [keysL_len] at ek2 hck2
    subst ek2
    have A8 := A7.under hbw8
    have Q8 := Q7.trans (hbw8.mono Q7.size)
    have Kk1b : Kept _ := ⟨Kk1.out.under hbw8⟩
    clear Rk2 A7 Q7 hbw8
    go_wp2_with (first | ((with_reducible refine wv_row (d := 91) ?hd ?hw 24 (.tmp 3) ?ho (w.heap.size) ?hx (t' := 24) (ints .u8 key) _ _ Tryd.underlying24 ?hs ?hg ?_); (case hd => rfl); (case hw => kernel_rfl); (case ho => rfl); (case hx => kernel_rfl); (case hs => rw [ints_size, LK.out]; exact t32_info); (case hg => exact A8); simp only [Act.put, List.setIfInBounds_toArray, List.set_cons_succ, List.set_cons_zero]))
    refine (Keys_ok key info 3 _ w8 LK.out YK.out YI.out (by have := NI.out; omega) (by decide) (by decide) (KR.out.below h0 Q8) (KV.out.under Q8)).mono ?_
    rintro e w9 ⟨k3, rfl, Rk3, hbw9⟩
    have Kk3 : Kept _ := ⟨Rk3.keys (keysL_32 key info 3)⟩
    obtain ⟨pk3, ck3, ek3, hck3, _⟩ := Kk3.out
    rw [keysL_len] at ek3 hck3
    subst ek3
    have A9 := A8.under hbw9
    have Q9 := Q8.trans (hbw9.mono Q8.size)
    have Kk1c : Kept _ := ⟨Kk1b.out.under hbw9⟩
    have Kk2c : Kept _ := ⟨Kk2.out.under hbw9⟩
    clear Rk3 A8 Q8 hbw9
    have S1c : Kept (Calls Tryd.prog 18 #[.slice pk1 1 ck1, .slice pk2 1 ck2] w9 fun e w' => e = .returned (.bool true) ∧ Below w9.heap.size w9 w') := ⟨Same_eq (keysL key info 1) _ _ w9 (keysL_32 key info 1) (by rw [keysL_len]; decide) Kk1c.out (by have h := KeysV.take (m := 1) Kk2c.out (by rw [keysL_len]; decide); rwa [keysL_take key info 2 1 (by decide)] at h)⟩
    have c2 : 1 ≤ ck2 := by omega
    have c3 : 2 ≤ ck3 := by omega
    go_wp2_with (first | ((with_reducible refine wv_val (d := 109) ?hd ?hw (.slice pk2 1 ck2) ?hr ?_); (case hd => rfl); (case hw => kernel_rfl); (case hr => intro w; exact cutTo_runK (l := 2) rfl (by kernel_rfl) (by kernel_rfl) c2 w); simp only [Act.put, List.setIfInBounds_toArray, List.set_cons_succ, List.set_cons_zero]))
    refine S1c.out.mono ?_
    rintro e wA ⟨rfl, hbA⟩
    have S2c : Kept (Calls Tryd.prog 18 #[.slice pk2 2 ck2, .slice pk3 2 ck3] wA fun e w' => e = .returned (.bool true) ∧ Below wA.heap.size wA w') := ⟨Same_eq (keysL key info 2) _ _ wA (keysL_32 key info 2) (by rw [keysL_len]; decide) (Kk2c.out.under hbA) (by have h := KeysV.take (m := 2) (Kk3.out.under hbA) (by rw [keysL_len]; decide); rwa [keysL_take key info 3 2 (by decide)] at h)⟩
    have QA := Q9.trans (hbA.mono Q9.size)
    clear S1c hbA Q9 A9
    go_wp2_with (first | ((with_reducible refine wv_val (d := 115) ?hd ?hw (.slice pk3 2 ck3) ?hr ?_); (case hd => rfl); (case hw => kernel_rfl); (case hr => intro w; exact cutTo_runK (l := 3) rfl (by kernel_rfl) (by kernel_rfl) c3 w); simp only [Act.put, List.setIfInBounds_toArray, List.set_cons_succ, List.set_cons_zero]))
    refine S2c.out.mono ?_
    rintro e wB ⟨rfl, hbB⟩
    have QB := QA.trans (hbB.mono QA.size)
    clear S2c hbB QA
    go_wp2_with fail
    go_ret
    exact ⟨rfl, QB⟩
  case neg =>
    have hab' : ¬ (b : Int) < (a : Int) := by omega
    have hlh : a ≤ b := by omega
    have hlh' : a ≤ b := hlh
    have lo400 : a ≤ 400 := by omega
    have hi400 : b ≤ 400 := by omega
    obtain ⟨X, hX⟩ : ∃ X, X = expL key info a := ⟨_, rfl⟩
    obtain ⟨Y, hY⟩ : ∃ Y, Y = expL key info b := ⟨_, rfl⟩
    have EX : Kept (X = Y.take a) := ⟨by rw [hX, hY]; unfold expL; rw [List.take_take, Nat.min_eq_left hlh]⟩
    have LX : Kept (X.length = a) := ⟨by rw [hX]; exact expL_len _ _ _ (by omega)⟩
    have LY : Kept (Y.length = b) := ⟨by rw [hY]; exact expL_len _ _ _ (by omega)⟩
    have C9 : Kept (Calls Tryd.prog 14 #[.agg (ints .u8 key), .slice pi ni ci, .int .i64 (a : Int)] w2 fun e w' => ∃ v, e = .returned (.tuple #[v, .int .i64 0]) ∧ Row w2.heap.size 5 .u8 X v w' ∧ Below w2.heap.size w2 w') := ⟨by rw [hX]; exact Expand_ok key info a _ w2 LK.out YK.out YI.out (by have := NI.out; omega) (by omega) (KR.out.below h0 Q2) (KV.out.under Q2)⟩
    have EY : Kept _ := ⟨hY⟩
    clear hX hY
    go_wp2_with (first | ((with_reducible refine wv_row (d := 38) ?hd ?hw 24 (.tmp 3) ?ho (w.heap.size) ?hx (t' := 24) (ints .u8 key) _ _ Tryd.underlying24 ?hs ?hg ?_); (case hd => rfl); (case hw => kernel_rfl); (case ho => rfl); (case hx => kernel_rfl); (case hs => rw [ints_size, LK.out]; exact t32_info); (case hg => exact A2); simp only [Act.put, List.setIfInBounds_toArray, List.set_cons_succ, List.set_cons_zero]))
    refine C9.out.mono ?_
    rintro e w3 ⟨v9, rfl, R9, hb3⟩
    have B9 : Kept _ := ⟨row_bytes R9⟩
    obtain ⟨p9, c9, e9, _, _⟩ := row_cells R9
    rw [LX.out] at e9
    subst e9
    have A3 := A2.under hb3
    have Q3 := Q2.trans (hb3.mono Q2.size)
    have C11 : Kept (Calls Tryd.prog 14 #[.agg (ints .u8 key), .slice pi ni ci, .int .i64 (b : Int)] w3 fun e w' => ∃ v, e = .returned (.tuple #[v, .int .i64 0]) ∧ Row w3.heap.size 5 .u8 Y v w' ∧ Below w3.heap.size w3 w') := ⟨by rw [EY.out]; exact Expand_ok key info b _ w3 LK.out YK.out YI.out (by have := NI.out; omega) (by omega) (KR.out.below h0 Q3) (KV.out.under Q3)⟩
    clear A2 Q2 hb3 R9 C9
    go_wp2_with (first | ((with_reducible refine wv_row (d := 45) ?hd ?hw 24 (.tmp 3) ?ho (w.heap.size) ?hx (t' := 24) (ints .u8 key) _ _ Tryd.underlying24 ?hs ?hg ?_); (case hd => rfl); (case hw => kernel_rfl); (case ho => rfl); (case hx => kernel_rfl); (case hs => rw [ints_size, LK.out]; exact t32_info); (case hg => exact A3); simp only [Act.put, List.setIfInBounds_toArray, List.set_cons_succ, List.set_cons_zero]))
    refine C11.out.mono ?_
    rintro e w5 ⟨v11, rfl, R11, hb5⟩
    have B11 : Kept _ := ⟨row_bytes R11⟩
    obtain ⟨p11, c11, e11, hc11, _⟩ := row_cells R11
    rw [LY.out] at e11 hc11
    subst e11
    have A5 := A3.under hb5
    have Q5 := Q3.trans (hb5.mono Q3.size)
    have B95 : Kept _ := ⟨B9.out.under hb5⟩
    have loc : a ≤ c11 := by omega
    have VX : Kept (∀ w', Below w5.heap.size w5 w' → IntsV .u8 (.slice p9 a c9) w' X) := ⟨fun w' hb => B95.out.under hb⟩
    have VY : Kept (∀ w', Below w5.heap.size w5 w' → IntsV .u8 (.slice p11 a c11) w' X) := ⟨fun w' hb => by
      have h := IntsV.take (m := a) B11.out (by rw [LY.out]; exact hlh')
      rw [← EX.out] at h
      exact BytesV.under h hb⟩
    obtain ⟨S1, hS1⟩ : ∃ S, S = strOf X := ⟨_, rfl⟩
    have ES : Kept (Value.string S1 = .string (strOf X)) := ⟨by rw [hS1]⟩
    clear hS1 A3 Q3 hb5 R11 C11 B9
    go_wp2_with fail
    refine region_ownL w5 27 [(51, .int .i64 0), (52, .bool false), (53, .bool false), (54, .int .i64 0), (55, .bool false), (56, .bool false), (57, .bool false), (58, .slice p9 a c9), (59, .int .i64 (a : Int)), (60, .int .i64 (a : Int)), (61, .bool false), (62, .bool false), (63, .bool false), (64, .slice p11 b c11), (65, .int .i64 (b : Int)), (66, .int .i64 (b : Int)), (67, .bool false), (68, .bool false), (69, .bool false), (70, .slice p9 a c9), (71, .string S1), (72, .slice p11 b c11), (73, .int .i64 (a : Int)), (74, .slice p11 a c11), (75, .string S1), (76, .bool false), (77, .bool false)] [] [] [] rfl (by kernel_rfl) (by kernel_rfl) (by kernel_rfl) (by kernel_rfl) (by kernel_rfl) (by kernel_rfl) (by kernel_rfl) (by kernel_rfl) (by kernel_rfl) (by kernel_rfl) (by kernel_rfl) ?hst1 ?hst2 (Below.refl _ _) (fun hA => ⟨ow_val hA (wants_none rfl) 51 (.int .i64 0) (by kernel_rfl) rfl rfl rfl rfl (by kernel_rfl) (fun w => by kernel_rfl), ow_val hA (wants_none rfl) 52 (.bool false) (by kernel_rfl) rfl rfl rfl rfl (by kernel_rfl) (fun w => by kernel_rfl), ow_val hA (wants_none rfl) 53 (.bool false) (by kernel_rfl) rfl rfl rfl rfl (by kernel_rfl) (fun w => by kernel_rfl), ow_val hA (wants_at hA 2 false 53 rfl rfl (by kernel_rfl) rfl rfl (by kernel_rfl)) 54 (.int .i64 0) (by kernel_rfl) rfl rfl rfl rfl (by kernel_rfl) (fun w => by kernel_rfl), ow_val hA (wants_at hA 2 false 53 rfl rfl (by kernel_rfl) rfl rfl (by kernel_rfl)) 55 (.bool false) (by kernel_rfl) rfl rfl rfl rfl (by kernel_rfl) (fun w => by kernel_rfl), ow_val hA (wants_none rfl) 56 (.bool false) (by kernel_rfl) rfl rfl rfl rfl (by kernel_rfl) (fun w => by kernel_rfl), ow_val hA (wants_none rfl) 57 (.bool false) (by kernel_rfl) rfl rfl rfl rfl (by kernel_rfl) (fun w => by kernel_rfl), ow_val hA (wants_at hA 6 false 57 rfl rfl (by kernel_rfl) rfl rfl (by kernel_rfl)) 58 (.slice p9 a c9) (by kernel_rfl) rfl rfl rfl rfl (by kernel_rfl) (fun w => by kernel_rfl), ow_val hA (wants_at hA 6 false 57 rfl rfl (by kernel_rfl) rfl rfl (by kernel_rfl)) 59 (.int .i64 (a : Int)) (by kernel_rfl) rfl rfl rfl rfl (by kernel_rfl) (fun w => by kernel_rfl), ow_val hA (wants_at hA 6 false 57 rfl rfl (by kernel_rfl) rfl rfl (by kernel_rfl)) 60 (.int .i64 (a : Int)) (by kernel_rfl) rfl rfl rfl rfl (by kernel_rfl) (fun w => by kernel_rfl), ow_val hA (wants_at hA 6 false 57 rfl rfl (by kernel_rfl) rfl rfl (by kernel_rfl)) 61 (.bool false) (by kernel_rfl) rfl rfl rfl rfl (by kernel_rfl) (fun w => run_neqI (m := a) rfl (by kernel_rfl) (by kernel_rfl) w), ow_val hA (wants_none rfl) 62 (.bool false) (by kernel_rfl) rfl rfl rfl rfl (by kernel_rfl) (fun w => by kernel_rfl), ow_val hA (wants_none rfl) 63 (.bool false) (by kernel_rfl) rfl rfl rfl rfl (by kernel_rfl) (fun w => by kernel_rfl), ow_val hA (wants_at hA 12 false 63 rfl rfl (by kernel_rfl) rfl rfl (by kernel_rfl)) 64 (.slice p11 b c11) (by kernel_rfl) rfl rfl rfl rfl (by kernel_rfl) (fun w => by kernel_rfl), ow_val hA (wants_at hA 12 false 63 rfl rfl (by kernel_rfl) rfl rfl (by kernel_rfl)) 65 (.int .i64 (b : Int)) (by kernel_rfl) rfl rfl rfl rfl (by kernel_rfl) (fun w => by kernel_rfl), ow_val hA (wants_at hA 12 false 63 rfl rfl (by kernel_rfl) rfl rfl (by kernel_rfl)) 66 (.int .i64 (b : Int)) (by kernel_rfl) rfl rfl rfl rfl (by kernel_rfl) (fun w => by kernel_rfl), ow_val hA (wants_at hA 12 false 63 rfl rfl (by kernel_rfl) rfl rfl (by kernel_rfl)) 67 (.bool false) (by kernel_rfl) rfl rfl rfl rfl (by kernel_rfl) (fun w => run_neqI (m := b) rfl (by kernel_rfl) (by kernel_rfl) w), ow_val hA (wants_none rfl) 68 (.bool false) (by kernel_rfl) rfl rfl rfl rfl (by kernel_rfl) (fun w => by kernel_rfl), ow_val hA (wants_none rfl) 69 (.bool false) (by kernel_rfl) rfl rfl rfl rfl (by kernel_rfl) (fun w => by kernel_rfl), ow_val hA (wants_at hA 18 false 69 rfl rfl (by kernel_rfl) rfl rfl (by kernel_rfl)) 70 (.slice p9 a c9) (by kernel_rfl) rfl rfl rfl rfl (by kernel_rfl) (fun w => by kernel_rfl), ow_str hA (wants_at hA 18 false 69 rfl rfl (by kernel_rfl) rfl rfl (by kernel_rfl)) 71 (.string S1) (by kernel_rfl) rfl rfl rfl rfl (by kernel_rfl) (.tmp 70) rfl _ (by kernel_rfl) X (fun w1 hb => VX.out w1 hb) ES.out, ow_val hA (wants_at hA 18 false 69 rfl rfl (by kernel_rfl) rfl rfl (by kernel_rfl)) 72 (.slice p11 b c11) (by kernel_rfl) rfl rfl rfl rfl (by kernel_rfl) (fun w => by kernel_rfl), ow_val hA (wants_at hA 18 false 69 rfl rfl (by kernel_rfl) rfl rfl (by kernel_rfl)) 73 (.int .i64 (a : Int)) (by kernel_rfl) rfl rfl rfl rfl (by kernel_rfl) (fun w => by kernel_rfl), ow_val hA (wants_at hA 18 false 69 rfl rfl (by kernel_rfl) rfl rfl (by kernel_rfl)) 74 (.slice p11 a c11) (by kernel_rfl) rfl rfl rfl rfl (by kernel_rfl) (fun w => cutTo_run (l := b) rfl (by kernel_rfl) (by kernel_rfl) Tryd.underlying22 sz_u8 loc w), ow_str hA (wants_at hA 18 false 69 rfl rfl (by kernel_rfl) rfl rfl (by kernel_rfl)) 75 (.string S1) (by kernel_rfl) rfl rfl rfl rfl (by kernel_rfl) (.tmp 74) rfl _ (by kernel_rfl) X (fun w1 hb => VY.out w1 hb) ES.out, ow_val hA (wants_at hA 18 false 69 rfl rfl (by kernel_rfl) rfl rfl (by kernel_rfl)) 76 (.bool false) (by kernel_rfl) rfl rfl rfl rfl (by kernel_rfl) (fun w => run_neq_str (s := S1) rfl (by kernel_rfl) (by kernel_rfl) w), ow_val hA (wants_none rfl) 77 (.bool false) (by kernel_rfl) rfl rfl rfl rfl (by kernel_rfl) (fun w => by kernel_rfl), trivial⟩) ?_
    case hst1 => intro q hq; cases hq
    case hst2 => intro q hq; cases hq
    intro fv2 w6 hf hD hb6
    simp only [putR, List.foldl_cons, List.foldl_nil, List.map_cons, List.map_nil, Act.put, List.setIfInBounds_toArray, List.set_cons_succ, List.set_cons_zero]
    have A6 := A5.under hb6
    have Q6 := Q5.trans (hb6.mono Q5.size)
    clear hf hD VX VY A5 Q5 hb6 B95 B11
    refine (show wpList _ _ _ [] _ _ from ?_)
    refine wpList_nil ?_
    go_wp2_with (first | ((with_reducible refine wv_row (d := 79) ?hd ?hw 24 (.tmp 3) ?ho (w.heap.size) ?hx (t' := 24) (ints .u8 key) _ _ Tryd.underlying24 ?hs ?hg ?_); (case hd => rfl); (case hw => kernel_rfl); (case ho => rfl); (case hx => kernel_rfl); (case hs => rw [ints_size, LK.out]; exact t32_info); (case hg => exact A6); simp only [Act.put, List.setIfInBounds_toArray, List.set_cons_succ, List.set_cons_zero]))
    refine (Keys_ok key info 1 _ w6 LK.out YK.out YI.out (by have := NI.out; omega) (by decide) (by decide) (KR.out.below h0 Q6) (KV.out.under Q6)).mono ?_
    rintro e w7 ⟨k1, rfl, Rk1, hbw7⟩
    have Kk1 : Kept _ := ⟨Rk1.keys (keysL_32 key info 1)⟩
    obtain ⟨pk1, ck1, ek1, hck1, _⟩ := Kk1.out
    rw [keysL_len] at ek1 hck1
    subst ek1
    have A7 := A6.under hbw7
    have Q7 := Q6.trans (hbw7.mono Q6.size)
    skip
    clear Rk1 A6 Q6 hbw7
    go_wp2_with (first | ((with_reducible refine wv_row (d := 85) ?hd ?hw 24 (.tmp 3) ?ho (w.heap.size) ?hx (t' := 24) (ints .u8 key) _ _ Tryd.underlying24 ?hs ?hg ?_); (case hd => rfl); (case hw => kernel_rfl); (case ho => rfl); (case hx => kernel_rfl); (case hs => rw [ints_size, LK.out]; exact t32_info); (case hg => exact A7); simp only [Act.put, List.setIfInBounds_toArray, List.set_cons_succ, List.set_cons_zero]))
    refine (Keys_ok key info 2 _ w7 LK.out YK.out YI.out (by have := NI.out; omega) (by decide) (by decide) (KR.out.below h0 Q7) (KV.out.under Q7)).mono ?_
    rintro e w8 ⟨k2, rfl, Rk2, hbw8⟩
    have Kk2 : Kept _ := ⟨Rk2.keys (keysL_32 key info 2)⟩
    obtain ⟨pk2, ck2, ek2, hck2, _⟩ := Kk2.out
    rw [keysL_len] at ek2 hck2
    subst ek2
    have A8 := A7.under hbw8
    have Q8 := Q7.trans (hbw8.mono Q7.size)
    have Kk1b : Kept _ := ⟨Kk1.out.under hbw8⟩
    clear Rk2 A7 Q7 hbw8
    go_wp2_with (first | ((with_reducible refine wv_row (d := 91) ?hd ?hw 24 (.tmp 3) ?ho (w.heap.size) ?hx (t' := 24) (ints .u8 key) _ _ Tryd.underlying24 ?hs ?hg ?_); (case hd => rfl); (case hw => kernel_rfl); (case ho => rfl); (case hx => kernel_rfl); (case hs => rw [ints_size, LK.out]; exact t32_info); (case hg => exact A8); simp only [Act.put, List.setIfInBounds_toArray, List.set_cons_succ, List.set_cons_zero]))
    refine (Keys_ok key info 3 _ w8 LK.out YK.out YI.out (by have := NI.out; omega) (by decide) (by decide) (KR.out.below h0 Q8) (KV.out.under Q8)).mono ?_
    rintro e w9 ⟨k3, rfl, Rk3, hbw9⟩
    have Kk3 : Kept _ := ⟨Rk3.keys (keysL_32 key info 3)⟩
    obtain ⟨pk3, ck3, ek3, hck3, _⟩ := Kk3.out
    rw [keysL_len] at ek3 hck3
    subst ek3
    have A9 := A8.under hbw9
    have Q9 := Q8.trans (hbw9.mono Q8.size)
    have Kk1c : Kept _ := ⟨Kk1b.out.under hbw9⟩
    have Kk2c : Kept _ := ⟨Kk2.out.under hbw9⟩
    clear Rk3 A8 Q8 hbw9
    have S1c : Kept (Calls Tryd.prog 18 #[.slice pk1 1 ck1, .slice pk2 1 ck2] w9 fun e w' => e = .returned (.bool true) ∧ Below w9.heap.size w9 w') := ⟨Same_eq (keysL key info 1) _ _ w9 (keysL_32 key info 1) (by rw [keysL_len]; decide) Kk1c.out (by have h := KeysV.take (m := 1) Kk2c.out (by rw [keysL_len]; decide); rwa [keysL_take key info 2 1 (by decide)] at h)⟩
    have c2 : 1 ≤ ck2 := by omega
    have c3 : 2 ≤ ck3 := by omega
    go_wp2_with (first | ((with_reducible refine wv_val (d := 109) ?hd ?hw (.slice pk2 1 ck2) ?hr ?_); (case hd => rfl); (case hw => kernel_rfl); (case hr => intro w; exact cutTo_runK (l := 2) rfl (by kernel_rfl) (by kernel_rfl) c2 w); simp only [Act.put, List.setIfInBounds_toArray, List.set_cons_succ, List.set_cons_zero]))
    refine S1c.out.mono ?_
    rintro e wA ⟨rfl, hbA⟩
    have S2c : Kept (Calls Tryd.prog 18 #[.slice pk2 2 ck2, .slice pk3 2 ck3] wA fun e w' => e = .returned (.bool true) ∧ Below wA.heap.size wA w') := ⟨Same_eq (keysL key info 2) _ _ wA (keysL_32 key info 2) (by rw [keysL_len]; decide) (Kk2c.out.under hbA) (by have h := KeysV.take (m := 2) (Kk3.out.under hbA) (by rw [keysL_len]; decide); rwa [keysL_take key info 3 2 (by decide)] at h)⟩
    have QA := Q9.trans (hbA.mono Q9.size)
    clear S1c hbA Q9 A9
    go_wp2_with (first | ((with_reducible refine wv_val (d := 115) ?hd ?hw (.slice pk3 2 ck3) ?hr ?_); (case hd => rfl); (case hw => kernel_rfl); (case hr => intro w; exact cutTo_runK (l := 3) rfl (by kernel_rfl) (by kernel_rfl) c3 w); simp only [Act.put, List.setIfInBounds_toArray, List.set_cons_succ, List.set_cons_zero]))
    refine S2c.out.mono ?_
    rintro e wB ⟨rfl, hbB⟩
    have QB := QA.trans (hbB.mono QA.size)
    clear S2c hbB QA
    go_wp2_with fail
    go_ret
    exact ⟨rfl, QB⟩
end Go.Proofs.YthnkipicehppmaaDoor.sh
