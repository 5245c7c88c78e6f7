/-
  What MacExpands answers.
-/
import Derived.Test.YthnkipicehppmaaDoorVB
import Derived.Test.YthnkipicehppmaaDoorUZ
namespace Go.Proofs.YthnkipicehppmaaDoor.sh
open Go Go.RowKit
set_option linter.unusedVariables false
set_option linter.unusedSimpArgs false

theorem nil_ints (w : World) : IntsV .u8 (.slice none 0 0) w [] := ⟨none, 0, rfl, Nat.le_refl _, fun h => absurd rfl h⟩
theorem nil_keys (w : World) : KeysV (.slice none 0 0) w [] := ⟨none, 0, rfl, Nat.le_refl _, fun h => absurd rfl h⟩
/-- The program and the reference answer the same, by Expand. -/
theorem expand_two (key info : List Nat) (z : Int) (hk : key.length = 32) (hy : Bytes key) (hi : Bytes info) (hin : info.length ≤ 300) : ∃ (A : List Nat) (er : Int),
    (∀ (w : World) (vi : Value), RootsAt w → BytesV vi w info → Calls Tryd.prog 14 #[.agg (ints .u8 key), vi, .int .i64 z] w fun e w' => ∃ p l c, e = .returned (.tuple #[.slice p l c, .int .i64 er]) ∧ IntsV .u8 (.slice p l c) w' A ∧ Below w.heap.size w w') ∧ (∀ (w : World) (vi : Value), RootsAt w → BytesV vi w info → Calls Tryd.prog 15 #[.agg (ints .u8 key), vi, .int .i64 z] w fun e w' => ∃ p l c, e = .returned (.tuple #[.slice p l c, .int .i64 er]) ∧ IntsV .u8 (.slice p l c) w' A ∧ Below w.heap.size w w') := by
  by_cases hz : z < 0 ∨ 8160 < z
  · refine ⟨[], 2, fun w vi _ _ => ?_, fun w vi _ _ => ?_⟩
    · exact (Expand_bad _ z vi w hz).mono fun e w' hh => ⟨none, 0, 0, hh.1, nil_ints w', hh.2⟩
    · exact (rExpand_bad _ z vi w hz).mono fun e w' hh => ⟨none, 0, 0, hh.1, nil_ints w', hh.2⟩
  · obtain ⟨n, rfl⟩ := Int.eq_ofNat_of_zero_le (show 0 ≤ z by omega)
    have hn : n ≤ 8160 := by omega
    refine ⟨expL key info n, 0, fun w vi hr hv => ?_, fun w vi hr hv => ?_⟩
    · refine (Expand_ok key info n vi w hk hy hi (by omega) hn hr hv).mono fun e w' hh => ?_
      obtain ⟨v, rfl, h1, h2⟩ := hh
      have h3 := row_cells h1
      obtain ⟨p, c, rfl, h4⟩ := h3
      exact ⟨p, _, c, rfl, ⟨p, c, rfl, h4⟩, h2⟩
    · refine (rExpand_ok key info n vi w hk hy hi (by omega) hn hv).mono fun e w' hh => ?_
      obtain ⟨v, rfl, h1, h2⟩ := hh
      obtain ⟨p, c, rfl, h4⟩ := h1
      exact ⟨p, _, c, rfl, ⟨p, c, rfl, h4⟩, h2⟩
/-- And by Keys. -/
theorem keys_two (key info : List Nat) (z : Int) (hk : key.length = 32) (hy : Bytes key) (hi : Bytes info) (hin : info.length ≤ 300) : ∃ (kl : List (List Nat)) (gr : Int), (∀ k ∈ kl, k.length = 32) ∧ kl.length < 1000000 ∧
    (∀ (w : World) (vi : Value), RootsAt w → BytesV vi w info → Calls Tryd.prog 16 #[.agg (ints .u8 key), vi, .int .i64 z] w fun e w' => ∃ p l c, e = .returned (.tuple #[.slice p l c, .int .i64 gr]) ∧ KeysV (.slice p l c) w' kl ∧ Below w.heap.size w w') ∧ (∀ (w : World) (vi : Value), RootsAt w → BytesV vi w info → Calls Tryd.prog 17 #[.agg (ints .u8 key), vi, .int .i64 z] w fun e w' => ∃ p l c, e = .returned (.tuple #[.slice p l c, .int .i64 gr]) ∧ KeysV (.slice p l c) w' kl ∧ Below w.heap.size w w') := by
  by_cases hz : z < 1 ∨ 3 < z
  · refine ⟨[], 2, fun k hk => (by cases hk), by decide, fun w vi _ _ => ?_, fun w vi _ _ => ?_⟩
    · exact (Keys_bad _ z vi w hz).mono fun e w' hh => ⟨none, 0, 0, hh.1, nil_keys w', hh.2⟩
    · exact (rKeys_bad _ z vi w hz).mono fun e w' hh => ⟨none, 0, 0, hh.1, nil_keys w', hh.2⟩
  · obtain ⟨n, rfl⟩ := Int.eq_ofNat_of_zero_le (show 0 ≤ z by omega)
    have h1 : 1 ≤ n := by omega
    have h3 : n ≤ 3 := by omega
    refine ⟨keysL key info n, 0, keysL_32 key info n, by rw [keysL_len]; omega, fun w vi hr hv => ?_, fun w vi hr hv => ?_⟩
    · refine (Keys_ok key info n vi w hk hy hi (by omega) h1 h3 hr hv).mono fun e w' hh => ?_
      obtain ⟨v, rfl, h1, h2⟩ := hh
      have h3 := h1.keys (keysL_32 key info n)
      obtain ⟨p, c, rfl, h4⟩ := h3
      exact ⟨p, _, c, rfl, ⟨p, c, rfl, h4⟩, h2⟩
    · refine (rKeys_ok key info n vi w hk hy hi (by omega) h1 h3 hv).mono fun e w' hh => ?_
      obtain ⟨v, rfl, h1, h2⟩ := hh
      have h3 := h1.keys (keysL_32 key info n)
      obtain ⟨p, c, rfl, h4⟩ := h3
      exact ⟨p, _, c, rfl, ⟨p, c, rfl, h4⟩, h2⟩
theorem run_eqlI {o : Oper} {a : Act} {x y : Operand} {m : Int} (ho : o.op = .binOp .eql 3 x y 3) (hx : a.eval x = .int .i64 m) (hy : a.eval y = .int .i64 m) (w : World) : (execOp a.eval o).run Tryd.prog w = .ok (.value (.bool true)) w := by
  unfold execOp
  simp only [ho, hx, hy]
  simp [go_sem]

set_option maxRecDepth 100000 in
set_option maxHeartbeats 4000000 in
theorem expands4_any (key : List Nat) (vi : Value) (info : List Nat) (z : Int) (w : World) (hk : key.length = 32) (hy : Bytes key) (hvi : BytesV vi w info) (hi : Bytes info) (hil : info.length ≤ maxLen) (hz : (Lit.int .i64 z).wf = true) (hr : RootsAt w) :
    Calls Tryd.prog 4 #[.agg (ints .u8 key), vi, .int .i64 z] w fun e w' => e = .returned (.bool true) ∧ Below w.heap.size w w' := by
  have KV : Kept _ := ⟨hvi⟩
  obtain ⟨pi, ci, ei, _, _⟩ := hvi
  obtain ⟨ni, hni⟩ : ∃ n, n = info.length := ⟨_, rfl⟩
  rw [← hni] at ei
  subst ei
  have ENI : Kept _ := ⟨hni⟩
  have KR : Kept _ := ⟨hr⟩
  have LK : Kept _ := ⟨hk⟩
  have YK : Kept _ := ⟨hy⟩
  have YI : Kept _ := ⟨hi⟩
  have h0 := hr.1
  have A0 : Blk (w.alloc (.cells (ints .u8 key) 24)) w.heap.size 24 (ints .u8 key) := blk_new w _ _
  have Q0 : Below w.heap.size w (w.alloc (.cells (ints .u8 key) 24)) := (Below.refl _ _).alloc (Nat.le_refl _) _
  clear hk hy hr hi hni hil hz
  go_enter Tryd.func4, Tryd.ntmps4
  go_wp2_with fail
  generalize hW : w.alloc (.cells (ints .u8 key) 24) = wa at *
  clear hW
  refine (alive4_any wa (KR.out.below h0 Q0)).mono ?_
  rintro e w1 ⟨rfl, hb1⟩
  have A1 := A0.under hb1
  have Q1 := Q0.trans (hb1.mono Q0.size)
  clear A0 Q0 hb1
  by_cases hb0 : ni ≤ 300
  case neg =>
    have hb0' : (300 : Int) < (ni : Int) := by omega
    go_wp2_with fail
    go_ret
    exact ⟨rfl, Q1⟩
  have hb0' : ¬ (300 : Int) < (ni : Int) := by omega
  have NI : Kept (info.length ≤ 300) := ⟨by rw [← ENI.out]; exact hb0⟩
  obtain ⟨A, er, hE1, hE2⟩ := expand_two key info z LK.out YK.out YI.out NI.out
  obtain ⟨kl, gr, k32, kn, hK1, hK2⟩ := keys_two key info z LK.out YK.out YI.out NI.out
  have E1 : Kept _ := ⟨hE1⟩
  have E2 : Kept _ := ⟨hE2⟩
  have G1 : Kept _ := ⟨hK1⟩
  have G2 : Kept _ := ⟨hK2⟩
  have K32' : Kept _ := ⟨k32⟩
  clear hE1 hE2 hK1 hK2 k32
  by_cases hz200 : 200 < z
  case pos =>
    by_cases hz8 : z ≤ 8160
    case pos =>
      go_wp2_with fail
      go_ret
      exact ⟨rfl, Q1⟩
    have hz8' : ¬ z ≤ 8160 := hz8
    go_wp2_with (first | ((with_reducible refine wv_row (d := 29) ?hd ?hw 24 (.tmp 3) ?ho (w.heap.size) ?hx (t' := 24) (ints .u8 key) _ _ Tryd.underlying24 ?hs ?hg ?_); (case hd => rfl); (case hw => kernel_rfl); (case ho => rfl); (case hx => kernel_rfl); (case hs => rw [ints_size, LK.out]; exact t32_info); (case hg => exact A1); simp only [Act.put, List.setIfInBounds_toArray, List.set_cons_succ, List.set_cons_zero]))
    refine (E1.out w1 _ (KR.out.below h0 Q1) (KV.out.under Q1)).mono ?_
    rintro e w3 ⟨p3, l3, c3, rfl, V3, hb3⟩
    have B3 : Kept _ := ⟨V3⟩
    have A3 := A1.under hb3
    have Q3 := Q1.trans (hb3.mono Q1.size)
    clear A1 Q1 V3 hb3
    go_wp2_with (first | ((with_reducible refine wv_row (d := 36) ?hd ?hw 24 (.tmp 3) ?ho (w.heap.size) ?hx (t' := 24) (ints .u8 key) _ _ Tryd.underlying24 ?hs ?hg ?_); (case hd => rfl); (case hw => kernel_rfl); (case ho => rfl); (case hx => kernel_rfl); (case hs => rw [ints_size, LK.out]; exact t32_info); (case hg => exact A3); simp only [Act.put, List.setIfInBounds_toArray, List.set_cons_succ, List.set_cons_zero]))
    refine (E2.out w3 _ (KR.out.below h0 Q3) (KV.out.under Q3)).mono ?_
    rintro e w4 ⟨p4, l4, c4, rfl, V4, hb4⟩
    have B4 : Kept _ := ⟨V4⟩
    have A4 := A3.under hb4
    have Q4 := Q3.trans (hb4.mono Q3.size)
    have B34 : Kept _ := ⟨B3.out.under hb4⟩
    clear A3 Q3 V4 hb4 B3
    go_wp2_with (first | ((with_reducible refine wv_row (d := 43) ?hd ?hw 24 (.tmp 3) ?ho (w.heap.size) ?hx (t' := 24) (ints .u8 key) _ _ Tryd.underlying24 ?hs ?hg ?_); (case hd => rfl); (case hw => kernel_rfl); (case ho => rfl); (case hx => kernel_rfl); (case hs => rw [ints_size, LK.out]; exact t32_info); (case hg => exact A4); simp only [Act.put, List.setIfInBounds_toArray, List.set_cons_succ, List.set_cons_zero]))
    refine (G1.out w4 _ (KR.out.below h0 Q4) (KV.out.under Q4)).mono ?_
    rintro e w5 ⟨p5, l5, c5, rfl, V5, hb5⟩
    have B5 : Kept _ := ⟨V5⟩
    have A5 := A4.under hb5
    have Q5 := Q4.trans (hb5.mono Q4.size)
    have B35 : Kept _ := ⟨B34.out.under hb5⟩
    have B45 : Kept _ := ⟨B4.out.under hb5⟩
    clear A4 Q4 V5 hb5 B34 B4
    go_wp2_with (first | ((with_reducible refine wv_row (d := 50) ?hd ?hw 24 (.tmp 3) ?ho (w.heap.size) ?hx (t' := 24) (ints .u8 key) _ _ Tryd.underlying24 ?hs ?hg ?_); (case hd => rfl); (case hw => kernel_rfl); (case ho => rfl); (case hx => kernel_rfl); (case hs => rw [ints_size, LK.out]; exact t32_info); (case hg => exact A5); simp only [Act.put, List.setIfInBounds_toArray, List.set_cons_succ, List.set_cons_zero]))
    refine (G2.out w5 _ (KR.out.below h0 Q5) (KV.out.under Q5)).mono ?_
    rintro e w6 ⟨p6, l6, c6, rfl, V6, hb6⟩
    have B6 : Kept _ := ⟨V6⟩
    have A6 := A5.under hb6
    have Q6 := Q5.trans (hb6.mono Q5.size)
    have B36 : Kept _ := ⟨BytesV.under B35.out hb6⟩
    have B46 : Kept _ := ⟨BytesV.under B45.out hb6⟩
    have SC : Kept (Calls Tryd.prog 18 #[.slice p5 l5 c5, .slice p6 l6 c6] w6 fun e w' => e = .returned (.bool true) ∧ Below w6.heap.size w6 w') := ⟨Same_eq kl _ _ w6 K32'.out kn (B5.out.under hb6) B6.out⟩
    clear A5 Q5 V6 hb6 B35 B45 B5 B6 A6
    go_wp2_with (first | ((with_reducible refine wv_str (d := 57) ?hd ?hw (.tmp 56) ?ho (.slice p3 l3 c3) ?hx A ?hl ?_); (case hd => rfl); (case hw => kernel_rfl); (case ho => rfl); (case hx => kernel_rfl); (case hl => exact B36.out); simp only [Act.put, List.setIfInBounds_toArray, List.set_cons_succ, List.set_cons_zero]) | ((with_reducible refine wv_str (d := 59) ?hd ?hw (.tmp 58) ?ho (.slice p4 l4 c4) ?hx A ?hl ?_); (case hd => rfl); (case hw => kernel_rfl); (case ho => rfl); (case hx => kernel_rfl); (case hl => exact B46.out); simp only [Act.put, List.setIfInBounds_toArray, List.set_cons_succ, List.set_cons_zero]) | ((with_reducible refine wv_val (d := 60) ?hd ?hw (.bool true) ?hr ?_); (case hd => rfl); (case hw => kernel_rfl); (case hr => intro w; exact run_eql_str (s := strOf A) rfl (by kernel_rfl) (by kernel_rfl) w); simp only [Act.put, List.setIfInBounds_toArray, List.set_cons_succ, List.set_cons_zero]) | ((with_reducible refine wv_val (d := 64) ?hd ?hw (.bool true) ?hr ?_); (case hd => rfl); (case hw => kernel_rfl); (case hr => intro w; exact run_eqlI (m := er) rfl (by kernel_rfl) (by kernel_rfl) w); simp only [Act.put, List.setIfInBounds_toArray, List.set_cons_succ, List.set_cons_zero]))
    refine SC.out.mono ?_
    rintro e w7 ⟨rfl, hb7⟩
    have Q7 := Q6.trans (hb7.mono Q6.size)
    clear SC hb7 Q6
    go_wp2_with (first | ((with_reducible refine wv_val (d := 74) ?hd ?hw (.bool true) ?hr ?_); (case hd => rfl); (case hw => kernel_rfl); (case hr => intro w; exact run_eqlI (m := gr) rfl (by kernel_rfl) (by kernel_rfl) w); simp only [Act.put, List.setIfInBounds_toArray, List.set_cons_succ, List.set_cons_zero]))
    go_ret
    exact ⟨rfl, Q7⟩
  have hz200' : ¬ 200 < z := hz200
  go_wp2_with (first | ((with_reducible refine wv_row (d := 29) ?hd ?hw 24 (.tmp 3) ?ho (w.heap.size) ?hx (t' := 24) (ints .u8 key) _ _ Tryd.underlying24 ?hs ?hg ?_); (case hd => rfl); (case hw => kernel_rfl); (case ho => rfl); (case hx => kernel_rfl); (case hs => rw [ints_size, LK.out]; exact t32_info); (case hg => exact A1); simp only [Act.put, List.setIfInBounds_toArray, List.set_cons_succ, List.set_cons_zero]))
  refine (E1.out w1 _ (KR.out.below h0 Q1) (KV.out.under Q1)).mono ?_
  rintro e w3 ⟨p3, l3, c3, rfl, V3, hb3⟩
  have B3 : Kept _ := ⟨V3⟩
  have A3 := A1.under hb3
  have Q3 := Q1.trans (hb3.mono Q1.size)
  clear A1 Q1 V3 hb3
  go_wp2_with (first | ((with_reducible refine wv_row (d := 36) ?hd ?hw 24 (.tmp 3) ?ho (w.heap.size) ?hx (t' := 24) (ints .u8 key) _ _ Tryd.underlying24 ?hs ?hg ?_); (case hd => rfl); (case hw => kernel_rfl); (case ho => rfl); (case hx => kernel_rfl); (case hs => rw [ints_size, LK.out]; exact t32_info); (case hg => exact A3); simp only [Act.put, List.setIfInBounds_toArray, List.set_cons_succ, List.set_cons_zero]))
  refine (E2.out w3 _ (KR.out.below h0 Q3) (KV.out.under Q3)).mono ?_
  rintro e w4 ⟨p4, l4, c4, rfl, V4, hb4⟩
  have B4 : Kept _ := ⟨V4⟩
  have A4 := A3.under hb4
  have Q4 := Q3.trans (hb4.mono Q3.size)
  have B34 : Kept _ := ⟨B3.out.under hb4⟩
  clear A3 Q3 V4 hb4 B3
  go_wp2_with (first | ((with_reducible refine wv_row (d := 43) ?hd ?hw 24 (.tmp 3) ?ho (w.heap.size) ?hx (t' := 24) (ints .u8 key) _ _ Tryd.underlying24 ?hs ?hg ?_); (case hd => rfl); (case hw => kernel_rfl); (case ho => rfl); (case hx => kernel_rfl); (case hs => rw [ints_size, LK.out]; exact t32_info); (case hg => exact A4); simp only [Act.put, List.setIfInBounds_toArray, List.set_cons_succ, List.set_cons_zero]))
  refine (G1.out w4 _ (KR.out.below h0 Q4) (KV.out.under Q4)).mono ?_
  rintro e w5 ⟨p5, l5, c5, rfl, V5, hb5⟩
  have B5 : Kept _ := ⟨V5⟩
  have A5 := A4.under hb5
  have Q5 := Q4.trans (hb5.mono Q4.size)
  have B35 : Kept _ := ⟨B34.out.under hb5⟩
  have B45 : Kept _ := ⟨B4.out.under hb5⟩
  clear A4 Q4 V5 hb5 B34 B4
  go_wp2_with (first | ((with_reducible refine wv_row (d := 50) ?hd ?hw 24 (.tmp 3) ?ho (w.heap.size) ?hx (t' := 24) (ints .u8 key) _ _ Tryd.underlying24 ?hs ?hg ?_); (case hd => rfl); (case hw => kernel_rfl); (case ho => rfl); (case hx => kernel_rfl); (case hs => rw [ints_size, LK.out]; exact t32_info); (case hg => exact A5); simp only [Act.put, List.setIfInBounds_toArray, List.set_cons_succ, List.set_cons_zero]))
  refine (G2.out w5 _ (KR.out.below h0 Q5) (KV.out.under Q5)).mono ?_
  rintro e w6 ⟨p6, l6, c6, rfl, V6, hb6⟩
  have B6 : Kept _ := ⟨V6⟩
  have A6 := A5.under hb6
  have Q6 := Q5.trans (hb6.mono Q5.size)
  have B36 : Kept _ := ⟨BytesV.under B35.out hb6⟩
  have B46 : Kept _ := ⟨BytesV.under B45.out hb6⟩
  have SC : Kept (Calls Tryd.prog 18 #[.slice p5 l5 c5, .slice p6 l6 c6] w6 fun e w' => e = .returned (.bool true) ∧ Below w6.heap.size w6 w') := ⟨Same_eq kl _ _ w6 K32'.out kn (B5.out.under hb6) B6.out⟩
  clear A5 Q5 V6 hb6 B35 B45 B5 B6 A6
  go_wp2_with (first | ((with_reducible refine wv_str (d := 57) ?hd ?hw (.tmp 56) ?ho (.slice p3 l3 c3) ?hx A ?hl ?_); (case hd => rfl); (case hw => kernel_rfl); (case ho => rfl); (case hx => kernel_rfl); (case hl => exact B36.out); simp only [Act.put, List.setIfInBounds_toArray, List.set_cons_succ, List.set_cons_zero]) | ((with_reducible refine wv_str (d := 59) ?hd ?hw (.tmp 58) ?ho (.slice p4 l4 c4) ?hx A ?hl ?_); (case hd => rfl); (case hw => kernel_rfl); (case ho => rfl); (case hx => kernel_rfl); (case hl => exact B46.out); simp only [Act.put, List.setIfInBounds_toArray, List.set_cons_succ, List.set_cons_zero]) | ((with_reducible refine wv_val (d := 60) ?hd ?hw (.bool true) ?hr ?_); (case hd => rfl); (case hw => kernel_rfl); (case hr => intro w; exact run_eql_str (s := strOf A) rfl (by kernel_rfl) (by kernel_rfl) w); simp only [Act.put, List.setIfInBounds_toArray, List.set_cons_succ, List.set_cons_zero]) | ((with_reducible refine wv_val (d := 64) ?hd ?hw (.bool true) ?hr ?_); (case hd => rfl); (case hw => kernel_rfl); (case hr => intro w; exact run_eqlI (m := er) rfl (by kernel_rfl) (by kernel_rfl) w); simp only [Act.put, List.setIfInBounds_toArray, List.set_cons_succ, List.set_cons_zero]))
  refine SC.out.mono ?_
  rintro e w7 ⟨rfl, hb7⟩
  have Q7 := Q6.trans (hb7.mono Q6.size)
  clear SC hb7 Q6
  go_wp2_with (first | ((with_reducible refine wv_val (d := 74) ?hd ?hw (.bool true) ?hr ?_); (case hd => rfl); (case hw => kernel_rfl); (case hr => intro w; exact run_eqlI (m := gr) rfl (by kernel_rfl) (by kernel_rfl) w); simp only [Act.put, List.setIfInBounds_toArray, List.set_cons_succ, List.set_cons_zero]))
  go_ret
  exact ⟨rfl, Q7⟩
end Go.Proofs.YthnkipicehppmaaDoor.sh
