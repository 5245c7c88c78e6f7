/-
  What MacTells answers.
-/
import Derived.Test.YthnkipicehppmaaDoorUL
namespace Go.Proofs.YthnkipicehppmaaDoor.sh
open Go Go.RowKit
set_option linter.unusedVariables false
set_option linter.unusedSimpArgs false

set_option maxRecDepth 100000 in
set_option maxHeartbeats 4000000 in
theorem tells4_any (v0 : Value) (bs : List Nat) (v1 : Value) (cs : List Nat) (w : World) (hv0 : BytesV v0 w bs) (hy0 : Bytes bs) (hl0 : bs.length ≤ maxLen) (hv1 : BytesV v1 w cs) (hy1 : Bytes cs) (hl1 : cs.length ≤ maxLen) (hr : RootsAt w) :
    Calls Tryd.prog 3 #[v0, v1] w fun e w' => e = .returned (.bool true) ∧ Below w.heap.size w w' := by
  have KB0 : Kept _ := ⟨hv0⟩
  have KB1 : Kept _ := ⟨hv1⟩
  obtain ⟨p0, c0, e0, _, _⟩ := hv0
  obtain ⟨p1, c1, e1, _, _⟩ := hv1
  obtain ⟨n0, hn0⟩ : ∃ n, n = bs.length := ⟨_, rfl⟩
  obtain ⟨n1, hn1⟩ : ∃ n, n = cs.length := ⟨_, rfl⟩
  rw [← hn0] at e0
  rw [← hn1] at e1
  subst e0 e1
  have EN0 : Kept _ := ⟨hn0⟩
  have EN1 : Kept _ := ⟨hn1⟩
  have KR : Kept _ := ⟨hr⟩
  have YB : Kept _ := ⟨hy0⟩
  have YC : Kept _ := ⟨hy1⟩
  have h0 := hr.1
  clear hy0 hy1 hr hn0 hn1 hl0 hl1
  have CA := alive4_any w KR.out
  go_enter Tryd.func3, Tryd.ntmps3
  go_wp2_with fail
  refine CA.mono ?_
  clear CA
  rintro e w1 ⟨rfl, QB1⟩
  by_cases hb0 : n0 ≤ 300
  case neg =>
    have hb0' : (300 : Int) < (n0 : Int) := by omega
    go_wp2_with fail
    go_ret
    exact ⟨rfl, QB1⟩
  by_cases hb1 : n1 ≤ 300
  case neg =>
    have hb0' : ¬ (300 : Int) < (n0 : Int) := by omega
    have hb1' : (300 : Int) < (n1 : Int) := by omega
    go_wp2_with fail
    go_ret
    exact ⟨rfl, QB1⟩
  have hb0' : ¬ (300 : Int) < (n0 : Int) := by omega
  have hb1' : ¬ (300 : Int) < (n1 : Int) := by omega
  have NB : Kept (bs.length ≤ 300) := ⟨by rw [← EN0.out]; exact hb0⟩
  have NC : Kept (cs.length ≤ 300) := ⟨by rw [← EN1.out]; exact hb1⟩
  obtain ⟨L, hL⟩ : ∃ L, L = macL bs cs := ⟨_, rfl⟩
  have EL : Kept _ := ⟨hL⟩
  have LL : Kept (L.length = 32) := ⟨by rw [hL]; exact macL_len _ _⟩
  have CR : Kept (Calls Tryd.prog 11 #[.slice p0 n0 c0, .slice p1 n1 c1] w1 fun e w' => e = .returned (.agg (ints .u8 L)) ∧ Below w1.heap.size w1 w') := ⟨by rw [hL]; exact rmSum_any bs cs _ _ w1 YB.out (by have := NB.out; omega) YC.out (by have := NC.out; omega) (KB0.out.under QB1) (KB1.out.under QB1)⟩
  clear hL
  go_wp2_with fail
  refine CR.out.mono ?_
  rintro e w3 ⟨rfl, hb3⟩
  have QB3 := QB1.trans (hb3.mono QB1.size)
  clear CR hb3 QB1
  go_wp2_with (first | (refine wl_store rfl 24 (.tmp 5) (.tmp 18) rfl w3.heap.size (ints .u8 L) rfl rfl _ (blk_new w3 _ _) (by rw [ints_size, LL.out]; exact t32_info) (by rw [ints_size, LL.out]; rfl) (ints_one _ _) ?_))
  intro w4 A4 P4
  have QB4 := (QB3.alloc QB3.size _).trans (P4.below QB3.size)
  generalize hg5 : w3.heap.size = g5 at *
  clear P4 QB3 hg5
  have VB : Kept (∀ w', Below w4.heap.size w4 w' → RootsAt w' ∧ BytesV (.slice p0 n0 c0) w' bs ∧ BytesV (.slice p1 n1 c1) w' cs) := ⟨fun w' hb => ⟨(KR.out.below h0 QB4).under hb, (KB0.out.under QB4).under hb, (KB1.out.under QB4).under hb⟩⟩
  have C1 : Kept (∀ w', Below w4.heap.size w4 w' → Calls Tryd.prog 12 [.slice p0 n0 c0, .slice p1 n1 c1].toArray w' fun e w2 => e = .returned (.agg (ints .u8 L)) ∧ Below w'.heap.size w' w2) := ⟨fun w' hb => by rw [EL.out]; exact mSum_any bs cs _ _ w' YB.out (by have := NB.out; omega) YC.out (by have := NC.out; omega) (VB.out w' hb).1 (VB.out w' hb).2.1 (VB.out w' hb).2.2⟩
  have C2 : Kept (∀ w', Below w4.heap.size w4 w' → Calls Tryd.prog 13 [.slice p0 n0 c0, .slice p1 n1 c1].toArray w' fun e w2 => e = .returned (.agg (ints .u8 L)) ∧ Below w'.heap.size w' w2) := ⟨fun w' hb => by rw [EL.out]; exact mExtract_any bs cs _ _ w' YB.out (by have := NB.out; omega) YC.out (by have := NC.out; omega) (VB.out w' hb).1 (VB.out w' hb).2.1 (VB.out w' hb).2.2⟩
  go_wp2_with fail
  refine region_ownL w4 12 [(19, .slice p0 n0 c0), (20, .slice p1 n1 c1), (21, .agg (ints .u8 L)), (22, .agg (ints .u8 L)), (23, .bool true), (24, .bool true), (25, .slice p0 n0 c0), (26, .slice p1 n1 c1), (27, .agg (ints .u8 L)), (28, .agg (ints .u8 L)), (29, .bool true), (30, .bool true)] [] [] [] rfl (by kernel_rfl) (by kernel_rfl) (by kernel_rfl) (by kernel_rfl) (by kernel_rfl) (by kernel_rfl) (by kernel_rfl) (by kernel_rfl) (by kernel_rfl) (by kernel_rfl) (by kernel_rfl) ?hst1 ?hst2 (Below.refl _ _) (fun hA => ⟨ow_val hA (wants_none rfl) 19 (.slice p0 n0 c0) (by kernel_rfl) rfl rfl rfl rfl (by kernel_rfl) (fun w => by kernel_rfl), ow_val hA (wants_none rfl) 20 (.slice p1 n1 c1) (by kernel_rfl) rfl rfl rfl rfl (by kernel_rfl) (fun w => by kernel_rfl), ow_calld hA (wants_none rfl) 21 (.agg (ints .u8 L)) (by kernel_rfl) rfl rfl rfl rfl (by kernel_rfl) 12 Tryd.f12 _ [.tmp 19, .tmp 20] _ [.slice p0 n0 c0, .slice p1 n1 c1] rfl (by kernel_rfl) Tryd.func12 (by kernel_rfl) rfl (fun w1 hb => C1.out w1 hb), ow_row hA (wants_none rfl) 22 (.agg (ints .u8 L)) (by kernel_rfl) rfl rfl rfl rfl (by kernel_rfl) 24 (.tmp 5) rfl (g5) (by kernel_rfl) 24 (ints .u8 L) 32 5 Tryd.underlying24 (by rw [ints_size, LL.out]; exact t32_info) (fun w1 hb => Blk.under A4 hb) rfl, ow_val hA (wants_none rfl) 23 (.bool true) (by kernel_rfl) rfl rfl rfl rfl (by kernel_rfl) (fun w => by rw [run_eql_row (L) (L) rfl (by kernel_rfl) (by kernel_rfl) LL.out LL.out Tryd.underlying24 Tryd.underlying5 sz_u8 ag_u8 eg32]; rw [decide_eq_true rfl]), ow_val hA (wants_none rfl) 24 (.bool true) (by kernel_rfl) rfl rfl rfl rfl (by kernel_rfl) (fun w => by kernel_rfl), ow_val hA (wants_at hA 5 true 24 rfl rfl (by kernel_rfl) rfl rfl (by kernel_rfl)) 25 (.slice p0 n0 c0) (by kernel_rfl) rfl rfl rfl rfl (by kernel_rfl) (fun w => by kernel_rfl), ow_val hA (wants_at hA 5 true 24 rfl rfl (by kernel_rfl) rfl rfl (by kernel_rfl)) 26 (.slice p1 n1 c1) (by kernel_rfl) rfl rfl rfl rfl (by kernel_rfl) (fun w => by kernel_rfl), ow_calld hA (wants_at hA 5 true 24 rfl rfl (by kernel_rfl) rfl rfl (by kernel_rfl)) 27 (.agg (ints .u8 L)) (by kernel_rfl) rfl rfl rfl rfl (by kernel_rfl) 13 Tryd.f13 _ [.tmp 25, .tmp 26] _ [.slice p0 n0 c0, .slice p1 n1 c1] rfl (by kernel_rfl) Tryd.func13 (by kernel_rfl) rfl (fun w1 hb => C2.out w1 hb), ow_row hA (wants_at hA 5 true 24 rfl rfl (by kernel_rfl) rfl rfl (by kernel_rfl)) 28 (.agg (ints .u8 L)) (by kernel_rfl) rfl rfl rfl rfl (by kernel_rfl) 24 (.tmp 5) rfl (g5) (by kernel_rfl) 24 (ints .u8 L) 32 5 Tryd.underlying24 (by rw [ints_size, LL.out]; exact t32_info) (fun w1 hb => Blk.under A4 hb) rfl, ow_val hA (wants_at hA 5 true 24 rfl rfl (by kernel_rfl) rfl rfl (by kernel_rfl)) 29 (.bool true) (by kernel_rfl) rfl rfl rfl rfl (by kernel_rfl) (fun w => by rw [run_eql_row (L) (L) rfl (by kernel_rfl) (by kernel_rfl) LL.out LL.out Tryd.underlying24 Tryd.underlying5 sz_u8 ag_u8 eg32]; rw [decide_eq_true rfl]), ow_val hA (wants_none rfl) 30 (.bool true) (by kernel_rfl) rfl rfl rfl rfl (by kernel_rfl) (fun w => by kernel_rfl), trivial⟩) ?_
  case hst1 => intro q hq; cases hq
  case hst2 => intro q hq; cases hq
  intro fv w5 hf hD hb5
  simp only [putR, List.foldl_cons, List.foldl_nil, List.map_cons, List.map_nil, Act.put, List.setIfInBounds_toArray, List.set_cons_succ, List.set_cons_zero]
  clear hf hD C1 C2 A4 VB
  go_wp2
  go_ret
  exact ⟨rfl, QB4.trans (hb5.mono QB4.size)⟩
end Go.Proofs.YthnkipicehppmaaDoor.sh
