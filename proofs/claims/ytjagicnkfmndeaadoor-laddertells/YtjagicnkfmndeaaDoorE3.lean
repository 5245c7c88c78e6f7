/-
  What LadderTells answers: true, whatever the secret and the point are.
-/
import Derived.Test.YtjagicnkfmndeaaDoorD8
import Derived.Test.YtjagicnkfmndeaaDoorF2
import Derived.Test.YtjagicnkfmndeaaDoorL1
namespace Go.Proofs.YtjagicnkfmndeaaDoor
open Go Go.RowKit
set_option linter.unusedVariables false
set_option linter.unusedSimpArgs false

theorem quotL_ltp (l : List Nat) : quotL l < 57896044618658097711785492504343953926634992332820282019728792003956564819949 := by
  unfold quotL
  split
  · exact Nat.mod_lt _ (by decide)
  · decide
theorem XN_ltp (k u : Nat) : XN k u < 57896044618658097711785492504343953926634992332820282019728792003956564819949 := quotL_ltp _

set_option maxHeartbeats 1000000 in
theorem ltells_any (k u : Nat) (w : World) (lk : k < 115792089237316195423570985008687907853269984665640564039457584007913129639936) (lu : u < 115792089237316195423570985008687907853269984665640564039457584007913129639936) (hp : PrimeAt w) :
    Calls Tryd.prog 6 #[.agg (numA k), .agg (numA u)] w fun e w' => e = .returned (.bool true) ∧ Below w.heap.size w w' := by
  have LK : Kept _ := ⟨lk⟩
  have LU : Kept _ := ⟨lu⟩
  have HP : Kept _ := ⟨hp⟩
  obtain ⟨r, hr⟩ : ∃ r, r = XN k u := ⟨_, rfl⟩
  have ER : Kept (r = XN k u) := ⟨hr⟩
  have LR : Kept (r < 115792089237316195423570985008687907853269984665640564039457584007913129639936) := ⟨by rw [hr]; exact XN_lt _ _⟩
  have LP : Kept (r % 57896044618658097711785492504343953926634992332820282019728792003956564819949 = r) := ⟨by rw [hr]; exact Nat.mod_eq_of_lt (XN_ltp _ _)⟩
  clear lk lu hp hr
  go_enter Tryd.func6, Tryd.ntmps6
  go_wp2_with fail
  generalize hW : (w.alloc (.cells (numA k) 22)).alloc (.cells (numA u) 22) = W
  obtain ⟨Ak, Au, QB⟩ := two_nums w k u W hW
  clear hW
  refine (alive2_any _ (PrimeAt.below HP.out QB)).mono ?_
  rintro e w1 ⟨rfl, hb1⟩
  have Ak1 := Ak.under hb1
  have Au1 := Au.under hb1
  have QB1 := QB.trans (hb1.mono QB.size)
  clear Ak Au QB hb1
  go_wp2_with (first | (refine wpList_get rfl (.tmp 2) rfl _ k rfl Ak1 ?_) | (refine wpList_get rfl (.tmp 3) rfl _ u rfl Au1 ?_))
  have hc := rX_any k u w1 LK.out LU.out (PrimeAt.below HP.out QB1)
  rw [← ER.out] at hc
  refine hc.mono ?_
  clear hc
  rintro e w2 ⟨rfl, hb2⟩
  have Ak2 := Ak1.under hb2
  have Au2 := Au1.under hb2
  have QB2 := QB1.trans (hb2.mono QB1.size)
  clear Ak1 Au1 QB1 hb2
  go_wp2_with (first | (refine wpList_put rfl (.tmp 5) (.tmp 12) rfl _ r rfl rfl (room_top _ _ rfl) ?_))
  intro w3 Fr P3
  have Fk := P3.at (Ak2.alloc _) (Nat.ne_of_lt Ak2.lt)
  have Fu := P3.at (Au2.alloc _) (Nat.ne_of_lt Au2.lt)
  have QB3 : Below w.heap.size w w3 := (QB2.alloc QB2.size _).trans (P3.below QB2.size)
  clear P3 Ak2 Au2 QB2
  generalize w2.heap.size = g5 at *
  go_wp2_with (first | (refine wpList_get rfl (.tmp 2) rfl _ k rfl Fk ?_) | (refine wpList_get rfl (.tmp 3) rfl _ u rfl Fu ?_))
  by_cases zr : r = 0
  · have ZR : Kept (r = 0) := ⟨zr⟩
    have ZB : Kept ((!decide (r % 57896044618658097711785492504343953926634992332820282019728792003956564819949 = 0)) = false) := ⟨by rw [LP.out, decide_eq_true zr]; rfl⟩
    clear zr
    have hc := Shared_any k u w3 LK.out LU.out (PrimeAt.below HP.out QB3)
    rw [← ER.out, show (!decide (r % 57896044618658097711785492504343953926634992332820282019728792003956564819949 = 0)) = false from ZB.out] at hc
    refine hc.mono ?_
    clear hc
    rintro e w4 ⟨rfl, hb4⟩
    have Fk4 := Fk.under hb4
    have Fu4 := Fu.under hb4
    have Fr4 := Fr.under hb4
    have QB4 := QB3.trans (hb4.mono QB3.size)
    clear Fk Fu Fr QB3 hb4
    go_wp2_with (first | (refine wpList_put rfl (.tmp 6) (.tmp 17) rfl _ r rfl rfl (room_top _ _ rfl) ?_))
    intro w5 Fs P5
    have Fk := P5.at (Fk4.alloc _) (Nat.ne_of_lt Fk4.lt)
    have Fu := P5.at (Fu4.alloc _) (Nat.ne_of_lt Fu4.lt)
    have Fr := P5.at (Fr4.alloc _) (Nat.ne_of_lt Fr4.lt)
    have QB5 : Below w.heap.size w w5 := (QB4.alloc QB4.size _).trans (P5.below QB4.size)
    have HQ : Kept _ := ⟨QB5⟩
    have HPW := PrimeAt.below HP.out QB5
    clear P5 Fk4 Fu4 Fr4 QB4 QB5
    generalize w4.heap.size = g6 at *
    go_wp2_with fail
    have lk := LK.out
    have lu := LU.out
    have lr := LR.out
    generalize w5 = wc at *
    obtain ⟨v1, ev1⟩ : ∃ v1, v1 = clampN k := ⟨_, rfl⟩
    have lv1 : v1 < 115792089237316195423570985008687907853269984665640564039457584007913129639936 := by rw [ev1]; exact clampN_lt _
    have C_ladder_X_k_u : ∀ w', Below wc.heap.size wc w' → Calls Tryd.prog 29 [.agg (numA k), .agg (numA u)].toArray w' fun e w2 => e = .returned (.agg (numA r)) ∧ Below wc.heap.size wc w2 := fun w' hb => by rw [ER.out]; exact (X_any k u w' lk lu (PrimeAt.below HPW hb)).mono fun e w2 hh => ⟨hh.1, hb.trans (hh.2.mono hb.size)⟩
    have C_ladder_Clamp_k : ∀ w', Below wc.heap.size wc w' → Calls Tryd.prog 30 [.agg (numA k)].toArray w' fun e w2 => e = .returned (.agg (numA v1)) ∧ Below wc.heap.size wc w2 := fun w' hb => by rw [ev1]; exact (Clamp_any k w' lk).mono fun e w2 hh => ⟨hh.1, hb.trans (hh.2.mono hb.size)⟩
    have C_signetringref02_Clamp_k : ∀ w', Below wc.heap.size wc w' → Calls Tryd.prog 31 [.agg (numA k)].toArray w' fun e w2 => e = .returned (.agg (numA v1)) ∧ Below wc.heap.size wc w2 := fun w' hb => by rw [ev1]; exact (rClamp_any k w' lk).mono fun e w2 hh => ⟨hh.1, hb.trans (hh.2.mono hb.size)⟩
    refine wp_region_quiet (C := fun w' => Below wc.heap.size wc w') (by kernel_rfl) (by kernel_rfl) (Below.drew (Below.refl _ _)) ?_
    refine q_load (by kernel_rfl) 22 _ (w.heap.size) 22 (numA k) (0, 0) _ rfl (by kernel_rfl) (fun w' hb => At.under Fk hb) Tryd.underlying22 rfl (by rw [numA_size]; kernel_rfl) ?_
    simp only [Act.put, List.setIfInBounds_toArray, List.set_cons_succ, List.set_cons_zero]
    refine q_load (by kernel_rfl) 22 _ (w.heap.size + 1) 22 (numA u) (0, 0) _ rfl (by kernel_rfl) (fun w' hb => At.under Fu hb) Tryd.underlying22 rfl (by rw [numA_size]; kernel_rfl) ?_
    simp only [Act.put, List.setIfInBounds_toArray, List.set_cons_succ, List.set_cons_zero]
    refine q_call (by kernel_rfl) 29 Tryd.f29 _ _ _ [.agg (numA k), .agg (numA u)] (.agg (numA r)) rfl (by kernel_rfl) Tryd.func29 (by kernel_rfl) rfl C_ladder_X_k_u ?_
    simp only [Act.put, List.setIfInBounds_toArray, List.set_cons_succ, List.set_cons_zero]
    refine q_load (by kernel_rfl) 22 _ (g5) 22 (numA r) (0, 0) _ rfl (by kernel_rfl) (fun w' hb => At.under Fr hb) Tryd.underlying22 rfl (by rw [numA_size]; kernel_rfl) ?_
    simp only [Act.put, List.setIfInBounds_toArray, List.set_cons_succ, List.set_cons_zero]
    refine q_val (by kernel_rfl) (.bool true) (fun w' => (run_eql_num (t := 22) (e := 5) r r rfl (by kernel_rfl) (by kernel_rfl) lr lr Tryd.underlying22 Tryd.underlying5 sz5 ag5 eqG w').trans (by rw [show decide (r = r) = true from decide_eq_true rfl])) ?_
    simp only [Act.put, List.setIfInBounds_toArray, List.set_cons_succ, List.set_cons_zero]
    refine q_val (by kernel_rfl) (.bool true) (fun w' => by kernel_rfl) ?_
    simp only [Act.put, List.setIfInBounds_toArray, List.set_cons_succ, List.set_cons_zero]
    refine q_load (by kernel_rfl) 22 _ (g6) 22 (numA r) (0, 0) _ rfl (by kernel_rfl) (fun w' hb => At.under Fs hb) Tryd.underlying22 rfl (by rw [numA_size]; kernel_rfl) ?_
    simp only [Act.put, List.setIfInBounds_toArray, List.set_cons_succ, List.set_cons_zero]
    refine q_load (by kernel_rfl) 22 _ (g5) 22 (numA r) (0, 0) _ rfl (by kernel_rfl) (fun w' hb => At.under Fr hb) Tryd.underlying22 rfl (by rw [numA_size]; kernel_rfl) ?_
    simp only [Act.put, List.setIfInBounds_toArray, List.set_cons_succ, List.set_cons_zero]
    refine q_val (by kernel_rfl) (.bool true) (fun w' => (run_eql_num (t := 22) (e := 5) r r rfl (by kernel_rfl) (by kernel_rfl) lr lr Tryd.underlying22 Tryd.underlying5 sz5 ag5 eqG w').trans (by rw [show decide (r = r) = true from decide_eq_true rfl])) ?_
    simp only [Act.put, List.setIfInBounds_toArray, List.set_cons_succ, List.set_cons_zero]
    refine q_val (by kernel_rfl) (.bool true) (fun w' => by kernel_rfl) ?_
    simp only [Act.put, List.setIfInBounds_toArray, List.set_cons_succ, List.set_cons_zero]
    refine q_val (by kernel_rfl) (.bool true) (fun w' => by kernel_rfl) ?_
    simp only [Act.put, List.setIfInBounds_toArray, List.set_cons_succ, List.set_cons_zero]
    refine q_val (by kernel_rfl) (.bool false) (fun w' => by kernel_rfl) ?_
    simp only [Act.put, List.setIfInBounds_toArray, List.set_cons_succ, List.set_cons_zero]
    refine q_load (by kernel_rfl) 22 _ (g5) 22 (numA r) (0, 0) _ rfl (by kernel_rfl) (fun w' hb => At.under Fr hb) Tryd.underlying22 rfl (by rw [numA_size]; kernel_rfl) ?_
    simp only [Act.put, List.setIfInBounds_toArray, List.set_cons_succ, List.set_cons_zero]
    refine q_val (by kernel_rfl) (.agg (numA 0)) (fun w' => by kernel_rfl) ?_
    simp only [Act.put, List.setIfInBounds_toArray, List.set_cons_succ, List.set_cons_zero]
    refine q_val (by kernel_rfl) (.bool false) (fun w' => (run_neq_num (t := 22) (e := 5) r 0 rfl (by kernel_rfl) (by kernel_rfl) lr (by decide) Tryd.underlying22 Tryd.underlying5 sz5 ag5 eqG w').trans (by rw [show decide (r = 0) = true from decide_eq_true ZR.out]; rfl)) ?_
    simp only [Act.put, List.setIfInBounds_toArray, List.set_cons_succ, List.set_cons_zero]
    refine q_val (by kernel_rfl) (.bool true) (fun w' => by kernel_rfl) ?_
    simp only [Act.put, List.setIfInBounds_toArray, List.set_cons_succ, List.set_cons_zero]
    refine q_val (by kernel_rfl) (.bool true) (fun w' => by kernel_rfl) ?_
    simp only [Act.put, List.setIfInBounds_toArray, List.set_cons_succ, List.set_cons_zero]
    refine q_val (by kernel_rfl) (.bool true) (fun w' => by kernel_rfl) ?_
    simp only [Act.put, List.setIfInBounds_toArray, List.set_cons_succ, List.set_cons_zero]
    refine q_load (by kernel_rfl) 22 _ (w.heap.size) 22 (numA k) (0, 0) _ rfl (by kernel_rfl) (fun w' hb => At.under Fk hb) Tryd.underlying22 rfl (by rw [numA_size]; kernel_rfl) ?_
    simp only [Act.put, List.setIfInBounds_toArray, List.set_cons_succ, List.set_cons_zero]
    refine q_call (by kernel_rfl) 30 Tryd.f30 _ _ _ [.agg (numA k)] (.agg (numA v1)) rfl (by kernel_rfl) Tryd.func30 (by kernel_rfl) rfl C_ladder_Clamp_k ?_
    simp only [Act.put, List.setIfInBounds_toArray, List.set_cons_succ, List.set_cons_zero]
    refine q_load (by kernel_rfl) 22 _ (w.heap.size) 22 (numA k) (0, 0) _ rfl (by kernel_rfl) (fun w' hb => At.under Fk hb) Tryd.underlying22 rfl (by rw [numA_size]; kernel_rfl) ?_
    simp only [Act.put, List.setIfInBounds_toArray, List.set_cons_succ, List.set_cons_zero]
    refine q_call (by kernel_rfl) 31 Tryd.f31 _ _ _ [.agg (numA k)] (.agg (numA v1)) rfl (by kernel_rfl) Tryd.func31 (by kernel_rfl) rfl C_signetringref02_Clamp_k ?_
    simp only [Act.put, List.setIfInBounds_toArray, List.set_cons_succ, List.set_cons_zero]
    refine q_val (by kernel_rfl) (.bool true) (fun w' => (run_eql_num (t := 22) (e := 5) v1 v1 rfl (by kernel_rfl) (by kernel_rfl) lv1 lv1 Tryd.underlying22 Tryd.underlying5 sz5 ag5 eqG w').trans (by rw [show decide (v1 = v1) = true from decide_eq_true rfl])) ?_
    simp only [Act.put, List.setIfInBounds_toArray, List.set_cons_succ, List.set_cons_zero]
    refine q_val (by kernel_rfl) (.bool true) (fun w' => by kernel_rfl) ?_
    simp only [Act.put, List.setIfInBounds_toArray, List.set_cons_succ, List.set_cons_zero]
    refine q_val (by kernel_rfl) (.bool true) (fun w' => by kernel_rfl) ?_
    simp only [Act.put, List.setIfInBounds_toArray, List.set_cons_succ, List.set_cons_zero]
    refine wpQuiet_nil ?_
    intro w7 h7
    have H7 : Kept _ := ⟨h7⟩
    clear h7 Fk Fu Fr Fs HPW lk lu lr C_ladder_X_k_u C_ladder_Clamp_k C_signetringref02_Clamp_k ev1 lv1
    go_wp2_with fail
    go_ret
    exact ⟨rfl, HQ.out.trans (Below.mono H7.out HQ.out.size)⟩
  · have ZR : Kept (¬ r = 0) := ⟨zr⟩
    have ZB : Kept ((!decide (r % 57896044618658097711785492504343953926634992332820282019728792003956564819949 = 0)) = true) := ⟨by rw [LP.out, decide_eq_false zr]; rfl⟩
    clear zr
    have hc := Shared_any k u w3 LK.out LU.out (PrimeAt.below HP.out QB3)
    rw [← ER.out, show (!decide (r % 57896044618658097711785492504343953926634992332820282019728792003956564819949 = 0)) = true from ZB.out] at hc
    refine hc.mono ?_
    clear hc
    rintro e w4 ⟨rfl, hb4⟩
    have Fk4 := Fk.under hb4
    have Fu4 := Fu.under hb4
    have Fr4 := Fr.under hb4
    have QB4 := QB3.trans (hb4.mono QB3.size)
    clear Fk Fu Fr QB3 hb4
    go_wp2_with (first | (refine wpList_put rfl (.tmp 6) (.tmp 17) rfl _ r rfl rfl (room_top _ _ rfl) ?_))
    intro w5 Fs P5
    have Fk := P5.at (Fk4.alloc _) (Nat.ne_of_lt Fk4.lt)
    have Fu := P5.at (Fu4.alloc _) (Nat.ne_of_lt Fu4.lt)
    have Fr := P5.at (Fr4.alloc _) (Nat.ne_of_lt Fr4.lt)
    have QB5 : Below w.heap.size w w5 := (QB4.alloc QB4.size _).trans (P5.below QB4.size)
    have HQ : Kept _ := ⟨QB5⟩
    have HPW := PrimeAt.below HP.out QB5
    clear P5 Fk4 Fu4 Fr4 QB4 QB5
    generalize w4.heap.size = g6 at *
    go_wp2_with fail
    have lk := LK.out
    have lu := LU.out
    have lr := LR.out
    generalize w5 = wc at *
    obtain ⟨v1, ev1⟩ : ∃ v1, v1 = clampN k := ⟨_, rfl⟩
    have lv1 : v1 < 115792089237316195423570985008687907853269984665640564039457584007913129639936 := by rw [ev1]; exact clampN_lt _
    have C_ladder_X_k_u : ∀ w', Below wc.heap.size wc w' → Calls Tryd.prog 29 [.agg (numA k), .agg (numA u)].toArray w' fun e w2 => e = .returned (.agg (numA r)) ∧ Below wc.heap.size wc w2 := fun w' hb => by rw [ER.out]; exact (X_any k u w' lk lu (PrimeAt.below HPW hb)).mono fun e w2 hh => ⟨hh.1, hb.trans (hh.2.mono hb.size)⟩
    have C_ladder_Clamp_k : ∀ w', Below wc.heap.size wc w' → Calls Tryd.prog 30 [.agg (numA k)].toArray w' fun e w2 => e = .returned (.agg (numA v1)) ∧ Below wc.heap.size wc w2 := fun w' hb => by rw [ev1]; exact (Clamp_any k w' lk).mono fun e w2 hh => ⟨hh.1, hb.trans (hh.2.mono hb.size)⟩
    have C_signetringref02_Clamp_k : ∀ w', Below wc.heap.size wc w' → Calls Tryd.prog 31 [.agg (numA k)].toArray w' fun e w2 => e = .returned (.agg (numA v1)) ∧ Below wc.heap.size wc w2 := fun w' hb => by rw [ev1]; exact (rClamp_any k w' lk).mono fun e w2 hh => ⟨hh.1, hb.trans (hh.2.mono hb.size)⟩
    refine wp_region_quiet (C := fun w' => Below wc.heap.size wc w') (by kernel_rfl) (by kernel_rfl) (Below.drew (Below.refl _ _)) ?_
    refine q_load (by kernel_rfl) 22 _ (w.heap.size) 22 (numA k) (0, 0) _ rfl (by kernel_rfl) (fun w' hb => At.under Fk hb) Tryd.underlying22 rfl (by rw [numA_size]; kernel_rfl) ?_
    simp only [Act.put, List.setIfInBounds_toArray, List.set_cons_succ, List.set_cons_zero]
    refine q_load (by kernel_rfl) 22 _ (w.heap.size + 1) 22 (numA u) (0, 0) _ rfl (by kernel_rfl) (fun w' hb => At.under Fu hb) Tryd.underlying22 rfl (by rw [numA_size]; kernel_rfl) ?_
    simp only [Act.put, List.setIfInBounds_toArray, List.set_cons_succ, List.set_cons_zero]
    refine q_call (by kernel_rfl) 29 Tryd.f29 _ _ _ [.agg (numA k), .agg (numA u)] (.agg (numA r)) rfl (by kernel_rfl) Tryd.func29 (by kernel_rfl) rfl C_ladder_X_k_u ?_
    simp only [Act.put, List.setIfInBounds_toArray, List.set_cons_succ, List.set_cons_zero]
    refine q_load (by kernel_rfl) 22 _ (g5) 22 (numA r) (0, 0) _ rfl (by kernel_rfl) (fun w' hb => At.under Fr hb) Tryd.underlying22 rfl (by rw [numA_size]; kernel_rfl) ?_
    simp only [Act.put, List.setIfInBounds_toArray, List.set_cons_succ, List.set_cons_zero]
    refine q_val (by kernel_rfl) (.bool true) (fun w' => (run_eql_num (t := 22) (e := 5) r r rfl (by kernel_rfl) (by kernel_rfl) lr lr Tryd.underlying22 Tryd.underlying5 sz5 ag5 eqG w').trans (by rw [show decide (r = r) = true from decide_eq_true rfl])) ?_
    simp only [Act.put, List.setIfInBounds_toArray, List.set_cons_succ, List.set_cons_zero]
    refine q_val (by kernel_rfl) (.bool true) (fun w' => by kernel_rfl) ?_
    simp only [Act.put, List.setIfInBounds_toArray, List.set_cons_succ, List.set_cons_zero]
    refine q_load (by kernel_rfl) 22 _ (g6) 22 (numA r) (0, 0) _ rfl (by kernel_rfl) (fun w' hb => At.under Fs hb) Tryd.underlying22 rfl (by rw [numA_size]; kernel_rfl) ?_
    simp only [Act.put, List.setIfInBounds_toArray, List.set_cons_succ, List.set_cons_zero]
    refine q_load (by kernel_rfl) 22 _ (g5) 22 (numA r) (0, 0) _ rfl (by kernel_rfl) (fun w' hb => At.under Fr hb) Tryd.underlying22 rfl (by rw [numA_size]; kernel_rfl) ?_
    simp only [Act.put, List.setIfInBounds_toArray, List.set_cons_succ, List.set_cons_zero]
    refine q_val (by kernel_rfl) (.bool true) (fun w' => (run_eql_num (t := 22) (e := 5) r r rfl (by kernel_rfl) (by kernel_rfl) lr lr Tryd.underlying22 Tryd.underlying5 sz5 ag5 eqG w').trans (by rw [show decide (r = r) = true from decide_eq_true rfl])) ?_
    simp only [Act.put, List.setIfInBounds_toArray, List.set_cons_succ, List.set_cons_zero]
    refine q_val (by kernel_rfl) (.bool true) (fun w' => by kernel_rfl) ?_
    simp only [Act.put, List.setIfInBounds_toArray, List.set_cons_succ, List.set_cons_zero]
    refine q_val (by kernel_rfl) (.bool true) (fun w' => by kernel_rfl) ?_
    simp only [Act.put, List.setIfInBounds_toArray, List.set_cons_succ, List.set_cons_zero]
    refine q_val (by kernel_rfl) (.bool true) (fun w' => by kernel_rfl) ?_
    simp only [Act.put, List.setIfInBounds_toArray, List.set_cons_succ, List.set_cons_zero]
    refine q_load (by kernel_rfl) 22 _ (g5) 22 (numA r) (0, 0) _ rfl (by kernel_rfl) (fun w' hb => At.under Fr hb) Tryd.underlying22 rfl (by rw [numA_size]; kernel_rfl) ?_
    simp only [Act.put, List.setIfInBounds_toArray, List.set_cons_succ, List.set_cons_zero]
    refine q_val (by kernel_rfl) (.agg (numA 0)) (fun w' => by kernel_rfl) ?_
    simp only [Act.put, List.setIfInBounds_toArray, List.set_cons_succ, List.set_cons_zero]
    refine q_val (by kernel_rfl) (.bool true) (fun w' => (run_neq_num (t := 22) (e := 5) r 0 rfl (by kernel_rfl) (by kernel_rfl) lr (by decide) Tryd.underlying22 Tryd.underlying5 sz5 ag5 eqG w').trans (by rw [show decide (r = 0) = false from decide_eq_false ZR.out]; rfl)) ?_
    simp only [Act.put, List.setIfInBounds_toArray, List.set_cons_succ, List.set_cons_zero]
    refine q_val (by kernel_rfl) (.bool true) (fun w' => by kernel_rfl) ?_
    simp only [Act.put, List.setIfInBounds_toArray, List.set_cons_succ, List.set_cons_zero]
    refine q_val (by kernel_rfl) (.bool true) (fun w' => by kernel_rfl) ?_
    simp only [Act.put, List.setIfInBounds_toArray, List.set_cons_succ, List.set_cons_zero]
    refine q_val (by kernel_rfl) (.bool true) (fun w' => by kernel_rfl) ?_
    simp only [Act.put, List.setIfInBounds_toArray, List.set_cons_succ, List.set_cons_zero]
    refine q_load (by kernel_rfl) 22 _ (w.heap.size) 22 (numA k) (0, 0) _ rfl (by kernel_rfl) (fun w' hb => At.under Fk hb) Tryd.underlying22 rfl (by rw [numA_size]; kernel_rfl) ?_
    simp only [Act.put, List.setIfInBounds_toArray, List.set_cons_succ, List.set_cons_zero]
    refine q_call (by kernel_rfl) 30 Tryd.f30 _ _ _ [.agg (numA k)] (.agg (numA v1)) rfl (by kernel_rfl) Tryd.func30 (by kernel_rfl) rfl C_ladder_Clamp_k ?_
    simp only [Act.put, List.setIfInBounds_toArray, List.set_cons_succ, List.set_cons_zero]
    refine q_load (by kernel_rfl) 22 _ (w.heap.size) 22 (numA k) (0, 0) _ rfl (by kernel_rfl) (fun w' hb => At.under Fk hb) Tryd.underlying22 rfl (by rw [numA_size]; kernel_rfl) ?_
    simp only [Act.put, List.setIfInBounds_toArray, List.set_cons_succ, List.set_cons_zero]
    refine q_call (by kernel_rfl) 31 Tryd.f31 _ _ _ [.agg (numA k)] (.agg (numA v1)) rfl (by kernel_rfl) Tryd.func31 (by kernel_rfl) rfl C_signetringref02_Clamp_k ?_
    simp only [Act.put, List.setIfInBounds_toArray, List.set_cons_succ, List.set_cons_zero]
    refine q_val (by kernel_rfl) (.bool true) (fun w' => (run_eql_num (t := 22) (e := 5) v1 v1 rfl (by kernel_rfl) (by kernel_rfl) lv1 lv1 Tryd.underlying22 Tryd.underlying5 sz5 ag5 eqG w').trans (by rw [show decide (v1 = v1) = true from decide_eq_true rfl])) ?_
    simp only [Act.put, List.setIfInBounds_toArray, List.set_cons_succ, List.set_cons_zero]
    refine q_val (by kernel_rfl) (.bool true) (fun w' => by kernel_rfl) ?_
    simp only [Act.put, List.setIfInBounds_toArray, List.set_cons_succ, List.set_cons_zero]
    refine q_val (by kernel_rfl) (.bool true) (fun w' => by kernel_rfl) ?_
    simp only [Act.put, List.setIfInBounds_toArray, List.set_cons_succ, List.set_cons_zero]
    refine wpQuiet_nil ?_
    intro w7 h7
    have H7 : Kept _ := ⟨h7⟩
    clear h7 Fk Fu Fr Fs HPW lk lu lr C_ladder_X_k_u C_ladder_Clamp_k C_signetringref02_Clamp_k ev1 lv1
    go_wp2_with fail
    go_ret
    exact ⟨rfl, HQ.out.trans (Below.mono H7.out HQ.out.size)⟩
end Go.Proofs.YtjagicnkfmndeaaDoor
