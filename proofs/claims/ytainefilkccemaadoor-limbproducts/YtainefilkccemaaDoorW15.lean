/-
  What LimbProducts answers: true, whatever two numbers are.
-/
import Derived.Test.YtainefilkccemaaDoorW13
import Derived.Test.YtainefilkccemaaDoorPrime
namespace Go.Proofs.YtainefilkccemaaDoor
open Go.RowKit
set_option linter.unusedSimpArgs false
set_option linter.unusedVariables false

set_option maxHeartbeats 4000000 in
theorem products_any (a b : Nat) (w : World) (la : a < 115792089237316195423570985008687907853269984665640564039457584007913129639936) (lb : b < 115792089237316195423570985008687907853269984665640564039457584007913129639936) (hp : PrimeAt w) :
    Calls Tryd.prog 7 #[.agg (numA a), .agg (numA b)] w fun e w' => e = .returned (.bool true) ∧ Below w.heap.size w w' := by
  have LA := hide la
  have LB := hide lb
  have HP := hide hp
  clear la lb hp
  go_enter Tryd.func7, Tryd.ntmps7
  go_wp2_with fail
  have QX : Below w.heap.size w ((w.alloc (.cells (numA a) 22)).alloc (.cells (numA b) 22)) := by (repeat (first | with_reducible exact Below.refl _ _ | with_reducible assumption | with_reducible refine Below.drew ?_ | (with_reducible refine Below.alloc ?_ ?hB _; (case hB => first | omega | (simp <;> omega)))))
  refine (alive_any _ (PrimeAt.below HP.out QX)).mono ?_
  rintro e w1 ⟨rfl, hb1⟩
  obtain ⟨W0, hW⟩ : ∃ W0, W0 = ((w.alloc (.cells (numA a) 22)).alloc (.cells (numA b) 22)) := ⟨_, rfl⟩
  rw [← hW] at hb1 QX
  have hsz : W0.heap.size = w.heap.size + 2 := by rw [hW]; simp
  have HPP := hide (PrimeAt.below HP.out QX)
  have GA : Hid (∀ w', Below W0.heap.size W0 w' → w'.heap[w.heap.size]? = some (.cells (numA a) 22 (0, 0))) := fun w' hb => by
    rw [hb.block _ (by omega), hW]; exact heap_alloc2_old _ _ _
  have GB : Hid (∀ w', Below W0.heap.size W0 w' → w'.heap[w.heap.size + 1]? = some (.cells (numA b) 22 (0, 0))) := fun w' hb => by
    rw [hb.block _ (by omega), hW]; exact heap_alloc2_new _ _ _
  have H1 := hide hb1
  have HS := hide hsz
  have HQ := hide QX
  clear hb1 hsz QX hW
  go_wp2_with fail
  by_cases za : a % 57896044618658097711785492504343953926634992332820282019728792003956564819949 = 0
  · by_cases zb : b % 57896044618658097711785492504343953926634992332820282019728792003956564819949 = 0
    · have Fa := GA.out
      have Fb := GB.out
      have HPW := HPP.out
      have la := LA.out
      have lb := LB.out
      obtain ⟨v1, ev1⟩ : ∃ v1, v1 = a * b % 57896044618658097711785492504343953926634992332820282019728792003956564819949 := ⟨_, rfl⟩
      have lv1 : v1 < 115792089237316195423570985008687907853269984665640564039457584007913129639936 := by rw [ev1]; exact Nat.lt_trans (Nat.mod_lt _ (by decide)) (by decide)
      have Cv1 : ∀ w', Below W0.heap.size W0 w' → Calls Tryd.prog 19 [.agg (numA a), .agg (numA b)].toArray w' fun e w2 => e = .returned (.agg (numA v1)) ∧ Below W0.heap.size W0 w2 := fun w' hb => by rw [ev1]; exact (Mul_any a b w' la lb).mono fun e w2 hh => ⟨hh.1, hb.trans (hh.2.mono hb.size)⟩
      obtain ⟨v2, ev2⟩ : ∃ v2, v2 = decide (v1 % 57896044618658097711785492504343953926634992332820282019728792003956564819949 = 0) := ⟨_, rfl⟩
      have Cv2 : ∀ w', Below W0.heap.size W0 w' → Calls Tryd.prog 21 [.agg (numA v1)].toArray w' fun e w2 => e = .returned (.bool v2) ∧ Below W0.heap.size W0 w2 := fun w' hb => by rw [ev2]; exact (Zero_any v1 w' lv1).mono fun e w2 hh => ⟨hh.1, hb.trans (hh.2.mono hb.size)⟩
      obtain ⟨v3, ev3⟩ : ∃ v3, v3 = decide (a % 57896044618658097711785492504343953926634992332820282019728792003956564819949 = 0) := ⟨_, rfl⟩
      have Cv3 : ∀ w', Below W0.heap.size W0 w' → Calls Tryd.prog 21 [.agg (numA a)].toArray w' fun e w2 => e = .returned (.bool v3) ∧ Below W0.heap.size W0 w2 := fun w' hb => by rw [ev3]; exact (Zero_any a w' la).mono fun e w2 hh => ⟨hh.1, hb.trans (hh.2.mono hb.size)⟩
      obtain ⟨v4, ev4⟩ : ∃ v4, v4 = invOf v1 := ⟨_, rfl⟩
      have lv4 : v4 < 115792089237316195423570985008687907853269984665640564039457584007913129639936 := by rw [ev4]; exact invOf_lt _
      have Cv4 : ∀ w', Below W0.heap.size W0 w' → Calls Tryd.prog 22 [.agg (numA v1)].toArray w' fun e w2 => e = .returned (.agg (numA v4)) ∧ Below W0.heap.size W0 w2 := fun w' hb => by rw [ev4]; exact (Inv_any v1 w' lv1 (PrimeAt.below HPW hb)).mono fun e w2 hh => ⟨hh.1, hb.trans (hh.2.mono hb.size)⟩
      obtain ⟨v5, ev5⟩ : ∃ v5, v5 = invOf a := ⟨_, rfl⟩
      have lv5 : v5 < 115792089237316195423570985008687907853269984665640564039457584007913129639936 := by rw [ev5]; exact invOf_lt _
      have Cv5 : ∀ w', Below W0.heap.size W0 w' → Calls Tryd.prog 22 [.agg (numA a)].toArray w' fun e w2 => e = .returned (.agg (numA v5)) ∧ Below W0.heap.size W0 w2 := fun w' hb => by rw [ev5]; exact (Inv_any a w' la (PrimeAt.below HPW hb)).mono fun e w2 hh => ⟨hh.1, hb.trans (hh.2.mono hb.size)⟩
      obtain ⟨v6, ev6⟩ : ∃ v6, v6 = invOf b := ⟨_, rfl⟩
      have lv6 : v6 < 115792089237316195423570985008687907853269984665640564039457584007913129639936 := by rw [ev6]; exact invOf_lt _
      have Cv6 : ∀ w', Below W0.heap.size W0 w' → Calls Tryd.prog 22 [.agg (numA b)].toArray w' fun e w2 => e = .returned (.agg (numA v6)) ∧ Below W0.heap.size W0 w2 := fun w' hb => by rw [ev6]; exact (Inv_any b w' lb (PrimeAt.below HPW hb)).mono fun e w2 hh => ⟨hh.1, hb.trans (hh.2.mono hb.size)⟩
      obtain ⟨v7, ev7⟩ : ∃ v7, v7 = v5 * v6 % 57896044618658097711785492504343953926634992332820282019728792003956564819949 := ⟨_, rfl⟩
      have lv7 : v7 < 115792089237316195423570985008687907853269984665640564039457584007913129639936 := by rw [ev7]; exact Nat.lt_trans (Nat.mod_lt _ (by decide)) (by decide)
      have Cv7 : ∀ w', Below W0.heap.size W0 w' → Calls Tryd.prog 19 [.agg (numA v5), .agg (numA v6)].toArray w' fun e w2 => e = .returned (.agg (numA v7)) ∧ Below W0.heap.size W0 w2 := fun w' hb => by rw [ev7]; exact (Mul_any v5 v6 w' lv5 lv6).mono fun e w2 hh => ⟨hh.1, hb.trans (hh.2.mono hb.size)⟩
      obtain ⟨v8, ev8⟩ : ∃ v8, v8 = invOf v5 := ⟨_, rfl⟩
      have lv8 : v8 < 115792089237316195423570985008687907853269984665640564039457584007913129639936 := by rw [ev8]; exact invOf_lt _
      have Cv8 : ∀ w', Below W0.heap.size W0 w' → Calls Tryd.prog 22 [.agg (numA v5)].toArray w' fun e w2 => e = .returned (.agg (numA v8)) ∧ Below W0.heap.size W0 w2 := fun w' hb => by rw [ev8]; exact (Inv_any v5 w' lv5 (PrimeAt.below HPW hb)).mono fun e w2 hh => ⟨hh.1, hb.trans (hh.2.mono hb.size)⟩
      obtain ⟨v9, ev9⟩ : ∃ v9, v9 = a % 57896044618658097711785492504343953926634992332820282019728792003956564819949 := ⟨_, rfl⟩
      have lv9 : v9 < 115792089237316195423570985008687907853269984665640564039457584007913129639936 := by rw [ev9]; exact Nat.lt_trans (Nat.mod_lt _ (by decide)) (by decide)
      have Cv9 : ∀ w', Below W0.heap.size W0 w' → Calls Tryd.prog 13 [.agg (numA a)].toArray w' fun e w2 => e = .returned (.agg (numA v9)) ∧ Below W0.heap.size W0 w2 := fun w' hb => by rw [ev9]; exact (Reduce_any a w' la).mono fun e w2 hh => ⟨hh.1, hb.trans (hh.2.mono hb.size)⟩
      have zv2 : v2 = true := by rw [ev2]; exact by rw [ev1, zero_product prime_p a b]; simp [za, zb]
      have zv3 : v3 = true := by rw [ev3]; exact decide_eq_true za
      refine wp_region_quiet (C := fun w' => Below W0.heap.size W0 w') (by kernel_rfl) (by kernel_rfl) (Below.trans H1.out ⟨rfl, rfl, rfl, Nat.le_refl _, fun _ _ => rfl⟩) ?_
      refine q_load (by kernel_rfl) 22 _ (w.heap.size) 22 (numA a) (0, 0) _ rfl (by kernel_rfl) Fa Tryd.underlying22 rfl (by rw [numA_size]; kernel_rfl) ?_
      simp only [Act.put, List.setIfInBounds_toArray, List.set_cons_succ, List.set_cons_zero]
      refine q_load (by kernel_rfl) 22 _ (w.heap.size + 1) 22 (numA b) (0, 0) _ rfl (by kernel_rfl) Fb Tryd.underlying22 rfl (by rw [numA_size]; kernel_rfl) ?_
      simp only [Act.put, List.setIfInBounds_toArray, List.set_cons_succ, List.set_cons_zero]
      refine q_call (by kernel_rfl) 19 Tryd.f19 _ _ _ [.agg (numA a), .agg (numA b)] (.agg (numA v1)) rfl (by kernel_rfl) Tryd.func19 (by kernel_rfl) rfl Cv1 ?_
      simp only [Act.put, List.setIfInBounds_toArray, List.set_cons_succ, List.set_cons_zero]
      refine q_call (by kernel_rfl) 21 Tryd.f21 _ _ _ [.agg (numA v1)] (.bool true) rfl (by kernel_rfl) Tryd.func21 (by kernel_rfl) rfl (by rw [← zv2]; exact Cv2) ?_
      simp only [Act.put, List.setIfInBounds_toArray, List.set_cons_succ, List.set_cons_zero]
      refine q_load (by kernel_rfl) 22 _ (w.heap.size) 22 (numA a) (0, 0) _ rfl (by kernel_rfl) Fa Tryd.underlying22 rfl (by rw [numA_size]; kernel_rfl) ?_
      simp only [Act.put, List.setIfInBounds_toArray, List.set_cons_succ, List.set_cons_zero]
      refine q_call (by kernel_rfl) 21 Tryd.f21 _ _ _ [.agg (numA a)] (.bool true) rfl (by kernel_rfl) Tryd.func21 (by kernel_rfl) rfl (by rw [← zv3]; exact Cv3) ?_
      simp only [Act.put, List.setIfInBounds_toArray, List.set_cons_succ, List.set_cons_zero]
      refine q_val (by kernel_rfl) (.bool true) (fun w' => by kernel_rfl) ?_
      simp only [Act.put, List.setIfInBounds_toArray, List.set_cons_succ, List.set_cons_zero]
      refine BigFrame.wpQuiet_skip (by kernel_rfl) ?_
      simp only [Act.put, List.setIfInBounds_toArray, List.set_cons_succ, List.set_cons_zero]
      refine BigFrame.wpQuiet_skip (by kernel_rfl) ?_
      simp only [Act.put, List.setIfInBounds_toArray, List.set_cons_succ, List.set_cons_zero]
      refine q_val (by kernel_rfl) (.bool true) (fun w' => by kernel_rfl) ?_
      simp only [Act.put, List.setIfInBounds_toArray, List.set_cons_succ, List.set_cons_zero]
      refine q_val (by kernel_rfl) (.bool true) (fun w' => by kernel_rfl) ?_
      simp only [Act.put, List.setIfInBounds_toArray, List.set_cons_succ, List.set_cons_zero]
      refine q_val (by kernel_rfl) (.bool true) (fun w' => by kernel_rfl) ?_
      simp only [Act.put, List.setIfInBounds_toArray, List.set_cons_succ, List.set_cons_zero]
      refine q_load (by kernel_rfl) 22 _ (w.heap.size) 22 (numA a) (0, 0) _ rfl (by kernel_rfl) Fa Tryd.underlying22 rfl (by rw [numA_size]; kernel_rfl) ?_
      simp only [Act.put, List.setIfInBounds_toArray, List.set_cons_succ, List.set_cons_zero]
      refine q_load (by kernel_rfl) 22 _ (w.heap.size + 1) 22 (numA b) (0, 0) _ rfl (by kernel_rfl) Fb Tryd.underlying22 rfl (by rw [numA_size]; kernel_rfl) ?_
      simp only [Act.put, List.setIfInBounds_toArray, List.set_cons_succ, List.set_cons_zero]
      refine q_call (by kernel_rfl) 19 Tryd.f19 _ _ _ [.agg (numA a), .agg (numA b)] (.agg (numA v1)) rfl (by kernel_rfl) Tryd.func19 (by kernel_rfl) rfl Cv1 ?_
      simp only [Act.put, List.setIfInBounds_toArray, List.set_cons_succ, List.set_cons_zero]
      refine q_call (by kernel_rfl) 22 Tryd.f22 _ _ _ [.agg (numA v1)] (.agg (numA v4)) rfl (by kernel_rfl) Tryd.func22 (by kernel_rfl) rfl Cv4 ?_
      simp only [Act.put, List.setIfInBounds_toArray, List.set_cons_succ, List.set_cons_zero]
      refine q_load (by kernel_rfl) 22 _ (w.heap.size) 22 (numA a) (0, 0) _ rfl (by kernel_rfl) Fa Tryd.underlying22 rfl (by rw [numA_size]; kernel_rfl) ?_
      simp only [Act.put, List.setIfInBounds_toArray, List.set_cons_succ, List.set_cons_zero]
      refine q_call (by kernel_rfl) 22 Tryd.f22 _ _ _ [.agg (numA a)] (.agg (numA v5)) rfl (by kernel_rfl) Tryd.func22 (by kernel_rfl) rfl Cv5 ?_
      simp only [Act.put, List.setIfInBounds_toArray, List.set_cons_succ, List.set_cons_zero]
      refine q_load (by kernel_rfl) 22 _ (w.heap.size + 1) 22 (numA b) (0, 0) _ rfl (by kernel_rfl) Fb Tryd.underlying22 rfl (by rw [numA_size]; kernel_rfl) ?_
      simp only [Act.put, List.setIfInBounds_toArray, List.set_cons_succ, List.set_cons_zero]
      refine q_call (by kernel_rfl) 22 Tryd.f22 _ _ _ [.agg (numA b)] (.agg (numA v6)) rfl (by kernel_rfl) Tryd.func22 (by kernel_rfl) rfl Cv6 ?_
      simp only [Act.put, List.setIfInBounds_toArray, List.set_cons_succ, List.set_cons_zero]
      refine q_call (by kernel_rfl) 19 Tryd.f19 _ _ _ [.agg (numA v5), .agg (numA v6)] (.agg (numA v7)) rfl (by kernel_rfl) Tryd.func19 (by kernel_rfl) rfl Cv7 ?_
      simp only [Act.put, List.setIfInBounds_toArray, List.set_cons_succ, List.set_cons_zero]
      refine q_val (by kernel_rfl) (.bool true) (fun w' => (run_eql_num (t := 22) (e := 5) v4 v7 rfl (by kernel_rfl) (by kernel_rfl) lv4 lv7 Tryd.underlying22 Tryd.underlying5 sz5 ag5 eqG w').trans (by rw [show decide (v4 = v7) = true from decide_eq_true (by rw [ev4, ev7, ev1, ev5, ev6]; exact inv_mul a b)])) ?_
      simp only [Act.put, List.setIfInBounds_toArray, List.set_cons_succ, List.set_cons_zero]
      refine q_val (by kernel_rfl) (.bool true) (fun w' => by kernel_rfl) ?_
      simp only [Act.put, List.setIfInBounds_toArray, List.set_cons_succ, List.set_cons_zero]
      refine q_val (by kernel_rfl) (.bool true) (fun w' => by kernel_rfl) ?_
      simp only [Act.put, List.setIfInBounds_toArray, List.set_cons_succ, List.set_cons_zero]
      refine q_load (by kernel_rfl) 22 _ (w.heap.size) 22 (numA a) (0, 0) _ rfl (by kernel_rfl) Fa Tryd.underlying22 rfl (by rw [numA_size]; kernel_rfl) ?_
      simp only [Act.put, List.setIfInBounds_toArray, List.set_cons_succ, List.set_cons_zero]
      refine q_call (by kernel_rfl) 22 Tryd.f22 _ _ _ [.agg (numA a)] (.agg (numA v5)) rfl (by kernel_rfl) Tryd.func22 (by kernel_rfl) rfl Cv5 ?_
      simp only [Act.put, List.setIfInBounds_toArray, List.set_cons_succ, List.set_cons_zero]
      refine q_call (by kernel_rfl) 22 Tryd.f22 _ _ _ [.agg (numA v5)] (.agg (numA v8)) rfl (by kernel_rfl) Tryd.func22 (by kernel_rfl) rfl Cv8 ?_
      simp only [Act.put, List.setIfInBounds_toArray, List.set_cons_succ, List.set_cons_zero]
      refine q_load (by kernel_rfl) 22 _ (w.heap.size) 22 (numA a) (0, 0) _ rfl (by kernel_rfl) Fa Tryd.underlying22 rfl (by rw [numA_size]; kernel_rfl) ?_
      simp only [Act.put, List.setIfInBounds_toArray, List.set_cons_succ, List.set_cons_zero]
      refine q_call (by kernel_rfl) 13 Tryd.f13 _ _ _ [.agg (numA a)] (.agg (numA v9)) rfl (by kernel_rfl) Tryd.func13 (by kernel_rfl) rfl Cv9 ?_
      simp only [Act.put, List.setIfInBounds_toArray, List.set_cons_succ, List.set_cons_zero]
      refine q_val (by kernel_rfl) (.bool true) (fun w' => (run_eql_num (t := 22) (e := 5) v8 v9 rfl (by kernel_rfl) (by kernel_rfl) lv8 lv9 Tryd.underlying22 Tryd.underlying5 sz5 ag5 eqG w').trans (by rw [show decide (v8 = v9) = true from decide_eq_true (by rw [ev8, ev9, ev5]; exact inv_back a)])) ?_
      simp only [Act.put, List.setIfInBounds_toArray, List.set_cons_succ, List.set_cons_zero]
      refine q_val (by kernel_rfl) (.bool true) (fun w' => by kernel_rfl) ?_
      simp only [Act.put, List.setIfInBounds_toArray, List.set_cons_succ, List.set_cons_zero]
      refine q_val (by kernel_rfl) (.bool true) (fun w' => by kernel_rfl) ?_
      simp only [Act.put, List.setIfInBounds_toArray, List.set_cons_succ, List.set_cons_zero]
      refine wpQuiet_nil ?_
      intro w2 h20
      have H2 := hide h20
      clear h20 Fa Fb HPW la lb Cv1 Cv2 Cv3 Cv4 Cv5 Cv6 Cv7 Cv8 Cv9 lv1 lv4 lv5 lv6 lv7 lv8 lv9 zv2 zv3 ev1 ev2 ev3 ev4 ev5 ev6 ev7 ev8 ev9
      go_wp2_with fail
      go_ret
      exact ⟨rfl, HQ.out.trans (H2.out.mono (by have := HS.out; omega))⟩
    · have Fa := GA.out
      have Fb := GB.out
      have HPW := HPP.out
      have la := LA.out
      have lb := LB.out
      obtain ⟨v1, ev1⟩ : ∃ v1, v1 = a * b % 57896044618658097711785492504343953926634992332820282019728792003956564819949 := ⟨_, rfl⟩
      have lv1 : v1 < 115792089237316195423570985008687907853269984665640564039457584007913129639936 := by rw [ev1]; exact Nat.lt_trans (Nat.mod_lt _ (by decide)) (by decide)
      have Cv1 : ∀ w', Below W0.heap.size W0 w' → Calls Tryd.prog 19 [.agg (numA a), .agg (numA b)].toArray w' fun e w2 => e = .returned (.agg (numA v1)) ∧ Below W0.heap.size W0 w2 := fun w' hb => by rw [ev1]; exact (Mul_any a b w' la lb).mono fun e w2 hh => ⟨hh.1, hb.trans (hh.2.mono hb.size)⟩
      obtain ⟨v2, ev2⟩ : ∃ v2, v2 = decide (v1 % 57896044618658097711785492504343953926634992332820282019728792003956564819949 = 0) := ⟨_, rfl⟩
      have Cv2 : ∀ w', Below W0.heap.size W0 w' → Calls Tryd.prog 21 [.agg (numA v1)].toArray w' fun e w2 => e = .returned (.bool v2) ∧ Below W0.heap.size W0 w2 := fun w' hb => by rw [ev2]; exact (Zero_any v1 w' lv1).mono fun e w2 hh => ⟨hh.1, hb.trans (hh.2.mono hb.size)⟩
      obtain ⟨v3, ev3⟩ : ∃ v3, v3 = decide (a % 57896044618658097711785492504343953926634992332820282019728792003956564819949 = 0) := ⟨_, rfl⟩
      have Cv3 : ∀ w', Below W0.heap.size W0 w' → Calls Tryd.prog 21 [.agg (numA a)].toArray w' fun e w2 => e = .returned (.bool v3) ∧ Below W0.heap.size W0 w2 := fun w' hb => by rw [ev3]; exact (Zero_any a w' la).mono fun e w2 hh => ⟨hh.1, hb.trans (hh.2.mono hb.size)⟩
      obtain ⟨v4, ev4⟩ : ∃ v4, v4 = invOf v1 := ⟨_, rfl⟩
      have lv4 : v4 < 115792089237316195423570985008687907853269984665640564039457584007913129639936 := by rw [ev4]; exact invOf_lt _
      have Cv4 : ∀ w', Below W0.heap.size W0 w' → Calls Tryd.prog 22 [.agg (numA v1)].toArray w' fun e w2 => e = .returned (.agg (numA v4)) ∧ Below W0.heap.size W0 w2 := fun w' hb => by rw [ev4]; exact (Inv_any v1 w' lv1 (PrimeAt.below HPW hb)).mono fun e w2 hh => ⟨hh.1, hb.trans (hh.2.mono hb.size)⟩
      obtain ⟨v5, ev5⟩ : ∃ v5, v5 = invOf a := ⟨_, rfl⟩
      have lv5 : v5 < 115792089237316195423570985008687907853269984665640564039457584007913129639936 := by rw [ev5]; exact invOf_lt _
      have Cv5 : ∀ w', Below W0.heap.size W0 w' → Calls Tryd.prog 22 [.agg (numA a)].toArray w' fun e w2 => e = .returned (.agg (numA v5)) ∧ Below W0.heap.size W0 w2 := fun w' hb => by rw [ev5]; exact (Inv_any a w' la (PrimeAt.below HPW hb)).mono fun e w2 hh => ⟨hh.1, hb.trans (hh.2.mono hb.size)⟩
      obtain ⟨v6, ev6⟩ : ∃ v6, v6 = invOf b := ⟨_, rfl⟩
      have lv6 : v6 < 115792089237316195423570985008687907853269984665640564039457584007913129639936 := by rw [ev6]; exact invOf_lt _
      have Cv6 : ∀ w', Below W0.heap.size W0 w' → Calls Tryd.prog 22 [.agg (numA b)].toArray w' fun e w2 => e = .returned (.agg (numA v6)) ∧ Below W0.heap.size W0 w2 := fun w' hb => by rw [ev6]; exact (Inv_any b w' lb (PrimeAt.below HPW hb)).mono fun e w2 hh => ⟨hh.1, hb.trans (hh.2.mono hb.size)⟩
      obtain ⟨v7, ev7⟩ : ∃ v7, v7 = v5 * v6 % 57896044618658097711785492504343953926634992332820282019728792003956564819949 := ⟨_, rfl⟩
      have lv7 : v7 < 115792089237316195423570985008687907853269984665640564039457584007913129639936 := by rw [ev7]; exact Nat.lt_trans (Nat.mod_lt _ (by decide)) (by decide)
      have Cv7 : ∀ w', Below W0.heap.size W0 w' → Calls Tryd.prog 19 [.agg (numA v5), .agg (numA v6)].toArray w' fun e w2 => e = .returned (.agg (numA v7)) ∧ Below W0.heap.size W0 w2 := fun w' hb => by rw [ev7]; exact (Mul_any v5 v6 w' lv5 lv6).mono fun e w2 hh => ⟨hh.1, hb.trans (hh.2.mono hb.size)⟩
      obtain ⟨v8, ev8⟩ : ∃ v8, v8 = invOf v5 := ⟨_, rfl⟩
      have lv8 : v8 < 115792089237316195423570985008687907853269984665640564039457584007913129639936 := by rw [ev8]; exact invOf_lt _
      have Cv8 : ∀ w', Below W0.heap.size W0 w' → Calls Tryd.prog 22 [.agg (numA v5)].toArray w' fun e w2 => e = .returned (.agg (numA v8)) ∧ Below W0.heap.size W0 w2 := fun w' hb => by rw [ev8]; exact (Inv_any v5 w' lv5 (PrimeAt.below HPW hb)).mono fun e w2 hh => ⟨hh.1, hb.trans (hh.2.mono hb.size)⟩
      obtain ⟨v9, ev9⟩ : ∃ v9, v9 = a % 57896044618658097711785492504343953926634992332820282019728792003956564819949 := ⟨_, rfl⟩
      have lv9 : v9 < 115792089237316195423570985008687907853269984665640564039457584007913129639936 := by rw [ev9]; exact Nat.lt_trans (Nat.mod_lt _ (by decide)) (by decide)
      have Cv9 : ∀ w', Below W0.heap.size W0 w' → Calls Tryd.prog 13 [.agg (numA a)].toArray w' fun e w2 => e = .returned (.agg (numA v9)) ∧ Below W0.heap.size W0 w2 := fun w' hb => by rw [ev9]; exact (Reduce_any a w' la).mono fun e w2 hh => ⟨hh.1, hb.trans (hh.2.mono hb.size)⟩
      have zv2 : v2 = true := by rw [ev2]; exact by rw [ev1, zero_product prime_p a b]; simp [za, zb]
      have zv3 : v3 = true := by rw [ev3]; exact decide_eq_true za
      refine wp_region_quiet (C := fun w' => Below W0.heap.size W0 w') (by kernel_rfl) (by kernel_rfl) (Below.trans H1.out ⟨rfl, rfl, rfl, Nat.le_refl _, fun _ _ => rfl⟩) ?_
      refine q_load (by kernel_rfl) 22 _ (w.heap.size) 22 (numA a) (0, 0) _ rfl (by kernel_rfl) Fa Tryd.underlying22 rfl (by rw [numA_size]; kernel_rfl) ?_
      simp only [Act.put, List.setIfInBounds_toArray, List.set_cons_succ, List.set_cons_zero]
      refine q_load (by kernel_rfl) 22 _ (w.heap.size + 1) 22 (numA b) (0, 0) _ rfl (by kernel_rfl) Fb Tryd.underlying22 rfl (by rw [numA_size]; kernel_rfl) ?_
      simp only [Act.put, List.setIfInBounds_toArray, List.set_cons_succ, List.set_cons_zero]
      refine q_call (by kernel_rfl) 19 Tryd.f19 _ _ _ [.agg (numA a), .agg (numA b)] (.agg (numA v1)) rfl (by kernel_rfl) Tryd.func19 (by kernel_rfl) rfl Cv1 ?_
      simp only [Act.put, List.setIfInBounds_toArray, List.set_cons_succ, List.set_cons_zero]
      refine q_call (by kernel_rfl) 21 Tryd.f21 _ _ _ [.agg (numA v1)] (.bool true) rfl (by kernel_rfl) Tryd.func21 (by kernel_rfl) rfl (by rw [← zv2]; exact Cv2) ?_
      simp only [Act.put, List.setIfInBounds_toArray, List.set_cons_succ, List.set_cons_zero]
      refine q_load (by kernel_rfl) 22 _ (w.heap.size) 22 (numA a) (0, 0) _ rfl (by kernel_rfl) Fa Tryd.underlying22 rfl (by rw [numA_size]; kernel_rfl) ?_
      simp only [Act.put, List.setIfInBounds_toArray, List.set_cons_succ, List.set_cons_zero]
      refine q_call (by kernel_rfl) 21 Tryd.f21 _ _ _ [.agg (numA a)] (.bool true) rfl (by kernel_rfl) Tryd.func21 (by kernel_rfl) rfl (by rw [← zv3]; exact Cv3) ?_
      simp only [Act.put, List.setIfInBounds_toArray, List.set_cons_succ, List.set_cons_zero]
      refine q_val (by kernel_rfl) (.bool true) (fun w' => by kernel_rfl) ?_
      simp only [Act.put, List.setIfInBounds_toArray, List.set_cons_succ, List.set_cons_zero]
      refine BigFrame.wpQuiet_skip (by kernel_rfl) ?_
      simp only [Act.put, List.setIfInBounds_toArray, List.set_cons_succ, List.set_cons_zero]
      refine BigFrame.wpQuiet_skip (by kernel_rfl) ?_
      simp only [Act.put, List.setIfInBounds_toArray, List.set_cons_succ, List.set_cons_zero]
      refine q_val (by kernel_rfl) (.bool true) (fun w' => by kernel_rfl) ?_
      simp only [Act.put, List.setIfInBounds_toArray, List.set_cons_succ, List.set_cons_zero]
      refine q_val (by kernel_rfl) (.bool true) (fun w' => by kernel_rfl) ?_
      simp only [Act.put, List.setIfInBounds_toArray, List.set_cons_succ, List.set_cons_zero]
      refine q_val (by kernel_rfl) (.bool true) (fun w' => by kernel_rfl) ?_
      simp only [Act.put, List.setIfInBounds_toArray, List.set_cons_succ, List.set_cons_zero]
      refine q_load (by kernel_rfl) 22 _ (w.heap.size) 22 (numA a) (0, 0) _ rfl (by kernel_rfl) Fa Tryd.underlying22 rfl (by rw [numA_size]; kernel_rfl) ?_
      simp only [Act.put, List.setIfInBounds_toArray, List.set_cons_succ, List.set_cons_zero]
      refine q_load (by kernel_rfl) 22 _ (w.heap.size + 1) 22 (numA b) (0, 0) _ rfl (by kernel_rfl) Fb Tryd.underlying22 rfl (by rw [numA_size]; kernel_rfl) ?_
      simp only [Act.put, List.setIfInBounds_toArray, List.set_cons_succ, List.set_cons_zero]
      refine q_call (by kernel_rfl) 19 Tryd.f19 _ _ _ [.agg (numA a), .agg (numA b)] (.agg (numA v1)) rfl (by kernel_rfl) Tryd.func19 (by kernel_rfl) rfl Cv1 ?_
      simp only [Act.put, List.setIfInBounds_toArray, List.set_cons_succ, List.set_cons_zero]
      refine q_call (by kernel_rfl) 22 Tryd.f22 _ _ _ [.agg (numA v1)] (.agg (numA v4)) rfl (by kernel_rfl) Tryd.func22 (by kernel_rfl) rfl Cv4 ?_
      simp only [Act.put, List.setIfInBounds_toArray, List.set_cons_succ, List.set_cons_zero]
      refine q_load (by kernel_rfl) 22 _ (w.heap.size) 22 (numA a) (0, 0) _ rfl (by kernel_rfl) Fa Tryd.underlying22 rfl (by rw [numA_size]; kernel_rfl) ?_
      simp only [Act.put, List.setIfInBounds_toArray, List.set_cons_succ, List.set_cons_zero]
      refine q_call (by kernel_rfl) 22 Tryd.f22 _ _ _ [.agg (numA a)] (.agg (numA v5)) rfl (by kernel_rfl) Tryd.func22 (by kernel_rfl) rfl Cv5 ?_
      simp only [Act.put, List.setIfInBounds_toArray, List.set_cons_succ, List.set_cons_zero]
      refine q_load (by kernel_rfl) 22 _ (w.heap.size + 1) 22 (numA b) (0, 0) _ rfl (by kernel_rfl) Fb Tryd.underlying22 rfl (by rw [numA_size]; kernel_rfl) ?_
      simp only [Act.put, List.setIfInBounds_toArray, List.set_cons_succ, List.set_cons_zero]
      refine q_call (by kernel_rfl) 22 Tryd.f22 _ _ _ [.agg (numA b)] (.agg (numA v6)) rfl (by kernel_rfl) Tryd.func22 (by kernel_rfl) rfl Cv6 ?_
      simp only [Act.put, List.setIfInBounds_toArray, List.set_cons_succ, List.set_cons_zero]
      refine q_call (by kernel_rfl) 19 Tryd.f19 _ _ _ [.agg (numA v5), .agg (numA v6)] (.agg (numA v7)) rfl (by kernel_rfl) Tryd.func19 (by kernel_rfl) rfl Cv7 ?_
      simp only [Act.put, List.setIfInBounds_toArray, List.set_cons_succ, List.set_cons_zero]
      refine q_val (by kernel_rfl) (.bool true) (fun w' => (run_eql_num (t := 22) (e := 5) v4 v7 rfl (by kernel_rfl) (by kernel_rfl) lv4 lv7 Tryd.underlying22 Tryd.underlying5 sz5 ag5 eqG w').trans (by rw [show decide (v4 = v7) = true from decide_eq_true (by rw [ev4, ev7, ev1, ev5, ev6]; exact inv_mul a b)])) ?_
      simp only [Act.put, List.setIfInBounds_toArray, List.set_cons_succ, List.set_cons_zero]
      refine q_val (by kernel_rfl) (.bool true) (fun w' => by kernel_rfl) ?_
      simp only [Act.put, List.setIfInBounds_toArray, List.set_cons_succ, List.set_cons_zero]
      refine q_val (by kernel_rfl) (.bool true) (fun w' => by kernel_rfl) ?_
      simp only [Act.put, List.setIfInBounds_toArray, List.set_cons_succ, List.set_cons_zero]
      refine q_load (by kernel_rfl) 22 _ (w.heap.size) 22 (numA a) (0, 0) _ rfl (by kernel_rfl) Fa Tryd.underlying22 rfl (by rw [numA_size]; kernel_rfl) ?_
      simp only [Act.put, List.setIfInBounds_toArray, List.set_cons_succ, List.set_cons_zero]
      refine q_call (by kernel_rfl) 22 Tryd.f22 _ _ _ [.agg (numA a)] (.agg (numA v5)) rfl (by kernel_rfl) Tryd.func22 (by kernel_rfl) rfl Cv5 ?_
      simp only [Act.put, List.setIfInBounds_toArray, List.set_cons_succ, List.set_cons_zero]
      refine q_call (by kernel_rfl) 22 Tryd.f22 _ _ _ [.agg (numA v5)] (.agg (numA v8)) rfl (by kernel_rfl) Tryd.func22 (by kernel_rfl) rfl Cv8 ?_
      simp only [Act.put, List.setIfInBounds_toArray, List.set_cons_succ, List.set_cons_zero]
      refine q_load (by kernel_rfl) 22 _ (w.heap.size) 22 (numA a) (0, 0) _ rfl (by kernel_rfl) Fa Tryd.underlying22 rfl (by rw [numA_size]; kernel_rfl) ?_
      simp only [Act.put, List.setIfInBounds_toArray, List.set_cons_succ, List.set_cons_zero]
      refine q_call (by kernel_rfl) 13 Tryd.f13 _ _ _ [.agg (numA a)] (.agg (numA v9)) rfl (by kernel_rfl) Tryd.func13 (by kernel_rfl) rfl Cv9 ?_
      simp only [Act.put, List.setIfInBounds_toArray, List.set_cons_succ, List.set_cons_zero]
      refine q_val (by kernel_rfl) (.bool true) (fun w' => (run_eql_num (t := 22) (e := 5) v8 v9 rfl (by kernel_rfl) (by kernel_rfl) lv8 lv9 Tryd.underlying22 Tryd.underlying5 sz5 ag5 eqG w').trans (by rw [show decide (v8 = v9) = true from decide_eq_true (by rw [ev8, ev9, ev5]; exact inv_back a)])) ?_
      simp only [Act.put, List.setIfInBounds_toArray, List.set_cons_succ, List.set_cons_zero]
      refine q_val (by kernel_rfl) (.bool true) (fun w' => by kernel_rfl) ?_
      simp only [Act.put, List.setIfInBounds_toArray, List.set_cons_succ, List.set_cons_zero]
      refine q_val (by kernel_rfl) (.bool true) (fun w' => by kernel_rfl) ?_
      simp only [Act.put, List.setIfInBounds_toArray, List.set_cons_succ, List.set_cons_zero]
      refine wpQuiet_nil ?_
      intro w2 h20
      have H2 := hide h20
      clear h20 Fa Fb HPW la lb Cv1 Cv2 Cv3 Cv4 Cv5 Cv6 Cv7 Cv8 Cv9 lv1 lv4 lv5 lv6 lv7 lv8 lv9 zv2 zv3 ev1 ev2 ev3 ev4 ev5 ev6 ev7 ev8 ev9
      go_wp2_with fail
      go_ret
      exact ⟨rfl, HQ.out.trans (H2.out.mono (by have := HS.out; omega))⟩
  · by_cases zb : b % 57896044618658097711785492504343953926634992332820282019728792003956564819949 = 0
    · have Fa := GA.out
      have Fb := GB.out
      have HPW := HPP.out
      have la := LA.out
      have lb := LB.out
      obtain ⟨v1, ev1⟩ : ∃ v1, v1 = a * b % 57896044618658097711785492504343953926634992332820282019728792003956564819949 := ⟨_, rfl⟩
      have lv1 : v1 < 115792089237316195423570985008687907853269984665640564039457584007913129639936 := by rw [ev1]; exact Nat.lt_trans (Nat.mod_lt _ (by decide)) (by decide)
      have Cv1 : ∀ w', Below W0.heap.size W0 w' → Calls Tryd.prog 19 [.agg (numA a), .agg (numA b)].toArray w' fun e w2 => e = .returned (.agg (numA v1)) ∧ Below W0.heap.size W0 w2 := fun w' hb => by rw [ev1]; exact (Mul_any a b w' la lb).mono fun e w2 hh => ⟨hh.1, hb.trans (hh.2.mono hb.size)⟩
      obtain ⟨v2, ev2⟩ : ∃ v2, v2 = decide (v1 % 57896044618658097711785492504343953926634992332820282019728792003956564819949 = 0) := ⟨_, rfl⟩
      have Cv2 : ∀ w', Below W0.heap.size W0 w' → Calls Tryd.prog 21 [.agg (numA v1)].toArray w' fun e w2 => e = .returned (.bool v2) ∧ Below W0.heap.size W0 w2 := fun w' hb => by rw [ev2]; exact (Zero_any v1 w' lv1).mono fun e w2 hh => ⟨hh.1, hb.trans (hh.2.mono hb.size)⟩
      obtain ⟨v3, ev3⟩ : ∃ v3, v3 = decide (a % 57896044618658097711785492504343953926634992332820282019728792003956564819949 = 0) := ⟨_, rfl⟩
      have Cv3 : ∀ w', Below W0.heap.size W0 w' → Calls Tryd.prog 21 [.agg (numA a)].toArray w' fun e w2 => e = .returned (.bool v3) ∧ Below W0.heap.size W0 w2 := fun w' hb => by rw [ev3]; exact (Zero_any a w' la).mono fun e w2 hh => ⟨hh.1, hb.trans (hh.2.mono hb.size)⟩
      obtain ⟨v4, ev4⟩ : ∃ v4, v4 = decide (b % 57896044618658097711785492504343953926634992332820282019728792003956564819949 = 0) := ⟨_, rfl⟩
      have Cv4 : ∀ w', Below W0.heap.size W0 w' → Calls Tryd.prog 21 [.agg (numA b)].toArray w' fun e w2 => e = .returned (.bool v4) ∧ Below W0.heap.size W0 w2 := fun w' hb => by rw [ev4]; exact (Zero_any b w' lb).mono fun e w2 hh => ⟨hh.1, hb.trans (hh.2.mono hb.size)⟩
      obtain ⟨v5, ev5⟩ : ∃ v5, v5 = invOf v1 := ⟨_, rfl⟩
      have lv5 : v5 < 115792089237316195423570985008687907853269984665640564039457584007913129639936 := by rw [ev5]; exact invOf_lt _
      have Cv5 : ∀ w', Below W0.heap.size W0 w' → Calls Tryd.prog 22 [.agg (numA v1)].toArray w' fun e w2 => e = .returned (.agg (numA v5)) ∧ Below W0.heap.size W0 w2 := fun w' hb => by rw [ev5]; exact (Inv_any v1 w' lv1 (PrimeAt.below HPW hb)).mono fun e w2 hh => ⟨hh.1, hb.trans (hh.2.mono hb.size)⟩
      obtain ⟨v6, ev6⟩ : ∃ v6, v6 = invOf a := ⟨_, rfl⟩
      have lv6 : v6 < 115792089237316195423570985008687907853269984665640564039457584007913129639936 := by rw [ev6]; exact invOf_lt _
      have Cv6 : ∀ w', Below W0.heap.size W0 w' → Calls Tryd.prog 22 [.agg (numA a)].toArray w' fun e w2 => e = .returned (.agg (numA v6)) ∧ Below W0.heap.size W0 w2 := fun w' hb => by rw [ev6]; exact (Inv_any a w' la (PrimeAt.below HPW hb)).mono fun e w2 hh => ⟨hh.1, hb.trans (hh.2.mono hb.size)⟩
      obtain ⟨v7, ev7⟩ : ∃ v7, v7 = invOf b := ⟨_, rfl⟩
      have lv7 : v7 < 115792089237316195423570985008687907853269984665640564039457584007913129639936 := by rw [ev7]; exact invOf_lt _
      have Cv7 : ∀ w', Below W0.heap.size W0 w' → Calls Tryd.prog 22 [.agg (numA b)].toArray w' fun e w2 => e = .returned (.agg (numA v7)) ∧ Below W0.heap.size W0 w2 := fun w' hb => by rw [ev7]; exact (Inv_any b w' lb (PrimeAt.below HPW hb)).mono fun e w2 hh => ⟨hh.1, hb.trans (hh.2.mono hb.size)⟩
      obtain ⟨v8, ev8⟩ : ∃ v8, v8 = v6 * v7 % 57896044618658097711785492504343953926634992332820282019728792003956564819949 := ⟨_, rfl⟩
      have lv8 : v8 < 115792089237316195423570985008687907853269984665640564039457584007913129639936 := by rw [ev8]; exact Nat.lt_trans (Nat.mod_lt _ (by decide)) (by decide)
      have Cv8 : ∀ w', Below W0.heap.size W0 w' → Calls Tryd.prog 19 [.agg (numA v6), .agg (numA v7)].toArray w' fun e w2 => e = .returned (.agg (numA v8)) ∧ Below W0.heap.size W0 w2 := fun w' hb => by rw [ev8]; exact (Mul_any v6 v7 w' lv6 lv7).mono fun e w2 hh => ⟨hh.1, hb.trans (hh.2.mono hb.size)⟩
      obtain ⟨v9, ev9⟩ : ∃ v9, v9 = invOf v6 := ⟨_, rfl⟩
      have lv9 : v9 < 115792089237316195423570985008687907853269984665640564039457584007913129639936 := by rw [ev9]; exact invOf_lt _
      have Cv9 : ∀ w', Below W0.heap.size W0 w' → Calls Tryd.prog 22 [.agg (numA v6)].toArray w' fun e w2 => e = .returned (.agg (numA v9)) ∧ Below W0.heap.size W0 w2 := fun w' hb => by rw [ev9]; exact (Inv_any v6 w' lv6 (PrimeAt.below HPW hb)).mono fun e w2 hh => ⟨hh.1, hb.trans (hh.2.mono hb.size)⟩
      obtain ⟨v10, ev10⟩ : ∃ v10, v10 = a % 57896044618658097711785492504343953926634992332820282019728792003956564819949 := ⟨_, rfl⟩
      have lv10 : v10 < 115792089237316195423570985008687907853269984665640564039457584007913129639936 := by rw [ev10]; exact Nat.lt_trans (Nat.mod_lt _ (by decide)) (by decide)
      have Cv10 : ∀ w', Below W0.heap.size W0 w' → Calls Tryd.prog 13 [.agg (numA a)].toArray w' fun e w2 => e = .returned (.agg (numA v10)) ∧ Below W0.heap.size W0 w2 := fun w' hb => by rw [ev10]; exact (Reduce_any a w' la).mono fun e w2 hh => ⟨hh.1, hb.trans (hh.2.mono hb.size)⟩
      have zv2 : v2 = true := by rw [ev2]; exact by rw [ev1, zero_product prime_p a b]; simp [za, zb]
      have zv3 : v3 = false := by rw [ev3]; exact decide_eq_false za
      have zv4 : v4 = true := by rw [ev4]; exact decide_eq_true zb
      refine wp_region_quiet (C := fun w' => Below W0.heap.size W0 w') (by kernel_rfl) (by kernel_rfl) (Below.trans H1.out ⟨rfl, rfl, rfl, Nat.le_refl _, fun _ _ => rfl⟩) ?_
      refine q_load (by kernel_rfl) 22 _ (w.heap.size) 22 (numA a) (0, 0) _ rfl (by kernel_rfl) Fa Tryd.underlying22 rfl (by rw [numA_size]; kernel_rfl) ?_
      simp only [Act.put, List.setIfInBounds_toArray, List.set_cons_succ, List.set_cons_zero]
      refine q_load (by kernel_rfl) 22 _ (w.heap.size + 1) 22 (numA b) (0, 0) _ rfl (by kernel_rfl) Fb Tryd.underlying22 rfl (by rw [numA_size]; kernel_rfl) ?_
      simp only [Act.put, List.setIfInBounds_toArray, List.set_cons_succ, List.set_cons_zero]
      refine q_call (by kernel_rfl) 19 Tryd.f19 _ _ _ [.agg (numA a), .agg (numA b)] (.agg (numA v1)) rfl (by kernel_rfl) Tryd.func19 (by kernel_rfl) rfl Cv1 ?_
      simp only [Act.put, List.setIfInBounds_toArray, List.set_cons_succ, List.set_cons_zero]
      refine q_call (by kernel_rfl) 21 Tryd.f21 _ _ _ [.agg (numA v1)] (.bool true) rfl (by kernel_rfl) Tryd.func21 (by kernel_rfl) rfl (by rw [← zv2]; exact Cv2) ?_
      simp only [Act.put, List.setIfInBounds_toArray, List.set_cons_succ, List.set_cons_zero]
      refine q_load (by kernel_rfl) 22 _ (w.heap.size) 22 (numA a) (0, 0) _ rfl (by kernel_rfl) Fa Tryd.underlying22 rfl (by rw [numA_size]; kernel_rfl) ?_
      simp only [Act.put, List.setIfInBounds_toArray, List.set_cons_succ, List.set_cons_zero]
      refine q_call (by kernel_rfl) 21 Tryd.f21 _ _ _ [.agg (numA a)] (.bool false) rfl (by kernel_rfl) Tryd.func21 (by kernel_rfl) rfl (by rw [← zv3]; exact Cv3) ?_
      simp only [Act.put, List.setIfInBounds_toArray, List.set_cons_succ, List.set_cons_zero]
      refine q_val (by kernel_rfl) (.bool false) (fun w' => by kernel_rfl) ?_
      simp only [Act.put, List.setIfInBounds_toArray, List.set_cons_succ, List.set_cons_zero]
      refine q_load (by kernel_rfl) 22 _ (w.heap.size + 1) 22 (numA b) (0, 0) _ rfl (by kernel_rfl) Fb Tryd.underlying22 rfl (by rw [numA_size]; kernel_rfl) ?_
      simp only [Act.put, List.setIfInBounds_toArray, List.set_cons_succ, List.set_cons_zero]
      refine q_call (by kernel_rfl) 21 Tryd.f21 _ _ _ [.agg (numA b)] (.bool true) rfl (by kernel_rfl) Tryd.func21 (by kernel_rfl) rfl (by rw [← zv4]; exact Cv4) ?_
      simp only [Act.put, List.setIfInBounds_toArray, List.set_cons_succ, List.set_cons_zero]
      refine q_val (by kernel_rfl) (.bool true) (fun w' => by kernel_rfl) ?_
      simp only [Act.put, List.setIfInBounds_toArray, List.set_cons_succ, List.set_cons_zero]
      refine q_val (by kernel_rfl) (.bool true) (fun w' => by kernel_rfl) ?_
      simp only [Act.put, List.setIfInBounds_toArray, List.set_cons_succ, List.set_cons_zero]
      refine q_val (by kernel_rfl) (.bool true) (fun w' => by kernel_rfl) ?_
      simp only [Act.put, List.setIfInBounds_toArray, List.set_cons_succ, List.set_cons_zero]
      refine q_load (by kernel_rfl) 22 _ (w.heap.size) 22 (numA a) (0, 0) _ rfl (by kernel_rfl) Fa Tryd.underlying22 rfl (by rw [numA_size]; kernel_rfl) ?_
      simp only [Act.put, List.setIfInBounds_toArray, List.set_cons_succ, List.set_cons_zero]
      refine q_load (by kernel_rfl) 22 _ (w.heap.size + 1) 22 (numA b) (0, 0) _ rfl (by kernel_rfl) Fb Tryd.underlying22 rfl (by rw [numA_size]; kernel_rfl) ?_
      simp only [Act.put, List.setIfInBounds_toArray, List.set_cons_succ, List.set_cons_zero]
      refine q_call (by kernel_rfl) 19 Tryd.f19 _ _ _ [.agg (numA a), .agg (numA b)] (.agg (numA v1)) rfl (by kernel_rfl) Tryd.func19 (by kernel_rfl) rfl Cv1 ?_
      simp only [Act.put, List.setIfInBounds_toArray, List.set_cons_succ, List.set_cons_zero]
      refine q_call (by kernel_rfl) 22 Tryd.f22 _ _ _ [.agg (numA v1)] (.agg (numA v5)) rfl (by kernel_rfl) Tryd.func22 (by kernel_rfl) rfl Cv5 ?_
      simp only [Act.put, List.setIfInBounds_toArray, List.set_cons_succ, List.set_cons_zero]
      refine q_load (by kernel_rfl) 22 _ (w.heap.size) 22 (numA a) (0, 0) _ rfl (by kernel_rfl) Fa Tryd.underlying22 rfl (by rw [numA_size]; kernel_rfl) ?_
      simp only [Act.put, List.setIfInBounds_toArray, List.set_cons_succ, List.set_cons_zero]
      refine q_call (by kernel_rfl) 22 Tryd.f22 _ _ _ [.agg (numA a)] (.agg (numA v6)) rfl (by kernel_rfl) Tryd.func22 (by kernel_rfl) rfl Cv6 ?_
      simp only [Act.put, List.setIfInBounds_toArray, List.set_cons_succ, List.set_cons_zero]
      refine q_load (by kernel_rfl) 22 _ (w.heap.size + 1) 22 (numA b) (0, 0) _ rfl (by kernel_rfl) Fb Tryd.underlying22 rfl (by rw [numA_size]; kernel_rfl) ?_
      simp only [Act.put, List.setIfInBounds_toArray, List.set_cons_succ, List.set_cons_zero]
      refine q_call (by kernel_rfl) 22 Tryd.f22 _ _ _ [.agg (numA b)] (.agg (numA v7)) rfl (by kernel_rfl) Tryd.func22 (by kernel_rfl) rfl Cv7 ?_
      simp only [Act.put, List.setIfInBounds_toArray, List.set_cons_succ, List.set_cons_zero]
      refine q_call (by kernel_rfl) 19 Tryd.f19 _ _ _ [.agg (numA v6), .agg (numA v7)] (.agg (numA v8)) rfl (by kernel_rfl) Tryd.func19 (by kernel_rfl) rfl Cv8 ?_
      simp only [Act.put, List.setIfInBounds_toArray, List.set_cons_succ, List.set_cons_zero]
      refine q_val (by kernel_rfl) (.bool true) (fun w' => (run_eql_num (t := 22) (e := 5) v5 v8 rfl (by kernel_rfl) (by kernel_rfl) lv5 lv8 Tryd.underlying22 Tryd.underlying5 sz5 ag5 eqG w').trans (by rw [show decide (v5 = v8) = true from decide_eq_true (by rw [ev5, ev8, ev1, ev6, ev7]; exact inv_mul a b)])) ?_
      simp only [Act.put, List.setIfInBounds_toArray, List.set_cons_succ, List.set_cons_zero]
      refine q_val (by kernel_rfl) (.bool true) (fun w' => by kernel_rfl) ?_
      simp only [Act.put, List.setIfInBounds_toArray, List.set_cons_succ, List.set_cons_zero]
      refine q_val (by kernel_rfl) (.bool true) (fun w' => by kernel_rfl) ?_
      simp only [Act.put, List.setIfInBounds_toArray, List.set_cons_succ, List.set_cons_zero]
      refine q_load (by kernel_rfl) 22 _ (w.heap.size) 22 (numA a) (0, 0) _ rfl (by kernel_rfl) Fa Tryd.underlying22 rfl (by rw [numA_size]; kernel_rfl) ?_
      simp only [Act.put, List.setIfInBounds_toArray, List.set_cons_succ, List.set_cons_zero]
      refine q_call (by kernel_rfl) 22 Tryd.f22 _ _ _ [.agg (numA a)] (.agg (numA v6)) rfl (by kernel_rfl) Tryd.func22 (by kernel_rfl) rfl Cv6 ?_
      simp only [Act.put, List.setIfInBounds_toArray, List.set_cons_succ, List.set_cons_zero]
      refine q_call (by kernel_rfl) 22 Tryd.f22 _ _ _ [.agg (numA v6)] (.agg (numA v9)) rfl (by kernel_rfl) Tryd.func22 (by kernel_rfl) rfl Cv9 ?_
      simp only [Act.put, List.setIfInBounds_toArray, List.set_cons_succ, List.set_cons_zero]
      refine q_load (by kernel_rfl) 22 _ (w.heap.size) 22 (numA a) (0, 0) _ rfl (by kernel_rfl) Fa Tryd.underlying22 rfl (by rw [numA_size]; kernel_rfl) ?_
      simp only [Act.put, List.setIfInBounds_toArray, List.set_cons_succ, List.set_cons_zero]
      refine q_call (by kernel_rfl) 13 Tryd.f13 _ _ _ [.agg (numA a)] (.agg (numA v10)) rfl (by kernel_rfl) Tryd.func13 (by kernel_rfl) rfl Cv10 ?_
      simp only [Act.put, List.setIfInBounds_toArray, List.set_cons_succ, List.set_cons_zero]
      refine q_val (by kernel_rfl) (.bool true) (fun w' => (run_eql_num (t := 22) (e := 5) v9 v10 rfl (by kernel_rfl) (by kernel_rfl) lv9 lv10 Tryd.underlying22 Tryd.underlying5 sz5 ag5 eqG w').trans (by rw [show decide (v9 = v10) = true from decide_eq_true (by rw [ev9, ev10, ev6]; exact inv_back a)])) ?_
      simp only [Act.put, List.setIfInBounds_toArray, List.set_cons_succ, List.set_cons_zero]
      refine q_val (by kernel_rfl) (.bool true) (fun w' => by kernel_rfl) ?_
      simp only [Act.put, List.setIfInBounds_toArray, List.set_cons_succ, List.set_cons_zero]
      refine q_val (by kernel_rfl) (.bool true) (fun w' => by kernel_rfl) ?_
      simp only [Act.put, List.setIfInBounds_toArray, List.set_cons_succ, List.set_cons_zero]
      refine wpQuiet_nil ?_
      intro w2 h20
      have H2 := hide h20
      clear h20 Fa Fb HPW la lb Cv1 Cv2 Cv3 Cv4 Cv5 Cv6 Cv7 Cv8 Cv9 Cv10 lv1 lv5 lv6 lv7 lv8 lv9 lv10 zv2 zv3 zv4 ev1 ev2 ev3 ev4 ev5 ev6 ev7 ev8 ev9 ev10
      go_wp2_with fail
      go_ret
      exact ⟨rfl, HQ.out.trans (H2.out.mono (by have := HS.out; omega))⟩
    · have Fa := GA.out
      have Fb := GB.out
      have HPW := HPP.out
      have la := LA.out
      have lb := LB.out
      obtain ⟨v1, ev1⟩ : ∃ v1, v1 = a * b % 57896044618658097711785492504343953926634992332820282019728792003956564819949 := ⟨_, rfl⟩
      have lv1 : v1 < 115792089237316195423570985008687907853269984665640564039457584007913129639936 := by rw [ev1]; exact Nat.lt_trans (Nat.mod_lt _ (by decide)) (by decide)
      have Cv1 : ∀ w', Below W0.heap.size W0 w' → Calls Tryd.prog 19 [.agg (numA a), .agg (numA b)].toArray w' fun e w2 => e = .returned (.agg (numA v1)) ∧ Below W0.heap.size W0 w2 := fun w' hb => by rw [ev1]; exact (Mul_any a b w' la lb).mono fun e w2 hh => ⟨hh.1, hb.trans (hh.2.mono hb.size)⟩
      obtain ⟨v2, ev2⟩ : ∃ v2, v2 = decide (v1 % 57896044618658097711785492504343953926634992332820282019728792003956564819949 = 0) := ⟨_, rfl⟩
      have Cv2 : ∀ w', Below W0.heap.size W0 w' → Calls Tryd.prog 21 [.agg (numA v1)].toArray w' fun e w2 => e = .returned (.bool v2) ∧ Below W0.heap.size W0 w2 := fun w' hb => by rw [ev2]; exact (Zero_any v1 w' lv1).mono fun e w2 hh => ⟨hh.1, hb.trans (hh.2.mono hb.size)⟩
      obtain ⟨v3, ev3⟩ : ∃ v3, v3 = decide (a % 57896044618658097711785492504343953926634992332820282019728792003956564819949 = 0) := ⟨_, rfl⟩
      have Cv3 : ∀ w', Below W0.heap.size W0 w' → Calls Tryd.prog 21 [.agg (numA a)].toArray w' fun e w2 => e = .returned (.bool v3) ∧ Below W0.heap.size W0 w2 := fun w' hb => by rw [ev3]; exact (Zero_any a w' la).mono fun e w2 hh => ⟨hh.1, hb.trans (hh.2.mono hb.size)⟩
      obtain ⟨v4, ev4⟩ : ∃ v4, v4 = decide (b % 57896044618658097711785492504343953926634992332820282019728792003956564819949 = 0) := ⟨_, rfl⟩
      have Cv4 : ∀ w', Below W0.heap.size W0 w' → Calls Tryd.prog 21 [.agg (numA b)].toArray w' fun e w2 => e = .returned (.bool v4) ∧ Below W0.heap.size W0 w2 := fun w' hb => by rw [ev4]; exact (Zero_any b w' lb).mono fun e w2 hh => ⟨hh.1, hb.trans (hh.2.mono hb.size)⟩
      obtain ⟨v5, ev5⟩ : ∃ v5, v5 = invOf v1 := ⟨_, rfl⟩
      have lv5 : v5 < 115792089237316195423570985008687907853269984665640564039457584007913129639936 := by rw [ev5]; exact invOf_lt _
      have Cv5 : ∀ w', Below W0.heap.size W0 w' → Calls Tryd.prog 22 [.agg (numA v1)].toArray w' fun e w2 => e = .returned (.agg (numA v5)) ∧ Below W0.heap.size W0 w2 := fun w' hb => by rw [ev5]; exact (Inv_any v1 w' lv1 (PrimeAt.below HPW hb)).mono fun e w2 hh => ⟨hh.1, hb.trans (hh.2.mono hb.size)⟩
      obtain ⟨v6, ev6⟩ : ∃ v6, v6 = invOf a := ⟨_, rfl⟩
      have lv6 : v6 < 115792089237316195423570985008687907853269984665640564039457584007913129639936 := by rw [ev6]; exact invOf_lt _
      have Cv6 : ∀ w', Below W0.heap.size W0 w' → Calls Tryd.prog 22 [.agg (numA a)].toArray w' fun e w2 => e = .returned (.agg (numA v6)) ∧ Below W0.heap.size W0 w2 := fun w' hb => by rw [ev6]; exact (Inv_any a w' la (PrimeAt.below HPW hb)).mono fun e w2 hh => ⟨hh.1, hb.trans (hh.2.mono hb.size)⟩
      obtain ⟨v7, ev7⟩ : ∃ v7, v7 = invOf b := ⟨_, rfl⟩
      have lv7 : v7 < 115792089237316195423570985008687907853269984665640564039457584007913129639936 := by rw [ev7]; exact invOf_lt _
      have Cv7 : ∀ w', Below W0.heap.size W0 w' → Calls Tryd.prog 22 [.agg (numA b)].toArray w' fun e w2 => e = .returned (.agg (numA v7)) ∧ Below W0.heap.size W0 w2 := fun w' hb => by rw [ev7]; exact (Inv_any b w' lb (PrimeAt.below HPW hb)).mono fun e w2 hh => ⟨hh.1, hb.trans (hh.2.mono hb.size)⟩
      obtain ⟨v8, ev8⟩ : ∃ v8, v8 = v6 * v7 % 57896044618658097711785492504343953926634992332820282019728792003956564819949 := ⟨_, rfl⟩
      have lv8 : v8 < 115792089237316195423570985008687907853269984665640564039457584007913129639936 := by rw [ev8]; exact Nat.lt_trans (Nat.mod_lt _ (by decide)) (by decide)
      have Cv8 : ∀ w', Below W0.heap.size W0 w' → Calls Tryd.prog 19 [.agg (numA v6), .agg (numA v7)].toArray w' fun e w2 => e = .returned (.agg (numA v8)) ∧ Below W0.heap.size W0 w2 := fun w' hb => by rw [ev8]; exact (Mul_any v6 v7 w' lv6 lv7).mono fun e w2 hh => ⟨hh.1, hb.trans (hh.2.mono hb.size)⟩
      obtain ⟨v9, ev9⟩ : ∃ v9, v9 = invOf v6 := ⟨_, rfl⟩
      have lv9 : v9 < 115792089237316195423570985008687907853269984665640564039457584007913129639936 := by rw [ev9]; exact invOf_lt _
      have Cv9 : ∀ w', Below W0.heap.size W0 w' → Calls Tryd.prog 22 [.agg (numA v6)].toArray w' fun e w2 => e = .returned (.agg (numA v9)) ∧ Below W0.heap.size W0 w2 := fun w' hb => by rw [ev9]; exact (Inv_any v6 w' lv6 (PrimeAt.below HPW hb)).mono fun e w2 hh => ⟨hh.1, hb.trans (hh.2.mono hb.size)⟩
      obtain ⟨v10, ev10⟩ : ∃ v10, v10 = a % 57896044618658097711785492504343953926634992332820282019728792003956564819949 := ⟨_, rfl⟩
      have lv10 : v10 < 115792089237316195423570985008687907853269984665640564039457584007913129639936 := by rw [ev10]; exact Nat.lt_trans (Nat.mod_lt _ (by decide)) (by decide)
      have Cv10 : ∀ w', Below W0.heap.size W0 w' → Calls Tryd.prog 13 [.agg (numA a)].toArray w' fun e w2 => e = .returned (.agg (numA v10)) ∧ Below W0.heap.size W0 w2 := fun w' hb => by rw [ev10]; exact (Reduce_any a w' la).mono fun e w2 hh => ⟨hh.1, hb.trans (hh.2.mono hb.size)⟩
      have zv2 : v2 = false := by rw [ev2]; exact by rw [ev1, zero_product prime_p a b]; simp [za, zb]
      have zv3 : v3 = false := by rw [ev3]; exact decide_eq_false za
      have zv4 : v4 = false := by rw [ev4]; exact decide_eq_false zb
      refine wp_region_quiet (C := fun w' => Below W0.heap.size W0 w') (by kernel_rfl) (by kernel_rfl) (Below.trans H1.out ⟨rfl, rfl, rfl, Nat.le_refl _, fun _ _ => rfl⟩) ?_
      refine q_load (by kernel_rfl) 22 _ (w.heap.size) 22 (numA a) (0, 0) _ rfl (by kernel_rfl) Fa Tryd.underlying22 rfl (by rw [numA_size]; kernel_rfl) ?_
      simp only [Act.put, List.setIfInBounds_toArray, List.set_cons_succ, List.set_cons_zero]
      refine q_load (by kernel_rfl) 22 _ (w.heap.size + 1) 22 (numA b) (0, 0) _ rfl (by kernel_rfl) Fb Tryd.underlying22 rfl (by rw [numA_size]; kernel_rfl) ?_
      simp only [Act.put, List.setIfInBounds_toArray, List.set_cons_succ, List.set_cons_zero]
      refine q_call (by kernel_rfl) 19 Tryd.f19 _ _ _ [.agg (numA a), .agg (numA b)] (.agg (numA v1)) rfl (by kernel_rfl) Tryd.func19 (by kernel_rfl) rfl Cv1 ?_
      simp only [Act.put, List.setIfInBounds_toArray, List.set_cons_succ, List.set_cons_zero]
      refine q_call (by kernel_rfl) 21 Tryd.f21 _ _ _ [.agg (numA v1)] (.bool false) rfl (by kernel_rfl) Tryd.func21 (by kernel_rfl) rfl (by rw [← zv2]; exact Cv2) ?_
      simp only [Act.put, List.setIfInBounds_toArray, List.set_cons_succ, List.set_cons_zero]
      refine q_load (by kernel_rfl) 22 _ (w.heap.size) 22 (numA a) (0, 0) _ rfl (by kernel_rfl) Fa Tryd.underlying22 rfl (by rw [numA_size]; kernel_rfl) ?_
      simp only [Act.put, List.setIfInBounds_toArray, List.set_cons_succ, List.set_cons_zero]
      refine q_call (by kernel_rfl) 21 Tryd.f21 _ _ _ [.agg (numA a)] (.bool false) rfl (by kernel_rfl) Tryd.func21 (by kernel_rfl) rfl (by rw [← zv3]; exact Cv3) ?_
      simp only [Act.put, List.setIfInBounds_toArray, List.set_cons_succ, List.set_cons_zero]
      refine q_val (by kernel_rfl) (.bool false) (fun w' => by kernel_rfl) ?_
      simp only [Act.put, List.setIfInBounds_toArray, List.set_cons_succ, List.set_cons_zero]
      refine q_load (by kernel_rfl) 22 _ (w.heap.size + 1) 22 (numA b) (0, 0) _ rfl (by kernel_rfl) Fb Tryd.underlying22 rfl (by rw [numA_size]; kernel_rfl) ?_
      simp only [Act.put, List.setIfInBounds_toArray, List.set_cons_succ, List.set_cons_zero]
      refine q_call (by kernel_rfl) 21 Tryd.f21 _ _ _ [.agg (numA b)] (.bool false) rfl (by kernel_rfl) Tryd.func21 (by kernel_rfl) rfl (by rw [← zv4]; exact Cv4) ?_
      simp only [Act.put, List.setIfInBounds_toArray, List.set_cons_succ, List.set_cons_zero]
      refine q_val (by kernel_rfl) (.bool false) (fun w' => by kernel_rfl) ?_
      simp only [Act.put, List.setIfInBounds_toArray, List.set_cons_succ, List.set_cons_zero]
      refine q_val (by kernel_rfl) (.bool true) (fun w' => by kernel_rfl) ?_
      simp only [Act.put, List.setIfInBounds_toArray, List.set_cons_succ, List.set_cons_zero]
      refine q_val (by kernel_rfl) (.bool true) (fun w' => by kernel_rfl) ?_
      simp only [Act.put, List.setIfInBounds_toArray, List.set_cons_succ, List.set_cons_zero]
      refine q_load (by kernel_rfl) 22 _ (w.heap.size) 22 (numA a) (0, 0) _ rfl (by kernel_rfl) Fa Tryd.underlying22 rfl (by rw [numA_size]; kernel_rfl) ?_
      simp only [Act.put, List.setIfInBounds_toArray, List.set_cons_succ, List.set_cons_zero]
      refine q_load (by kernel_rfl) 22 _ (w.heap.size + 1) 22 (numA b) (0, 0) _ rfl (by kernel_rfl) Fb Tryd.underlying22 rfl (by rw [numA_size]; kernel_rfl) ?_
      simp only [Act.put, List.setIfInBounds_toArray, List.set_cons_succ, List.set_cons_zero]
      refine q_call (by kernel_rfl) 19 Tryd.f19 _ _ _ [.agg (numA a), .agg (numA b)] (.agg (numA v1)) rfl (by kernel_rfl) Tryd.func19 (by kernel_rfl) rfl Cv1 ?_
      simp only [Act.put, List.setIfInBounds_toArray, List.set_cons_succ, List.set_cons_zero]
      refine q_call (by kernel_rfl) 22 Tryd.f22 _ _ _ [.agg (numA v1)] (.agg (numA v5)) rfl (by kernel_rfl) Tryd.func22 (by kernel_rfl) rfl Cv5 ?_
      simp only [Act.put, List.setIfInBounds_toArray, List.set_cons_succ, List.set_cons_zero]
      refine q_load (by kernel_rfl) 22 _ (w.heap.size) 22 (numA a) (0, 0) _ rfl (by kernel_rfl) Fa Tryd.underlying22 rfl (by rw [numA_size]; kernel_rfl) ?_
      simp only [Act.put, List.setIfInBounds_toArray, List.set_cons_succ, List.set_cons_zero]
      refine q_call (by kernel_rfl) 22 Tryd.f22 _ _ _ [.agg (numA a)] (.agg (numA v6)) rfl (by kernel_rfl) Tryd.func22 (by kernel_rfl) rfl Cv6 ?_
      simp only [Act.put, List.setIfInBounds_toArray, List.set_cons_succ, List.set_cons_zero]
      refine q_load (by kernel_rfl) 22 _ (w.heap.size + 1) 22 (numA b) (0, 0) _ rfl (by kernel_rfl) Fb Tryd.underlying22 rfl (by rw [numA_size]; kernel_rfl) ?_
      simp only [Act.put, List.setIfInBounds_toArray, List.set_cons_succ, List.set_cons_zero]
      refine q_call (by kernel_rfl) 22 Tryd.f22 _ _ _ [.agg (numA b)] (.agg (numA v7)) rfl (by kernel_rfl) Tryd.func22 (by kernel_rfl) rfl Cv7 ?_
      simp only [Act.put, List.setIfInBounds_toArray, List.set_cons_succ, List.set_cons_zero]
      refine q_call (by kernel_rfl) 19 Tryd.f19 _ _ _ [.agg (numA v6), .agg (numA v7)] (.agg (numA v8)) rfl (by kernel_rfl) Tryd.func19 (by kernel_rfl) rfl Cv8 ?_
      simp only [Act.put, List.setIfInBounds_toArray, List.set_cons_succ, List.set_cons_zero]
      refine q_val (by kernel_rfl) (.bool true) (fun w' => (run_eql_num (t := 22) (e := 5) v5 v8 rfl (by kernel_rfl) (by kernel_rfl) lv5 lv8 Tryd.underlying22 Tryd.underlying5 sz5 ag5 eqG w').trans (by rw [show decide (v5 = v8) = true from decide_eq_true (by rw [ev5, ev8, ev1, ev6, ev7]; exact inv_mul a b)])) ?_
      simp only [Act.put, List.setIfInBounds_toArray, List.set_cons_succ, List.set_cons_zero]
      refine q_val (by kernel_rfl) (.bool true) (fun w' => by kernel_rfl) ?_
      simp only [Act.put, List.setIfInBounds_toArray, List.set_cons_succ, List.set_cons_zero]
      refine q_val (by kernel_rfl) (.bool true) (fun w' => by kernel_rfl) ?_
      simp only [Act.put, List.setIfInBounds_toArray, List.set_cons_succ, List.set_cons_zero]
      refine q_load (by kernel_rfl) 22 _ (w.heap.size) 22 (numA a) (0, 0) _ rfl (by kernel_rfl) Fa Tryd.underlying22 rfl (by rw [numA_size]; kernel_rfl) ?_
      simp only [Act.put, List.setIfInBounds_toArray, List.set_cons_succ, List.set_cons_zero]
      refine q_call (by kernel_rfl) 22 Tryd.f22 _ _ _ [.agg (numA a)] (.agg (numA v6)) rfl (by kernel_rfl) Tryd.func22 (by kernel_rfl) rfl Cv6 ?_
      simp only [Act.put, List.setIfInBounds_toArray, List.set_cons_succ, List.set_cons_zero]
      refine q_call (by kernel_rfl) 22 Tryd.f22 _ _ _ [.agg (numA v6)] (.agg (numA v9)) rfl (by kernel_rfl) Tryd.func22 (by kernel_rfl) rfl Cv9 ?_
      simp only [Act.put, List.setIfInBounds_toArray, List.set_cons_succ, List.set_cons_zero]
      refine q_load (by kernel_rfl) 22 _ (w.heap.size) 22 (numA a) (0, 0) _ rfl (by kernel_rfl) Fa Tryd.underlying22 rfl (by rw [numA_size]; kernel_rfl) ?_
      simp only [Act.put, List.setIfInBounds_toArray, List.set_cons_succ, List.set_cons_zero]
      refine q_call (by kernel_rfl) 13 Tryd.f13 _ _ _ [.agg (numA a)] (.agg (numA v10)) rfl (by kernel_rfl) Tryd.func13 (by kernel_rfl) rfl Cv10 ?_
      simp only [Act.put, List.setIfInBounds_toArray, List.set_cons_succ, List.set_cons_zero]
      refine q_val (by kernel_rfl) (.bool true) (fun w' => (run_eql_num (t := 22) (e := 5) v9 v10 rfl (by kernel_rfl) (by kernel_rfl) lv9 lv10 Tryd.underlying22 Tryd.underlying5 sz5 ag5 eqG w').trans (by rw [show decide (v9 = v10) = true from decide_eq_true (by rw [ev9, ev10, ev6]; exact inv_back a)])) ?_
      simp only [Act.put, List.setIfInBounds_toArray, List.set_cons_succ, List.set_cons_zero]
      refine q_val (by kernel_rfl) (.bool true) (fun w' => by kernel_rfl) ?_
      simp only [Act.put, List.setIfInBounds_toArray, List.set_cons_succ, List.set_cons_zero]
      refine q_val (by kernel_rfl) (.bool true) (fun w' => by kernel_rfl) ?_
      simp only [Act.put, List.setIfInBounds_toArray, List.set_cons_succ, List.set_cons_zero]
      refine wpQuiet_nil ?_
      intro w2 h20
      have H2 := hide h20
      clear h20 Fa Fb HPW la lb Cv1 Cv2 Cv3 Cv4 Cv5 Cv6 Cv7 Cv8 Cv9 Cv10 lv1 lv5 lv6 lv7 lv8 lv9 lv10 zv2 zv3 zv4 ev1 ev2 ev3 ev4 ev5 ev6 ev7 ev8 ev9 ev10
      go_wp2_with fail
      go_ret
      exact ⟨rfl, HQ.out.trans (H2.out.mono (by have := HS.out; omega))⟩
end Go.Proofs.YtainefilkccemaaDoor
