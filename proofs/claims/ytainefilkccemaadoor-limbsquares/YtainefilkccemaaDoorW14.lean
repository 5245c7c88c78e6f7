/-
  What LimbField answers: true, whatever three numbers are.
-/
import Derived.Test.YtainefilkccemaaDoorW13
import Derived.Test.YtainefilkccemaaDoorMod
namespace Go.Proofs.YtainefilkccemaaDoor
open Go.RowKit
set_option linter.unusedSimpArgs false
set_option linter.unusedVariables false

set_option maxHeartbeats 4000000 in
theorem field_any (a b c : Nat) (w : World) (la : a < 115792089237316195423570985008687907853269984665640564039457584007913129639936) (lb : b < 115792089237316195423570985008687907853269984665640564039457584007913129639936) (lc : c < 115792089237316195423570985008687907853269984665640564039457584007913129639936) (hp : PrimeAt w) :
    Calls Tryd.prog 5 #[.agg (numA a), .agg (numA b), .agg (numA c)] w fun e w' => e = .returned (.bool true) ∧ Below w.heap.size w w' := by
  have LA := hide la
  have LB := hide lb
  have LC := hide lc
  have HP := hide hp
  clear la lb lc hp
  go_enter Tryd.func5, Tryd.ntmps5
  go_wp2_with fail
  have QX : Below w.heap.size w (((w.alloc (.cells (numA a) 22)).alloc (.cells (numA b) 22)).alloc (.cells (numA c) 22)) := by (repeat (first | with_reducible exact Below.refl _ _ | with_reducible assumption | with_reducible refine Below.drew ?_ | (with_reducible refine Below.alloc ?_ ?hB _; (case hB => first | omega | (simp <;> omega)))))
  refine (alive_any _ (PrimeAt.below HP.out QX)).mono ?_
  rintro e w1 ⟨rfl, hb1⟩
  obtain ⟨W0, hW⟩ : ∃ W0, W0 = (((w.alloc (.cells (numA a) 22)).alloc (.cells (numA b) 22)).alloc (.cells (numA c) 22)) := ⟨_, rfl⟩
  rw [← hW] at hb1 QX
  have hsz : W0.heap.size = w.heap.size + 3 := by rw [hW]; simp
  have HPP := hide (PrimeAt.below HP.out QX)
  have GA : Hid (∀ w', Below W0.heap.size W0 w' → w'.heap[w.heap.size]? = some (.cells (numA a) 22 (0, 0))) := fun w' hb => by
    rw [hb.block _ (by omega), hW, heap_alloc_old _ _ (by first | omega | (simp <;> omega))]; exact heap_alloc2_old _ _ _
  have GB : Hid (∀ w', Below W0.heap.size W0 w' → w'.heap[w.heap.size + 1]? = some (.cells (numA b) 22 (0, 0))) := fun w' hb => by
    rw [hb.block _ (by omega), hW, heap_alloc_old _ _ (by first | omega | (simp <;> omega))]; exact heap_alloc2_new _ _ _
  have GC : Hid (∀ w', Below W0.heap.size W0 w' → w'.heap[w.heap.size + 1 + 1]? = some (.cells (numA c) 22 (0, 0))) := fun w' hb => by
    rw [hb.block _ (by omega), hW]; exact alloc_top _ _ _ (by simp)
  have H1 := hide hb1
  have HS := hide hsz
  have HQ := hide QX
  clear hb1 hsz QX hW
  go_wp2_with fail
  have Fa := GA.out
  have Fb := GB.out
  have Fc := GC.out
  have HPW := HPP.out
  have la := LA.out
  have lb := LB.out
  have lc := LC.out
  obtain ⟨v1, ev1⟩ : ∃ v1, v1 = (a + b) % 57896044618658097711785492504343953926634992332820282019728792003956564819949 := ⟨_, rfl⟩
  have lv1 : v1 < 115792089237316195423570985008687907853269984665640564039457584007913129639936 := by rw [ev1]; exact Nat.lt_trans (Nat.mod_lt _ (by decide)) (by decide)
  have Cv1 : ∀ w', Below W0.heap.size W0 w' → Calls Tryd.prog 15 [.agg (numA a), .agg (numA b)].toArray w' fun e w2 => e = .returned (.agg (numA v1)) ∧ Below W0.heap.size W0 w2 := fun w' hb => by rw [ev1]; exact (Add_any a b w' la lb).mono fun e w2 hh => ⟨hh.1, hb.trans (hh.2.mono hb.size)⟩
  obtain ⟨v2, ev2⟩ : ∃ v2, v2 = (b + a) % 57896044618658097711785492504343953926634992332820282019728792003956564819949 := ⟨_, rfl⟩
  have lv2 : v2 < 115792089237316195423570985008687907853269984665640564039457584007913129639936 := by rw [ev2]; exact Nat.lt_trans (Nat.mod_lt _ (by decide)) (by decide)
  have Cv2 : ∀ w', Below W0.heap.size W0 w' → Calls Tryd.prog 15 [.agg (numA b), .agg (numA a)].toArray w' fun e w2 => e = .returned (.agg (numA v2)) ∧ Below W0.heap.size W0 w2 := fun w' hb => by rw [ev2]; exact (Add_any b a w' lb la).mono fun e w2 hh => ⟨hh.1, hb.trans (hh.2.mono hb.size)⟩
  obtain ⟨v3, ev3⟩ : ∃ v3, v3 = a * b % 57896044618658097711785492504343953926634992332820282019728792003956564819949 := ⟨_, rfl⟩
  have lv3 : v3 < 115792089237316195423570985008687907853269984665640564039457584007913129639936 := by rw [ev3]; exact Nat.lt_trans (Nat.mod_lt _ (by decide)) (by decide)
  have Cv3 : ∀ w', Below W0.heap.size W0 w' → Calls Tryd.prog 19 [.agg (numA a), .agg (numA b)].toArray w' fun e w2 => e = .returned (.agg (numA v3)) ∧ Below W0.heap.size W0 w2 := fun w' hb => by rw [ev3]; exact (Mul_any a b w' la lb).mono fun e w2 hh => ⟨hh.1, hb.trans (hh.2.mono hb.size)⟩
  obtain ⟨v4, ev4⟩ : ∃ v4, v4 = b * a % 57896044618658097711785492504343953926634992332820282019728792003956564819949 := ⟨_, rfl⟩
  have lv4 : v4 < 115792089237316195423570985008687907853269984665640564039457584007913129639936 := by rw [ev4]; exact Nat.lt_trans (Nat.mod_lt _ (by decide)) (by decide)
  have Cv4 : ∀ w', Below W0.heap.size W0 w' → Calls Tryd.prog 19 [.agg (numA b), .agg (numA a)].toArray w' fun e w2 => e = .returned (.agg (numA v4)) ∧ Below W0.heap.size W0 w2 := fun w' hb => by rw [ev4]; exact (Mul_any b a w' lb la).mono fun e w2 hh => ⟨hh.1, hb.trans (hh.2.mono hb.size)⟩
  refine wp_region_quiet (C := fun w' => Below W0.heap.size W0 w') (by kernel_rfl) (by kernel_rfl) (Below.trans H1.out ⟨rfl, rfl, rfl, Nat.le_refl _, fun _ _ => rfl⟩) ?_
  refine q_load (by kernel_rfl) 22 _ (w.heap.size) 22 (numA a) (0, 0) _ rfl (by kernel_rfl) Fa Tryd.underlying22 rfl (by rw [numA_size]; kernel_rfl) ?_
  simp only [Act.put, List.setIfInBounds_toArray, List.set_cons_succ, List.set_cons_zero]
  refine q_load (by kernel_rfl) 22 _ (w.heap.size + 1) 22 (numA b) (0, 0) _ rfl (by kernel_rfl) Fb Tryd.underlying22 rfl (by rw [numA_size]; kernel_rfl) ?_
  simp only [Act.put, List.setIfInBounds_toArray, List.set_cons_succ, List.set_cons_zero]
  refine q_call (by kernel_rfl) 15 Tryd.f15 _ _ _ [.agg (numA a), .agg (numA b)] (.agg (numA v1)) rfl (by kernel_rfl) Tryd.func15 (by kernel_rfl) rfl Cv1 ?_
  simp only [Act.put, List.setIfInBounds_toArray, List.set_cons_succ, List.set_cons_zero]
  refine q_load (by kernel_rfl) 22 _ (w.heap.size + 1) 22 (numA b) (0, 0) _ rfl (by kernel_rfl) Fb Tryd.underlying22 rfl (by rw [numA_size]; kernel_rfl) ?_
  simp only [Act.put, List.setIfInBounds_toArray, List.set_cons_succ, List.set_cons_zero]
  refine q_load (by kernel_rfl) 22 _ (w.heap.size) 22 (numA a) (0, 0) _ rfl (by kernel_rfl) Fa Tryd.underlying22 rfl (by rw [numA_size]; kernel_rfl) ?_
  simp only [Act.put, List.setIfInBounds_toArray, List.set_cons_succ, List.set_cons_zero]
  refine q_call (by kernel_rfl) 15 Tryd.f15 _ _ _ [.agg (numA b), .agg (numA a)] (.agg (numA v2)) rfl (by kernel_rfl) Tryd.func15 (by kernel_rfl) rfl Cv2 ?_
  simp only [Act.put, List.setIfInBounds_toArray, List.set_cons_succ, List.set_cons_zero]
  refine q_val (by kernel_rfl) (.bool false) (fun w' => (run_neq_num (t := 22) (e := 5) v1 v2 rfl (by kernel_rfl) (by kernel_rfl) lv1 lv2 Tryd.underlying22 Tryd.underlying5 sz5 ag5 eqG w').trans (by rw [show decide (v1 = v2) = true from decide_eq_true (by rw [ev1, ev2, Nat.add_comm])]; rfl)) ?_
  simp only [Act.put, List.setIfInBounds_toArray, List.set_cons_succ, List.set_cons_zero]
  refine q_val (by kernel_rfl) (.bool false) (fun w' => by kernel_rfl) ?_
  simp only [Act.put, List.setIfInBounds_toArray, List.set_cons_succ, List.set_cons_zero]
  refine q_load (by kernel_rfl) 22 _ (w.heap.size) 22 (numA a) (0, 0) _ rfl (by kernel_rfl) Fa Tryd.underlying22 rfl (by rw [numA_size]; kernel_rfl) ?_
  simp only [Act.put, List.setIfInBounds_toArray, List.set_cons_succ, List.set_cons_zero]
  refine q_load (by kernel_rfl) 22 _ (w.heap.size + 1) 22 (numA b) (0, 0) _ rfl (by kernel_rfl) Fb Tryd.underlying22 rfl (by rw [numA_size]; kernel_rfl) ?_
  simp only [Act.put, List.setIfInBounds_toArray, List.set_cons_succ, List.set_cons_zero]
  refine q_call (by kernel_rfl) 19 Tryd.f19 _ _ _ [.agg (numA a), .agg (numA b)] (.agg (numA v3)) rfl (by kernel_rfl) Tryd.func19 (by kernel_rfl) rfl Cv3 ?_
  simp only [Act.put, List.setIfInBounds_toArray, List.set_cons_succ, List.set_cons_zero]
  refine q_load (by kernel_rfl) 22 _ (w.heap.size + 1) 22 (numA b) (0, 0) _ rfl (by kernel_rfl) Fb Tryd.underlying22 rfl (by rw [numA_size]; kernel_rfl) ?_
  simp only [Act.put, List.setIfInBounds_toArray, List.set_cons_succ, List.set_cons_zero]
  refine q_load (by kernel_rfl) 22 _ (w.heap.size) 22 (numA a) (0, 0) _ rfl (by kernel_rfl) Fa Tryd.underlying22 rfl (by rw [numA_size]; kernel_rfl) ?_
  simp only [Act.put, List.setIfInBounds_toArray, List.set_cons_succ, List.set_cons_zero]
  refine q_call (by kernel_rfl) 19 Tryd.f19 _ _ _ [.agg (numA b), .agg (numA a)] (.agg (numA v4)) rfl (by kernel_rfl) Tryd.func19 (by kernel_rfl) rfl Cv4 ?_
  simp only [Act.put, List.setIfInBounds_toArray, List.set_cons_succ, List.set_cons_zero]
  refine q_val (by kernel_rfl) (.bool false) (fun w' => (run_neq_num (t := 22) (e := 5) v3 v4 rfl (by kernel_rfl) (by kernel_rfl) lv3 lv4 Tryd.underlying22 Tryd.underlying5 sz5 ag5 eqG w').trans (by rw [show decide (v3 = v4) = true from decide_eq_true (by rw [ev3, ev4, Nat.mul_comm])]; rfl)) ?_
  simp only [Act.put, List.setIfInBounds_toArray, List.set_cons_succ, List.set_cons_zero]
  refine q_val (by kernel_rfl) (.bool false) (fun w' => by kernel_rfl) ?_
  simp only [Act.put, List.setIfInBounds_toArray, List.set_cons_succ, List.set_cons_zero]
  refine wpQuiet_nil ?_
  intro w2 hw20
  have Hw2 := hide hw20
  clear hw20 Fa Fb Fc HPW la lb lc Cv1 Cv2 Cv3 Cv4 lv1 lv2 lv3 lv4 ev1 ev2 ev3 ev4
  go_wp2_with fail
  have Fa := GA.out
  have Fb := GB.out
  have Fc := GC.out
  have HPW := HPP.out
  have la := LA.out
  have lb := LB.out
  have lc := LC.out
  obtain ⟨v1, ev1⟩ : ∃ v1, v1 = (a + b) % 57896044618658097711785492504343953926634992332820282019728792003956564819949 := ⟨_, rfl⟩
  have lv1 : v1 < 115792089237316195423570985008687907853269984665640564039457584007913129639936 := by rw [ev1]; exact Nat.lt_trans (Nat.mod_lt _ (by decide)) (by decide)
  have Cv1 : ∀ w', Below W0.heap.size W0 w' → Calls Tryd.prog 15 [.agg (numA a), .agg (numA b)].toArray w' fun e w2 => e = .returned (.agg (numA v1)) ∧ Below W0.heap.size W0 w2 := fun w' hb => by rw [ev1]; exact (Add_any a b w' la lb).mono fun e w2 hh => ⟨hh.1, hb.trans (hh.2.mono hb.size)⟩
  obtain ⟨v2, ev2⟩ : ∃ v2, v2 = (v1 + c) % 57896044618658097711785492504343953926634992332820282019728792003956564819949 := ⟨_, rfl⟩
  have lv2 : v2 < 115792089237316195423570985008687907853269984665640564039457584007913129639936 := by rw [ev2]; exact Nat.lt_trans (Nat.mod_lt _ (by decide)) (by decide)
  have Cv2 : ∀ w', Below W0.heap.size W0 w' → Calls Tryd.prog 15 [.agg (numA v1), .agg (numA c)].toArray w' fun e w2 => e = .returned (.agg (numA v2)) ∧ Below W0.heap.size W0 w2 := fun w' hb => by rw [ev2]; exact (Add_any v1 c w' lv1 lc).mono fun e w2 hh => ⟨hh.1, hb.trans (hh.2.mono hb.size)⟩
  obtain ⟨v3, ev3⟩ : ∃ v3, v3 = (b + c) % 57896044618658097711785492504343953926634992332820282019728792003956564819949 := ⟨_, rfl⟩
  have lv3 : v3 < 115792089237316195423570985008687907853269984665640564039457584007913129639936 := by rw [ev3]; exact Nat.lt_trans (Nat.mod_lt _ (by decide)) (by decide)
  have Cv3 : ∀ w', Below W0.heap.size W0 w' → Calls Tryd.prog 15 [.agg (numA b), .agg (numA c)].toArray w' fun e w2 => e = .returned (.agg (numA v3)) ∧ Below W0.heap.size W0 w2 := fun w' hb => by rw [ev3]; exact (Add_any b c w' lb lc).mono fun e w2 hh => ⟨hh.1, hb.trans (hh.2.mono hb.size)⟩
  obtain ⟨v4, ev4⟩ : ∃ v4, v4 = (a + v3) % 57896044618658097711785492504343953926634992332820282019728792003956564819949 := ⟨_, rfl⟩
  have lv4 : v4 < 115792089237316195423570985008687907853269984665640564039457584007913129639936 := by rw [ev4]; exact Nat.lt_trans (Nat.mod_lt _ (by decide)) (by decide)
  have Cv4 : ∀ w', Below W0.heap.size W0 w' → Calls Tryd.prog 15 [.agg (numA a), .agg (numA v3)].toArray w' fun e w2 => e = .returned (.agg (numA v4)) ∧ Below W0.heap.size W0 w2 := fun w' hb => by rw [ev4]; exact (Add_any a v3 w' la lv3).mono fun e w2 hh => ⟨hh.1, hb.trans (hh.2.mono hb.size)⟩
  obtain ⟨v5, ev5⟩ : ∃ v5, v5 = a * b % 57896044618658097711785492504343953926634992332820282019728792003956564819949 := ⟨_, rfl⟩
  have lv5 : v5 < 115792089237316195423570985008687907853269984665640564039457584007913129639936 := by rw [ev5]; exact Nat.lt_trans (Nat.mod_lt _ (by decide)) (by decide)
  have Cv5 : ∀ w', Below W0.heap.size W0 w' → Calls Tryd.prog 19 [.agg (numA a), .agg (numA b)].toArray w' fun e w2 => e = .returned (.agg (numA v5)) ∧ Below W0.heap.size W0 w2 := fun w' hb => by rw [ev5]; exact (Mul_any a b w' la lb).mono fun e w2 hh => ⟨hh.1, hb.trans (hh.2.mono hb.size)⟩
  obtain ⟨v6, ev6⟩ : ∃ v6, v6 = v5 * c % 57896044618658097711785492504343953926634992332820282019728792003956564819949 := ⟨_, rfl⟩
  have lv6 : v6 < 115792089237316195423570985008687907853269984665640564039457584007913129639936 := by rw [ev6]; exact Nat.lt_trans (Nat.mod_lt _ (by decide)) (by decide)
  have Cv6 : ∀ w', Below W0.heap.size W0 w' → Calls Tryd.prog 19 [.agg (numA v5), .agg (numA c)].toArray w' fun e w2 => e = .returned (.agg (numA v6)) ∧ Below W0.heap.size W0 w2 := fun w' hb => by rw [ev6]; exact (Mul_any v5 c w' lv5 lc).mono fun e w2 hh => ⟨hh.1, hb.trans (hh.2.mono hb.size)⟩
  obtain ⟨v7, ev7⟩ : ∃ v7, v7 = b * c % 57896044618658097711785492504343953926634992332820282019728792003956564819949 := ⟨_, rfl⟩
  have lv7 : v7 < 115792089237316195423570985008687907853269984665640564039457584007913129639936 := by rw [ev7]; exact Nat.lt_trans (Nat.mod_lt _ (by decide)) (by decide)
  have Cv7 : ∀ w', Below W0.heap.size W0 w' → Calls Tryd.prog 19 [.agg (numA b), .agg (numA c)].toArray w' fun e w2 => e = .returned (.agg (numA v7)) ∧ Below W0.heap.size W0 w2 := fun w' hb => by rw [ev7]; exact (Mul_any b c w' lb lc).mono fun e w2 hh => ⟨hh.1, hb.trans (hh.2.mono hb.size)⟩
  obtain ⟨v8, ev8⟩ : ∃ v8, v8 = a * v7 % 57896044618658097711785492504343953926634992332820282019728792003956564819949 := ⟨_, rfl⟩
  have lv8 : v8 < 115792089237316195423570985008687907853269984665640564039457584007913129639936 := by rw [ev8]; exact Nat.lt_trans (Nat.mod_lt _ (by decide)) (by decide)
  have Cv8 : ∀ w', Below W0.heap.size W0 w' → Calls Tryd.prog 19 [.agg (numA a), .agg (numA v7)].toArray w' fun e w2 => e = .returned (.agg (numA v8)) ∧ Below W0.heap.size W0 w2 := fun w' hb => by rw [ev8]; exact (Mul_any a v7 w' la lv7).mono fun e w2 hh => ⟨hh.1, hb.trans (hh.2.mono hb.size)⟩
  refine wp_region_quiet (C := fun w' => Below W0.heap.size W0 w') (by kernel_rfl) (by kernel_rfl) (Below.trans Hw2.out ⟨rfl, rfl, rfl, Nat.le_refl _, fun _ _ => rfl⟩) ?_
  refine q_load (by kernel_rfl) 22 _ (w.heap.size) 22 (numA a) (0, 0) _ rfl (by kernel_rfl) Fa Tryd.underlying22 rfl (by rw [numA_size]; kernel_rfl) ?_
  simp only [Act.put, List.setIfInBounds_toArray, List.set_cons_succ, List.set_cons_zero]
  refine q_load (by kernel_rfl) 22 _ (w.heap.size + 1) 22 (numA b) (0, 0) _ rfl (by kernel_rfl) Fb Tryd.underlying22 rfl (by rw [numA_size]; kernel_rfl) ?_
  simp only [Act.put, List.setIfInBounds_toArray, List.set_cons_succ, List.set_cons_zero]
  refine q_call (by kernel_rfl) 15 Tryd.f15 _ _ _ [.agg (numA a), .agg (numA b)] (.agg (numA v1)) rfl (by kernel_rfl) Tryd.func15 (by kernel_rfl) rfl Cv1 ?_
  simp only [Act.put, List.setIfInBounds_toArray, List.set_cons_succ, List.set_cons_zero]
  refine q_load (by kernel_rfl) 22 _ (w.heap.size + 1 + 1) 22 (numA c) (0, 0) _ rfl (by kernel_rfl) Fc Tryd.underlying22 rfl (by rw [numA_size]; kernel_rfl) ?_
  simp only [Act.put, List.setIfInBounds_toArray, List.set_cons_succ, List.set_cons_zero]
  refine q_call (by kernel_rfl) 15 Tryd.f15 _ _ _ [.agg (numA v1), .agg (numA c)] (.agg (numA v2)) rfl (by kernel_rfl) Tryd.func15 (by kernel_rfl) rfl Cv2 ?_
  simp only [Act.put, List.setIfInBounds_toArray, List.set_cons_succ, List.set_cons_zero]
  refine q_load (by kernel_rfl) 22 _ (w.heap.size) 22 (numA a) (0, 0) _ rfl (by kernel_rfl) Fa Tryd.underlying22 rfl (by rw [numA_size]; kernel_rfl) ?_
  simp only [Act.put, List.setIfInBounds_toArray, List.set_cons_succ, List.set_cons_zero]
  refine q_load (by kernel_rfl) 22 _ (w.heap.size + 1) 22 (numA b) (0, 0) _ rfl (by kernel_rfl) Fb Tryd.underlying22 rfl (by rw [numA_size]; kernel_rfl) ?_
  simp only [Act.put, List.setIfInBounds_toArray, List.set_cons_succ, List.set_cons_zero]
  refine q_load (by kernel_rfl) 22 _ (w.heap.size + 1 + 1) 22 (numA c) (0, 0) _ rfl (by kernel_rfl) Fc Tryd.underlying22 rfl (by rw [numA_size]; kernel_rfl) ?_
  simp only [Act.put, List.setIfInBounds_toArray, List.set_cons_succ, List.set_cons_zero]
  refine q_call (by kernel_rfl) 15 Tryd.f15 _ _ _ [.agg (numA b), .agg (numA c)] (.agg (numA v3)) rfl (by kernel_rfl) Tryd.func15 (by kernel_rfl) rfl Cv3 ?_
  simp only [Act.put, List.setIfInBounds_toArray, List.set_cons_succ, List.set_cons_zero]
  refine q_call (by kernel_rfl) 15 Tryd.f15 _ _ _ [.agg (numA a), .agg (numA v3)] (.agg (numA v4)) rfl (by kernel_rfl) Tryd.func15 (by kernel_rfl) rfl Cv4 ?_
  simp only [Act.put, List.setIfInBounds_toArray, List.set_cons_succ, List.set_cons_zero]
  refine q_val (by kernel_rfl) (.bool false) (fun w' => (run_neq_num (t := 22) (e := 5) v2 v4 rfl (by kernel_rfl) (by kernel_rfl) lv2 lv4 Tryd.underlying22 Tryd.underlying5 sz5 ag5 eqG w').trans (by rw [show decide (v2 = v4) = true from decide_eq_true (by rw [ev2, ev4, ev1, ev3]; exact m_add_assoc _ a b c)]; rfl)) ?_
  simp only [Act.put, List.setIfInBounds_toArray, List.set_cons_succ, List.set_cons_zero]
  refine q_val (by kernel_rfl) (.bool false) (fun w' => by kernel_rfl) ?_
  simp only [Act.put, List.setIfInBounds_toArray, List.set_cons_succ, List.set_cons_zero]
  refine q_load (by kernel_rfl) 22 _ (w.heap.size) 22 (numA a) (0, 0) _ rfl (by kernel_rfl) Fa Tryd.underlying22 rfl (by rw [numA_size]; kernel_rfl) ?_
  simp only [Act.put, List.setIfInBounds_toArray, List.set_cons_succ, List.set_cons_zero]
  refine q_load (by kernel_rfl) 22 _ (w.heap.size + 1) 22 (numA b) (0, 0) _ rfl (by kernel_rfl) Fb Tryd.underlying22 rfl (by rw [numA_size]; kernel_rfl) ?_
  simp only [Act.put, List.setIfInBounds_toArray, List.set_cons_succ, List.set_cons_zero]
  refine q_call (by kernel_rfl) 19 Tryd.f19 _ _ _ [.agg (numA a), .agg (numA b)] (.agg (numA v5)) rfl (by kernel_rfl) Tryd.func19 (by kernel_rfl) rfl Cv5 ?_
  simp only [Act.put, List.setIfInBounds_toArray, List.set_cons_succ, List.set_cons_zero]
  refine q_load (by kernel_rfl) 22 _ (w.heap.size + 1 + 1) 22 (numA c) (0, 0) _ rfl (by kernel_rfl) Fc Tryd.underlying22 rfl (by rw [numA_size]; kernel_rfl) ?_
  simp only [Act.put, List.setIfInBounds_toArray, List.set_cons_succ, List.set_cons_zero]
  refine q_call (by kernel_rfl) 19 Tryd.f19 _ _ _ [.agg (numA v5), .agg (numA c)] (.agg (numA v6)) rfl (by kernel_rfl) Tryd.func19 (by kernel_rfl) rfl Cv6 ?_
  simp only [Act.put, List.setIfInBounds_toArray, List.set_cons_succ, List.set_cons_zero]
  refine q_load (by kernel_rfl) 22 _ (w.heap.size) 22 (numA a) (0, 0) _ rfl (by kernel_rfl) Fa Tryd.underlying22 rfl (by rw [numA_size]; kernel_rfl) ?_
  simp only [Act.put, List.setIfInBounds_toArray, List.set_cons_succ, List.set_cons_zero]
  refine q_load (by kernel_rfl) 22 _ (w.heap.size + 1) 22 (numA b) (0, 0) _ rfl (by kernel_rfl) Fb Tryd.underlying22 rfl (by rw [numA_size]; kernel_rfl) ?_
  simp only [Act.put, List.setIfInBounds_toArray, List.set_cons_succ, List.set_cons_zero]
  refine q_load (by kernel_rfl) 22 _ (w.heap.size + 1 + 1) 22 (numA c) (0, 0) _ rfl (by kernel_rfl) Fc Tryd.underlying22 rfl (by rw [numA_size]; kernel_rfl) ?_
  simp only [Act.put, List.setIfInBounds_toArray, List.set_cons_succ, List.set_cons_zero]
  refine q_call (by kernel_rfl) 19 Tryd.f19 _ _ _ [.agg (numA b), .agg (numA c)] (.agg (numA v7)) rfl (by kernel_rfl) Tryd.func19 (by kernel_rfl) rfl Cv7 ?_
  simp only [Act.put, List.setIfInBounds_toArray, List.set_cons_succ, List.set_cons_zero]
  refine q_call (by kernel_rfl) 19 Tryd.f19 _ _ _ [.agg (numA a), .agg (numA v7)] (.agg (numA v8)) rfl (by kernel_rfl) Tryd.func19 (by kernel_rfl) rfl Cv8 ?_
  simp only [Act.put, List.setIfInBounds_toArray, List.set_cons_succ, List.set_cons_zero]
  refine q_val (by kernel_rfl) (.bool false) (fun w' => (run_neq_num (t := 22) (e := 5) v6 v8 rfl (by kernel_rfl) (by kernel_rfl) lv6 lv8 Tryd.underlying22 Tryd.underlying5 sz5 ag5 eqG w').trans (by rw [show decide (v6 = v8) = true from decide_eq_true (by rw [ev6, ev8, ev5, ev7]; exact m_mul_assoc _ a b c)]; rfl)) ?_
  simp only [Act.put, List.setIfInBounds_toArray, List.set_cons_succ, List.set_cons_zero]
  refine q_val (by kernel_rfl) (.bool false) (fun w' => by kernel_rfl) ?_
  simp only [Act.put, List.setIfInBounds_toArray, List.set_cons_succ, List.set_cons_zero]
  refine wpQuiet_nil ?_
  intro w3 hw30
  have Hw3 := hide hw30
  clear hw30 Fa Fb Fc HPW la lb lc Cv1 Cv2 Cv3 Cv4 Cv5 Cv6 Cv7 Cv8 lv1 lv2 lv3 lv4 lv5 lv6 lv7 lv8 ev1 ev2 ev3 ev4 ev5 ev6 ev7 ev8
  go_wp2_with fail
  have Fa := GA.out
  have Fb := GB.out
  have Fc := GC.out
  have HPW := HPP.out
  have la := LA.out
  have lb := LB.out
  have lc := LC.out
  obtain ⟨v1, ev1⟩ : ∃ v1, v1 = (b + c) % 57896044618658097711785492504343953926634992332820282019728792003956564819949 := ⟨_, rfl⟩
  have lv1 : v1 < 115792089237316195423570985008687907853269984665640564039457584007913129639936 := by rw [ev1]; exact Nat.lt_trans (Nat.mod_lt _ (by decide)) (by decide)
  have Cv1 : ∀ w', Below W0.heap.size W0 w' → Calls Tryd.prog 15 [.agg (numA b), .agg (numA c)].toArray w' fun e w2 => e = .returned (.agg (numA v1)) ∧ Below W0.heap.size W0 w2 := fun w' hb => by rw [ev1]; exact (Add_any b c w' lb lc).mono fun e w2 hh => ⟨hh.1, hb.trans (hh.2.mono hb.size)⟩
  obtain ⟨v2, ev2⟩ : ∃ v2, v2 = a * v1 % 57896044618658097711785492504343953926634992332820282019728792003956564819949 := ⟨_, rfl⟩
  have lv2 : v2 < 115792089237316195423570985008687907853269984665640564039457584007913129639936 := by rw [ev2]; exact Nat.lt_trans (Nat.mod_lt _ (by decide)) (by decide)
  have Cv2 : ∀ w', Below W0.heap.size W0 w' → Calls Tryd.prog 19 [.agg (numA a), .agg (numA v1)].toArray w' fun e w2 => e = .returned (.agg (numA v2)) ∧ Below W0.heap.size W0 w2 := fun w' hb => by rw [ev2]; exact (Mul_any a v1 w' la lv1).mono fun e w2 hh => ⟨hh.1, hb.trans (hh.2.mono hb.size)⟩
  obtain ⟨v3, ev3⟩ : ∃ v3, v3 = a * b % 57896044618658097711785492504343953926634992332820282019728792003956564819949 := ⟨_, rfl⟩
  have lv3 : v3 < 115792089237316195423570985008687907853269984665640564039457584007913129639936 := by rw [ev3]; exact Nat.lt_trans (Nat.mod_lt _ (by decide)) (by decide)
  have Cv3 : ∀ w', Below W0.heap.size W0 w' → Calls Tryd.prog 19 [.agg (numA a), .agg (numA b)].toArray w' fun e w2 => e = .returned (.agg (numA v3)) ∧ Below W0.heap.size W0 w2 := fun w' hb => by rw [ev3]; exact (Mul_any a b w' la lb).mono fun e w2 hh => ⟨hh.1, hb.trans (hh.2.mono hb.size)⟩
  obtain ⟨v4, ev4⟩ : ∃ v4, v4 = a * c % 57896044618658097711785492504343953926634992332820282019728792003956564819949 := ⟨_, rfl⟩
  have lv4 : v4 < 115792089237316195423570985008687907853269984665640564039457584007913129639936 := by rw [ev4]; exact Nat.lt_trans (Nat.mod_lt _ (by decide)) (by decide)
  have Cv4 : ∀ w', Below W0.heap.size W0 w' → Calls Tryd.prog 19 [.agg (numA a), .agg (numA c)].toArray w' fun e w2 => e = .returned (.agg (numA v4)) ∧ Below W0.heap.size W0 w2 := fun w' hb => by rw [ev4]; exact (Mul_any a c w' la lc).mono fun e w2 hh => ⟨hh.1, hb.trans (hh.2.mono hb.size)⟩
  obtain ⟨v5, ev5⟩ : ∃ v5, v5 = (v3 + v4) % 57896044618658097711785492504343953926634992332820282019728792003956564819949 := ⟨_, rfl⟩
  have lv5 : v5 < 115792089237316195423570985008687907853269984665640564039457584007913129639936 := by rw [ev5]; exact Nat.lt_trans (Nat.mod_lt _ (by decide)) (by decide)
  have Cv5 : ∀ w', Below W0.heap.size W0 w' → Calls Tryd.prog 15 [.agg (numA v3), .agg (numA v4)].toArray w' fun e w2 => e = .returned (.agg (numA v5)) ∧ Below W0.heap.size W0 w2 := fun w' hb => by rw [ev5]; exact (Add_any v3 v4 w' lv3 lv4).mono fun e w2 hh => ⟨hh.1, hb.trans (hh.2.mono hb.size)⟩
  obtain ⟨v6, ev6⟩ : ∃ v6, v6 = (a + (57896044618658097711785492504343953926634992332820282019728792003956564819949 - b % 57896044618658097711785492504343953926634992332820282019728792003956564819949)) % 57896044618658097711785492504343953926634992332820282019728792003956564819949 := ⟨_, rfl⟩
  have lv6 : v6 < 115792089237316195423570985008687907853269984665640564039457584007913129639936 := by rw [ev6]; exact Nat.lt_trans (Nat.mod_lt _ (by decide)) (by decide)
  have Cv6 : ∀ w', Below W0.heap.size W0 w' → Calls Tryd.prog 17 [.agg (numA a), .agg (numA b)].toArray w' fun e w2 => e = .returned (.agg (numA v6)) ∧ Below W0.heap.size W0 w2 := fun w' hb => by rw [ev6]; exact (Sub_any a b w' la lb (PrimeAt.below HPW hb)).mono fun e w2 hh => ⟨hh.1, hb.trans (hh.2.mono hb.size)⟩
  obtain ⟨v7, ev7⟩ : ∃ v7, v7 = (v6 + b) % 57896044618658097711785492504343953926634992332820282019728792003956564819949 := ⟨_, rfl⟩
  have lv7 : v7 < 115792089237316195423570985008687907853269984665640564039457584007913129639936 := by rw [ev7]; exact Nat.lt_trans (Nat.mod_lt _ (by decide)) (by decide)
  have Cv7 : ∀ w', Below W0.heap.size W0 w' → Calls Tryd.prog 15 [.agg (numA v6), .agg (numA b)].toArray w' fun e w2 => e = .returned (.agg (numA v7)) ∧ Below W0.heap.size W0 w2 := fun w' hb => by rw [ev7]; exact (Add_any v6 b w' lv6 lb).mono fun e w2 hh => ⟨hh.1, hb.trans (hh.2.mono hb.size)⟩
  obtain ⟨v8, ev8⟩ : ∃ v8, v8 = a % 57896044618658097711785492504343953926634992332820282019728792003956564819949 := ⟨_, rfl⟩
  have lv8 : v8 < 115792089237316195423570985008687907853269984665640564039457584007913129639936 := by rw [ev8]; exact Nat.lt_trans (Nat.mod_lt _ (by decide)) (by decide)
  have Cv8 : ∀ w', Below W0.heap.size W0 w' → Calls Tryd.prog 13 [.agg (numA a)].toArray w' fun e w2 => e = .returned (.agg (numA v8)) ∧ Below W0.heap.size W0 w2 := fun w' hb => by rw [ev8]; exact (Reduce_any a w' la).mono fun e w2 hh => ⟨hh.1, hb.trans (hh.2.mono hb.size)⟩
  obtain ⟨v9, ev9⟩ : ∃ v9, v9 = (a + (57896044618658097711785492504343953926634992332820282019728792003956564819949 - a % 57896044618658097711785492504343953926634992332820282019728792003956564819949)) % 57896044618658097711785492504343953926634992332820282019728792003956564819949 := ⟨_, rfl⟩
  have lv9 : v9 < 115792089237316195423570985008687907853269984665640564039457584007913129639936 := by rw [ev9]; exact Nat.lt_trans (Nat.mod_lt _ (by decide)) (by decide)
  have Cv9 : ∀ w', Below W0.heap.size W0 w' → Calls Tryd.prog 17 [.agg (numA a), .agg (numA a)].toArray w' fun e w2 => e = .returned (.agg (numA v9)) ∧ Below W0.heap.size W0 w2 := fun w' hb => by rw [ev9]; exact (Sub_any a a w' la la (PrimeAt.below HPW hb)).mono fun e w2 hh => ⟨hh.1, hb.trans (hh.2.mono hb.size)⟩
  obtain ⟨v10, ev10⟩ : ∃ v10, v10 = decide (v9 % 57896044618658097711785492504343953926634992332820282019728792003956564819949 = 0) := ⟨_, rfl⟩
  have Cv10 : ∀ w', Below W0.heap.size W0 w' → Calls Tryd.prog 21 [.agg (numA v9)].toArray w' fun e w2 => e = .returned (.bool v10) ∧ Below W0.heap.size W0 w2 := fun w' hb => by rw [ev10]; exact (Zero_any v9 w' lv9).mono fun e w2 hh => ⟨hh.1, hb.trans (hh.2.mono hb.size)⟩
  have zv10 : v10 = true := by rw [ev10]; exact decide_eq_true (by rw [ev9]; exact m_sub_self _ a (by decide))
  refine wp_region_quiet (C := fun w' => Below W0.heap.size W0 w') (by kernel_rfl) (by kernel_rfl) (Below.trans Hw3.out ⟨rfl, rfl, rfl, Nat.le_refl _, fun _ _ => rfl⟩) ?_
  refine q_load (by kernel_rfl) 22 _ (w.heap.size) 22 (numA a) (0, 0) _ rfl (by kernel_rfl) Fa Tryd.underlying22 rfl (by rw [numA_size]; kernel_rfl) ?_
  simp only [Act.put, List.setIfInBounds_toArray, List.set_cons_succ, List.set_cons_zero]
  refine q_load (by kernel_rfl) 22 _ (w.heap.size + 1) 22 (numA b) (0, 0) _ rfl (by kernel_rfl) Fb Tryd.underlying22 rfl (by rw [numA_size]; kernel_rfl) ?_
  simp only [Act.put, List.setIfInBounds_toArray, List.set_cons_succ, List.set_cons_zero]
  refine q_load (by kernel_rfl) 22 _ (w.heap.size + 1 + 1) 22 (numA c) (0, 0) _ rfl (by kernel_rfl) Fc Tryd.underlying22 rfl (by rw [numA_size]; kernel_rfl) ?_
  simp only [Act.put, List.setIfInBounds_toArray, List.set_cons_succ, List.set_cons_zero]
  refine q_call (by kernel_rfl) 15 Tryd.f15 _ _ _ [.agg (numA b), .agg (numA c)] (.agg (numA v1)) rfl (by kernel_rfl) Tryd.func15 (by kernel_rfl) rfl Cv1 ?_
  simp only [Act.put, List.setIfInBounds_toArray, List.set_cons_succ, List.set_cons_zero]
  refine q_call (by kernel_rfl) 19 Tryd.f19 _ _ _ [.agg (numA a), .agg (numA v1)] (.agg (numA v2)) rfl (by kernel_rfl) Tryd.func19 (by kernel_rfl) rfl Cv2 ?_
  simp only [Act.put, List.setIfInBounds_toArray, List.set_cons_succ, List.set_cons_zero]
  refine q_load (by kernel_rfl) 22 _ (w.heap.size) 22 (numA a) (0, 0) _ rfl (by kernel_rfl) Fa Tryd.underlying22 rfl (by rw [numA_size]; kernel_rfl) ?_
  simp only [Act.put, List.setIfInBounds_toArray, List.set_cons_succ, List.set_cons_zero]
  refine q_load (by kernel_rfl) 22 _ (w.heap.size + 1) 22 (numA b) (0, 0) _ rfl (by kernel_rfl) Fb Tryd.underlying22 rfl (by rw [numA_size]; kernel_rfl) ?_
  simp only [Act.put, List.setIfInBounds_toArray, List.set_cons_succ, List.set_cons_zero]
  refine q_call (by kernel_rfl) 19 Tryd.f19 _ _ _ [.agg (numA a), .agg (numA b)] (.agg (numA v3)) rfl (by kernel_rfl) Tryd.func19 (by kernel_rfl) rfl Cv3 ?_
  simp only [Act.put, List.setIfInBounds_toArray, List.set_cons_succ, List.set_cons_zero]
  refine q_load (by kernel_rfl) 22 _ (w.heap.size) 22 (numA a) (0, 0) _ rfl (by kernel_rfl) Fa Tryd.underlying22 rfl (by rw [numA_size]; kernel_rfl) ?_
  simp only [Act.put, List.setIfInBounds_toArray, List.set_cons_succ, List.set_cons_zero]
  refine q_load (by kernel_rfl) 22 _ (w.heap.size + 1 + 1) 22 (numA c) (0, 0) _ rfl (by kernel_rfl) Fc Tryd.underlying22 rfl (by rw [numA_size]; kernel_rfl) ?_
  simp only [Act.put, List.setIfInBounds_toArray, List.set_cons_succ, List.set_cons_zero]
  refine q_call (by kernel_rfl) 19 Tryd.f19 _ _ _ [.agg (numA a), .agg (numA c)] (.agg (numA v4)) rfl (by kernel_rfl) Tryd.func19 (by kernel_rfl) rfl Cv4 ?_
  simp only [Act.put, List.setIfInBounds_toArray, List.set_cons_succ, List.set_cons_zero]
  refine q_call (by kernel_rfl) 15 Tryd.f15 _ _ _ [.agg (numA v3), .agg (numA v4)] (.agg (numA v5)) rfl (by kernel_rfl) Tryd.func15 (by kernel_rfl) rfl Cv5 ?_
  simp only [Act.put, List.setIfInBounds_toArray, List.set_cons_succ, List.set_cons_zero]
  refine q_val (by kernel_rfl) (.bool true) (fun w' => (run_eql_num (t := 22) (e := 5) v2 v5 rfl (by kernel_rfl) (by kernel_rfl) lv2 lv5 Tryd.underlying22 Tryd.underlying5 sz5 ag5 eqG w').trans (by rw [show decide (v2 = v5) = true from decide_eq_true (by rw [ev2, ev5, ev1, ev3, ev4]; exact m_distrib _ a b c)])) ?_
  simp only [Act.put, List.setIfInBounds_toArray, List.set_cons_succ, List.set_cons_zero]
  refine q_val (by kernel_rfl) (.bool true) (fun w' => by kernel_rfl) ?_
  simp only [Act.put, List.setIfInBounds_toArray, List.set_cons_succ, List.set_cons_zero]
  refine q_load (by kernel_rfl) 22 _ (w.heap.size) 22 (numA a) (0, 0) _ rfl (by kernel_rfl) Fa Tryd.underlying22 rfl (by rw [numA_size]; kernel_rfl) ?_
  simp only [Act.put, List.setIfInBounds_toArray, List.set_cons_succ, List.set_cons_zero]
  refine q_load (by kernel_rfl) 22 _ (w.heap.size + 1) 22 (numA b) (0, 0) _ rfl (by kernel_rfl) Fb Tryd.underlying22 rfl (by rw [numA_size]; kernel_rfl) ?_
  simp only [Act.put, List.setIfInBounds_toArray, List.set_cons_succ, List.set_cons_zero]
  refine q_call (by kernel_rfl) 17 Tryd.f17 _ _ _ [.agg (numA a), .agg (numA b)] (.agg (numA v6)) rfl (by kernel_rfl) Tryd.func17 (by kernel_rfl) rfl Cv6 ?_
  simp only [Act.put, List.setIfInBounds_toArray, List.set_cons_succ, List.set_cons_zero]
  refine q_load (by kernel_rfl) 22 _ (w.heap.size + 1) 22 (numA b) (0, 0) _ rfl (by kernel_rfl) Fb Tryd.underlying22 rfl (by rw [numA_size]; kernel_rfl) ?_
  simp only [Act.put, List.setIfInBounds_toArray, List.set_cons_succ, List.set_cons_zero]
  refine q_call (by kernel_rfl) 15 Tryd.f15 _ _ _ [.agg (numA v6), .agg (numA b)] (.agg (numA v7)) rfl (by kernel_rfl) Tryd.func15 (by kernel_rfl) rfl Cv7 ?_
  simp only [Act.put, List.setIfInBounds_toArray, List.set_cons_succ, List.set_cons_zero]
  refine q_load (by kernel_rfl) 22 _ (w.heap.size) 22 (numA a) (0, 0) _ rfl (by kernel_rfl) Fa Tryd.underlying22 rfl (by rw [numA_size]; kernel_rfl) ?_
  simp only [Act.put, List.setIfInBounds_toArray, List.set_cons_succ, List.set_cons_zero]
  refine q_call (by kernel_rfl) 13 Tryd.f13 _ _ _ [.agg (numA a)] (.agg (numA v8)) rfl (by kernel_rfl) Tryd.func13 (by kernel_rfl) rfl Cv8 ?_
  simp only [Act.put, List.setIfInBounds_toArray, List.set_cons_succ, List.set_cons_zero]
  refine q_val (by kernel_rfl) (.bool true) (fun w' => (run_eql_num (t := 22) (e := 5) v7 v8 rfl (by kernel_rfl) (by kernel_rfl) lv7 lv8 Tryd.underlying22 Tryd.underlying5 sz5 ag5 eqG w').trans (by rw [show decide (v7 = v8) = true from decide_eq_true (by rw [ev7, ev8, ev6]; exact m_sub_add _ a b (by decide))])) ?_
  simp only [Act.put, List.setIfInBounds_toArray, List.set_cons_succ, List.set_cons_zero]
  refine q_val (by kernel_rfl) (.bool true) (fun w' => by kernel_rfl) ?_
  simp only [Act.put, List.setIfInBounds_toArray, List.set_cons_succ, List.set_cons_zero]
  refine q_val (by kernel_rfl) (.bool true) (fun w' => by kernel_rfl) ?_
  simp only [Act.put, List.setIfInBounds_toArray, List.set_cons_succ, List.set_cons_zero]
  refine q_load (by kernel_rfl) 22 _ (w.heap.size) 22 (numA a) (0, 0) _ rfl (by kernel_rfl) Fa Tryd.underlying22 rfl (by rw [numA_size]; kernel_rfl) ?_
  simp only [Act.put, List.setIfInBounds_toArray, List.set_cons_succ, List.set_cons_zero]
  refine q_load (by kernel_rfl) 22 _ (w.heap.size) 22 (numA a) (0, 0) _ rfl (by kernel_rfl) Fa Tryd.underlying22 rfl (by rw [numA_size]; kernel_rfl) ?_
  simp only [Act.put, List.setIfInBounds_toArray, List.set_cons_succ, List.set_cons_zero]
  refine q_call (by kernel_rfl) 17 Tryd.f17 _ _ _ [.agg (numA a), .agg (numA a)] (.agg (numA v9)) rfl (by kernel_rfl) Tryd.func17 (by kernel_rfl) rfl Cv9 ?_
  simp only [Act.put, List.setIfInBounds_toArray, List.set_cons_succ, List.set_cons_zero]
  refine q_call (by kernel_rfl) 21 Tryd.f21 _ _ _ [.agg (numA v9)] (.bool true) rfl (by kernel_rfl) Tryd.func21 (by kernel_rfl) rfl (by rw [← zv10]; exact Cv10) ?_
  simp only [Act.put, List.setIfInBounds_toArray, List.set_cons_succ, List.set_cons_zero]
  refine q_val (by kernel_rfl) (.bool true) (fun w' => by kernel_rfl) ?_
  simp only [Act.put, List.setIfInBounds_toArray, List.set_cons_succ, List.set_cons_zero]
  refine q_val (by kernel_rfl) (.bool true) (fun w' => by kernel_rfl) ?_
  simp only [Act.put, List.setIfInBounds_toArray, List.set_cons_succ, List.set_cons_zero]
  refine wpQuiet_nil ?_
  intro w4 hw40
  have Hw4 := hide hw40
  clear hw40 Fa Fb Fc HPW la lb lc Cv1 Cv2 Cv3 Cv4 Cv5 Cv6 Cv7 Cv8 Cv9 Cv10 lv1 lv2 lv3 lv4 lv5 lv6 lv7 lv8 lv9 zv10 ev1 ev2 ev3 ev4 ev5 ev6 ev7 ev8 ev9 ev10
  go_wp2_with fail
  go_ret
  exact ⟨rfl, HQ.out.trans (Hw4.out.mono (by have := HS.out; omega))⟩
end Go.Proofs.YtainefilkccemaaDoor
