/-
  What LimbQuotients answers: true, whatever two numbers are.
-/
import Derived.Test.YtainefilkccemaaDoorW13
import Derived.Test.YtainefilkccemaaDoorModB
import Derived.Test.YtainefilkccemaaDoorAlloc
namespace Go.Proofs.YtainefilkccemaaDoor
open Go.RowKit
set_option linter.unusedSimpArgs false
set_option linter.unusedVariables false

set_option maxHeartbeats 4000000 in
theorem quotients_any (a b : Nat) (w : World) (la : a < 115792089237316195423570985008687907853269984665640564039457584007913129639936) (lb : b < 115792089237316195423570985008687907853269984665640564039457584007913129639936) (hp : PrimeAt w) :
    Calls Tryd.prog 10 #[.agg (numA a), .agg (numA b)] w fun e w' => e = .returned (.bool true) ∧ Below w.heap.size w w' := by
  have LA := hide la
  have LB := hide lb
  have HP := hide hp
  clear la lb hp
  go_enter Tryd.func10, Tryd.ntmps10
  go_wp2_with fail
  have QX : Below w.heap.size w ((w.alloc (.cells (numA a) 22)).alloc (.cells (numA b) 22)) := by (repeat (first | with_reducible exact Below.refl _ _ | with_reducible assumption | with_reducible refine Below.drew ?_ | (with_reducible refine Below.alloc ?_ ?hB _; (case hB => first | omega | (simp <;> omega)))))
  refine (alive_any _ (PrimeAt.below HP.out QX)).mono ?_
  rintro e w1 ⟨rfl, hb1⟩
  obtain ⟨W0, hW⟩ : ∃ W0, W0 = ((w.alloc (.cells (numA a) 22)).alloc (.cells (numA b) 22)) := ⟨_, rfl⟩
  rw [← hW] at hb1 QX
  have hsz : W0.heap.size = w.heap.size + 2 := by rw [hW]; simp
  have HPP := hide (PrimeAt.below HP.out QX)
  have Ga : Hid (∀ w', Below W0.heap.size W0 w' → w'.heap[w.heap.size]? = some (.cells (numA a) 22 (0, 0))) := fun w' hb => by
    rw [hb.block _ (by omega), hW]; exact heap_alloc2_old _ _ _
  have Gb : Hid (∀ w', Below W0.heap.size W0 w' → w'.heap[w.heap.size + 1]? = some (.cells (numA b) 22 (0, 0))) := fun w' hb => by
    rw [hb.block _ (by omega), hW]; exact heap_alloc2_new _ _ _
  have H1 := hide hb1
  have HS := hide hsz
  have HQ := hide QX
  clear hb1 hsz QX hW
  go_wp2_with (refine wpList_load_row rfl 22 _ rfl (w.heap.size + 1) rfl 22 (numA b) (0, 0) _ (Gb.out _ H1.out) Tryd.underlying22 rfl ?hs ?_; (case hs => rw [numA_size]; kernel_rfl))
  have hz := Zero_any b w1 LB.out
  by_cases zb : b % 57896044618658097711785492504343953926634992332820282019728792003956564819949 = 0
  · rw [decide_eq_true zb] at hz
    refine hz.mono ?_
    clear hz
    rintro e w2 ⟨rfl, hb2⟩
    have HB : Hid (Below W0.heap.size W0 w2) := H1.out.trans (hb2.mono H1.out.size)
    have ZB := hide zb
    clear hb2 zb
    go_wp2_with fail
    have zb := ZB.out
    have Fa := Ga.out
    have Fb := Gb.out
    have HPW := HPP.out
    have la := LA.out
    have lb := LB.out
    have l0 : 0 < 115792089237316195423570985008687907853269984665640564039457584007913129639936 := by decide
    obtain ⟨v1, ev1⟩ : ∃ v1, v1 = invOf b := ⟨_, rfl⟩
    have lv1 : v1 < 115792089237316195423570985008687907853269984665640564039457584007913129639936 := by rw [ev1]; exact invOf_lt _
    have Cv1 : ∀ w', Below W0.heap.size W0 w' → Calls Tryd.prog 22 [.agg (numA b)].toArray w' fun e w2 => e = .returned (.agg (numA v1)) ∧ Below W0.heap.size W0 w2 := fun w' hb => by rw [ev1]; exact (Inv_any b w' lb (PrimeAt.below HPW hb)).mono fun e w2 hh => ⟨hh.1, hb.trans (hh.2.mono hb.size)⟩
    obtain ⟨v2, ev2⟩ : ∃ v2, v2 = a * v1 % 57896044618658097711785492504343953926634992332820282019728792003956564819949 := ⟨_, rfl⟩
    have lv2 : v2 < 115792089237316195423570985008687907853269984665640564039457584007913129639936 := by rw [ev2]; exact Nat.lt_trans (Nat.mod_lt _ (by decide)) (by decide)
    have Cv2 : ∀ w', Below W0.heap.size W0 w' → Calls Tryd.prog 19 [.agg (numA a), .agg (numA v1)].toArray w' fun e w2 => e = .returned (.agg (numA v2)) ∧ Below W0.heap.size W0 w2 := fun w' hb => by rw [ev2]; exact (Mul_any a v1 w' la lv1).mono fun e w2 hh => ⟨hh.1, hb.trans (hh.2.mono hb.size)⟩
    obtain ⟨v3, ev3⟩ : ∃ v3, v3 = decide (v2 % 57896044618658097711785492504343953926634992332820282019728792003956564819949 = 0) := ⟨_, rfl⟩
    have Cv3 : ∀ w', Below W0.heap.size W0 w' → Calls Tryd.prog 21 [.agg (numA v2)].toArray w' fun e w2 => e = .returned (.bool v3) ∧ Below W0.heap.size W0 w2 := fun w' hb => by rw [ev3]; exact (Zero_any v2 w' lv2).mono fun e w2 hh => ⟨hh.1, hb.trans (hh.2.mono hb.size)⟩
    have zv3 : v3 = true := by rw [ev3]; exact decide_eq_true (by rw [ev2, ev1, inv_zero b zb]; simp)
    refine wp_region_quiet (C := fun w' => Below W0.heap.size W0 w') (by kernel_rfl) (by kernel_rfl) (Below.trans HB.out ⟨rfl, rfl, rfl, Nat.le_refl _, fun _ _ => rfl⟩) ?_
    refine q_load (by kernel_rfl) 22 _ (w.heap.size) 22 (numA a) (0, 0) _ rfl (by kernel_rfl) Fa Tryd.underlying22 rfl (by rw [numA_size]; kernel_rfl) ?_
    simp only [Act.put, List.setIfInBounds_toArray, List.set_cons_succ, List.set_cons_zero]
    refine q_load (by kernel_rfl) 22 _ (w.heap.size + 1) 22 (numA b) (0, 0) _ rfl (by kernel_rfl) Fb Tryd.underlying22 rfl (by rw [numA_size]; kernel_rfl) ?_
    simp only [Act.put, List.setIfInBounds_toArray, List.set_cons_succ, List.set_cons_zero]
    refine q_call (by kernel_rfl) 22 Tryd.f22 _ _ _ [.agg (numA b)] (.agg (numA v1)) rfl (by kernel_rfl) Tryd.func22 (by kernel_rfl) rfl Cv1 ?_
    simp only [Act.put, List.setIfInBounds_toArray, List.set_cons_succ, List.set_cons_zero]
    refine q_call (by kernel_rfl) 19 Tryd.f19 _ _ _ [.agg (numA a), .agg (numA v1)] (.agg (numA v2)) rfl (by kernel_rfl) Tryd.func19 (by kernel_rfl) rfl Cv2 ?_
    simp only [Act.put, List.setIfInBounds_toArray, List.set_cons_succ, List.set_cons_zero]
    refine q_call (by kernel_rfl) 21 Tryd.f21 _ _ _ [.agg (numA v2)] (.bool true) rfl (by kernel_rfl) Tryd.func21 (by kernel_rfl) rfl (by rw [← zv3]; exact Cv3) ?_
    simp only [Act.put, List.setIfInBounds_toArray, List.set_cons_succ, List.set_cons_zero]
    refine q_val (by kernel_rfl) (.bool true) (fun w' => by kernel_rfl) ?_
    simp only [Act.put, List.setIfInBounds_toArray, List.set_cons_succ, List.set_cons_zero]
    refine wpQuiet_nil ?_
    intro w3 hw30
    have Hw3 := hide hw30
    clear hw30 HPW Fa Fb la lb l0 Cv1 Cv2 Cv3 lv1 lv2 zv3 ev1 ev2 ev3
    clear zb
    go_wp2_with fail
    go_ret
    exact ⟨rfl, HQ.out.trans (Below.mono Hw3.out (by have := HS.out; omega))⟩
  · rw [decide_eq_false zb] at hz
    refine hz.mono ?_
    clear hz
    rintro e w2 ⟨rfl, hb2⟩
    have HB : Hid (Below W0.heap.size W0 w2) := H1.out.trans (hb2.mono H1.out.size)
    have ZB := hide zb
    have HI : Hid (b * invOf b % 57896044618658097711785492504343953926634992332820282019728792003956564819949 = 1 % 57896044618658097711785492504343953926634992332820282019728792003956564819949) := inv_one b zb
    clear hb2 zb
    go_wp2_with fail
    have la := LA.out
    have lb := LB.out
    have l0 : 0 < 115792089237316195423570985008687907853269984665640564039457584007913129639936 := by decide
    obtain ⟨v1, ev1⟩ : ∃ v1, v1 = invOf b := ⟨_, rfl⟩
    have lv1 : v1 < 115792089237316195423570985008687907853269984665640564039457584007913129639936 := by rw [ev1]; exact invOf_lt _
    obtain ⟨v2, ev2⟩ : ∃ v2, v2 = a * v1 % 57896044618658097711785492504343953926634992332820282019728792003956564819949 := ⟨_, rfl⟩
    have lv2 : v2 < 115792089237316195423570985008687907853269984665640564039457584007913129639936 := by rw [ev2]; exact Nat.lt_trans (Nat.mod_lt _ (by decide)) (by decide)
    refine wp_region_quiet_made (W0 := W0) (ob := .cells #[.int .u8 0, .int .u8 0, .int .u8 0, .int .u8 0, .int .u8 0, .int .u8 0, .int .u8 0, .int .u8 0, .int .u8 0, .int .u8 0, .int .u8 0, .int .u8 0, .int .u8 0, .int .u8 0, .int .u8 0, .int .u8 0, .int .u8 0, .int .u8 0, .int .u8 0, .int .u8 0, .int .u8 0, .int .u8 0, .int .u8 0, .int .u8 0, .int .u8 0, .int .u8 0, .int .u8 0, .int .u8 0, .int .u8 0, .int .u8 0, .int .u8 0, .int .u8 0] 22) 4 _ rfl (by kernel_rfl) (by kernel_rfl) (by kernel_rfl) (by kernel_rfl) (by kernel_rfl) (by kernel_rfl) (by kernel_rfl) rfl rfl (fun a w => by kernel_rfl) (by kernel_rfl) (by kernel_rfl) (by kernel_rfl) HB.out ?_
    apply Exists.intro
    refine And.intro ?_ ?_
    · intro B hB
      dsimp only [List.take_succ_cons, List.take_zero]
      have HPW := PrimeAt.below HPP.out hB
      have Fa := fun w' (hb : Below B.heap.size B w') => Ga.out w' (hB.trans (hb.mono hB.size))
      have Fb := fun w' (hb : Below B.heap.size B w') => Gb.out w' (hB.trans (hb.mono hB.size))
      have Cv1 : ∀ w', Below B.heap.size B w' → Calls Tryd.prog 22 [.agg (numA b)].toArray w' fun e w2 => e = .returned (.agg (numA v1)) ∧ Below B.heap.size B w2 := fun w' hb => by rw [ev1]; exact (Inv_any b w' lb (PrimeAt.below HPW hb)).mono fun e w2 hh => ⟨hh.1, hb.trans (hh.2.mono hb.size)⟩
      have Cv2 : ∀ w', Below B.heap.size B w' → Calls Tryd.prog 19 [.agg (numA a), .agg (numA v1)].toArray w' fun e w2 => e = .returned (.agg (numA v2)) ∧ Below B.heap.size B w2 := fun w' hb => by rw [ev2]; exact (Mul_any a v1 w' la lv1).mono fun e w2 hh => ⟨hh.1, hb.trans (hh.2.mono hb.size)⟩
      refine q_load (by kernel_rfl) 22 _ (w.heap.size) 22 (numA a) (0, 0) _ rfl (by kernel_rfl) Fa Tryd.underlying22 rfl (by rw [numA_size]; kernel_rfl) ?_
      simp only [Act.put, List.setIfInBounds_toArray, List.set_cons_succ, List.set_cons_zero]
      refine q_load (by kernel_rfl) 22 _ (w.heap.size + 1) 22 (numA b) (0, 0) _ rfl (by kernel_rfl) Fb Tryd.underlying22 rfl (by rw [numA_size]; kernel_rfl) ?_
      simp only [Act.put, List.setIfInBounds_toArray, List.set_cons_succ, List.set_cons_zero]
      refine q_call (by kernel_rfl) 22 Tryd.f22 _ _ _ [.agg (numA b)] (.agg (numA v1)) rfl (by kernel_rfl) Tryd.func22 (by kernel_rfl) rfl Cv1 ?_
      simp only [Act.put, List.setIfInBounds_toArray, List.set_cons_succ, List.set_cons_zero]
      refine q_call (by kernel_rfl) 19 Tryd.f19 _ _ _ [.agg (numA a), .agg (numA v1)] (.agg (numA v2)) rfl (by kernel_rfl) Tryd.func19 (by kernel_rfl) rfl Cv2 ?_
      simp only [Act.put, List.setIfInBounds_toArray, List.set_cons_succ, List.set_cons_zero]
      exact wpQuiet_nil rfl
    intro g w3 hg hw30 hgb
    dsimp only [List.drop_succ_cons, List.drop_zero]
    simp only [Act.put, List.setIfInBounds_toArray, List.set_cons_succ, List.set_cons_zero]
    refine wpList_store_row rfl 22 _ _ rfl g (numA v2) (by kernel_rfl) (by kernel_rfl) 22 _ hgb (by rw [numA_size]; kernel_rfl) (by rw [numA_size]; rfl) (numA_one _) ?_
    obtain ⟨W9, hW9⟩ : ∃ W9, W9 = w3.setRow g (numA v2) := ⟨_, rfl⟩
    rw [← hW9]
    have hsz9 : W9.heap.size = w3.heap.size := by rw [hW9]; simp
    have hgl : g < w3.heap.size := by rcases Nat.lt_or_ge g w3.heap.size with h' | h'; exact h'; rw [Array.getElem?_eq_none h'] at hgb; cases hgb
    have Q9 : Below W0.heap.size W0 W9 := by rw [hW9]; exact below_setRow hw30 hg
    have H9 : Hid (Below W0.heap.size W0 W9) := Q9
    have HPP9 := hide (PrimeAt.below HPP.out Q9)
    have Ga9 : Hid (∀ w', Below W9.heap.size W9 w' → w'.heap[w.heap.size]? = some (.cells (numA a) 22 (0, 0))) := fun w' hb => Ga.out w' (Q9.trans (hb.mono Q9.size))
    have Gb9 : Hid (∀ w', Below W9.heap.size W9 w' → w'.heap[w.heap.size + 1]? = some (.cells (numA b) 22 (0, 0))) := fun w' hb => Gb.out w' (Q9.trans (hb.mono Q9.size))
    have Gn9 : Hid (∀ w', Below W9.heap.size W9 w' → w'.heap[g]? = some (.cells (numA v2) 22 (0, 0))) := fun w' hb => by rw [hb.block g (by omega), hW9]; exact setRow_heap _ _ _ _ _ _ hgb
    have EQ : Hid (v2 = a * invOf b % 57896044618658097711785492504343953926634992332820282019728792003956564819949) := by rw [ev2, ev1]; rfl
    have LQ := hide lv2
    clear hW9 hsz9 hgl Q9 hgb hw30 hg la lb l0 lv1 lv2 ev1 ev2
    go_wp2_with fail
    have zb := ZB.out
    have NB : ∀ {n : Nat}, n = (0 + (57896044618658097711785492504343953926634992332820282019728792003956564819949 - b % 57896044618658097711785492504343953926634992332820282019728792003956564819949)) % 57896044618658097711785492504343953926634992332820282019728792003956564819949 → (n + b) % 57896044618658097711785492504343953926634992332820282019728792003956564819949 = 0 := fun e => by rw [e, m_sub_add _ 0 b (by decide)]
    have NZ : ∀ {n : Nat}, n = (0 + (57896044618658097711785492504343953926634992332820282019728792003956564819949 - b % 57896044618658097711785492504343953926634992332820282019728792003956564819949)) % 57896044618658097711785492504343953926634992332820282019728792003956564819949 → ¬ n % 57896044618658097711785492504343953926634992332820282019728792003956564819949 = 0 := fun {n} e h => by
      have h1 := NB e
      rw [Nat.add_mod, h, Nat.zero_add, Nat.mod_mod] at h1
      exact zb h1
    by_cases za : a % 57896044618658097711785492504343953926634992332820282019728792003956564819949 = 0
    · skip
      have Fa := Ga9.out
      have Fb := Gb9.out
      have Fv2 := Gn9.out
      have HPW := HPP9.out
      have la := LA.out
      have lb := LB.out
      have lv2 := LQ.out
      have l0 : 0 < 115792089237316195423570985008687907853269984665640564039457584007913129639936 := by decide
      obtain ⟨u1, eu1⟩ : ∃ u1, u1 = v2 * b % 57896044618658097711785492504343953926634992332820282019728792003956564819949 := ⟨_, rfl⟩
      have lu1 : u1 < 115792089237316195423570985008687907853269984665640564039457584007913129639936 := by rw [eu1]; exact Nat.lt_trans (Nat.mod_lt _ (by decide)) (by decide)
      have Cu1 : ∀ w', Below W9.heap.size W9 w' → Calls Tryd.prog 19 [.agg (numA v2), .agg (numA b)].toArray w' fun e w2 => e = .returned (.agg (numA u1)) ∧ Below W9.heap.size W9 w2 := fun w' hb => by rw [eu1]; exact (Mul_any v2 b w' lv2 lb).mono fun e w2 hh => ⟨hh.1, hb.trans (hh.2.mono hb.size)⟩
      obtain ⟨u2, eu2⟩ : ∃ u2, u2 = a % 57896044618658097711785492504343953926634992332820282019728792003956564819949 := ⟨_, rfl⟩
      have lu2 : u2 < 115792089237316195423570985008687907853269984665640564039457584007913129639936 := by rw [eu2]; exact Nat.lt_trans (Nat.mod_lt _ (by decide)) (by decide)
      have Cu2 : ∀ w', Below W9.heap.size W9 w' → Calls Tryd.prog 13 [.agg (numA a)].toArray w' fun e w2 => e = .returned (.agg (numA u2)) ∧ Below W9.heap.size W9 w2 := fun w' hb => by rw [eu2]; exact (Reduce_any a w' la).mono fun e w2 hh => ⟨hh.1, hb.trans (hh.2.mono hb.size)⟩
      obtain ⟨u3, eu3⟩ : ∃ u3, u3 = decide (v2 % 57896044618658097711785492504343953926634992332820282019728792003956564819949 = 0) := ⟨_, rfl⟩
      have Cu3 : ∀ w', Below W9.heap.size W9 w' → Calls Tryd.prog 21 [.agg (numA v2)].toArray w' fun e w2 => e = .returned (.bool u3) ∧ Below W9.heap.size W9 w2 := fun w' hb => by rw [eu3]; exact (Zero_any v2 w' lv2).mono fun e w2 hh => ⟨hh.1, hb.trans (hh.2.mono hb.size)⟩
      obtain ⟨u4, eu4⟩ : ∃ u4, u4 = decide (a % 57896044618658097711785492504343953926634992332820282019728792003956564819949 = 0) := ⟨_, rfl⟩
      have Cu4 : ∀ w', Below W9.heap.size W9 w' → Calls Tryd.prog 21 [.agg (numA a)].toArray w' fun e w2 => e = .returned (.bool u4) ∧ Below W9.heap.size W9 w2 := fun w' hb => by rw [eu4]; exact (Zero_any a w' la).mono fun e w2 hh => ⟨hh.1, hb.trans (hh.2.mono hb.size)⟩
      obtain ⟨u5, eu5⟩ : ∃ u5, u5 = (0 + (57896044618658097711785492504343953926634992332820282019728792003956564819949 - b % 57896044618658097711785492504343953926634992332820282019728792003956564819949)) % 57896044618658097711785492504343953926634992332820282019728792003956564819949 := ⟨_, rfl⟩
      have lu5 : u5 < 115792089237316195423570985008687907853269984665640564039457584007913129639936 := by rw [eu5]; exact Nat.lt_trans (Nat.mod_lt _ (by decide)) (by decide)
      have Cu5 : ∀ w', Below W9.heap.size W9 w' → Calls Tryd.prog 17 [.agg (numA 0), .agg (numA b)].toArray w' fun e w2 => e = .returned (.agg (numA u5)) ∧ Below W9.heap.size W9 w2 := fun w' hb => by rw [eu5]; exact (Sub_any 0 b w' l0 lb (PrimeAt.below HPW hb)).mono fun e w2 hh => ⟨hh.1, hb.trans (hh.2.mono hb.size)⟩
      obtain ⟨u6, eu6⟩ : ∃ u6, u6 = invOf u5 := ⟨_, rfl⟩
      have lu6 : u6 < 115792089237316195423570985008687907853269984665640564039457584007913129639936 := by rw [eu6]; exact invOf_lt _
      have Cu6 : ∀ w', Below W9.heap.size W9 w' → Calls Tryd.prog 22 [.agg (numA u5)].toArray w' fun e w2 => e = .returned (.agg (numA u6)) ∧ Below W9.heap.size W9 w2 := fun w' hb => by rw [eu6]; exact (Inv_any u5 w' lu5 (PrimeAt.below HPW hb)).mono fun e w2 hh => ⟨hh.1, hb.trans (hh.2.mono hb.size)⟩
      obtain ⟨u7, eu7⟩ : ∃ u7, u7 = invOf b := ⟨_, rfl⟩
      have lu7 : u7 < 115792089237316195423570985008687907853269984665640564039457584007913129639936 := by rw [eu7]; exact invOf_lt _
      have Cu7 : ∀ w', Below W9.heap.size W9 w' → Calls Tryd.prog 22 [.agg (numA b)].toArray w' fun e w2 => e = .returned (.agg (numA u7)) ∧ Below W9.heap.size W9 w2 := fun w' hb => by rw [eu7]; exact (Inv_any b w' lb (PrimeAt.below HPW hb)).mono fun e w2 hh => ⟨hh.1, hb.trans (hh.2.mono hb.size)⟩
      obtain ⟨u8, eu8⟩ : ∃ u8, u8 = (0 + (57896044618658097711785492504343953926634992332820282019728792003956564819949 - u7 % 57896044618658097711785492504343953926634992332820282019728792003956564819949)) % 57896044618658097711785492504343953926634992332820282019728792003956564819949 := ⟨_, rfl⟩
      have lu8 : u8 < 115792089237316195423570985008687907853269984665640564039457584007913129639936 := by rw [eu8]; exact Nat.lt_trans (Nat.mod_lt _ (by decide)) (by decide)
      have Cu8 : ∀ w', Below W9.heap.size W9 w' → Calls Tryd.prog 17 [.agg (numA 0), .agg (numA u7)].toArray w' fun e w2 => e = .returned (.agg (numA u8)) ∧ Below W9.heap.size W9 w2 := fun w' hb => by rw [eu8]; exact (Sub_any 0 u7 w' l0 lu7 (PrimeAt.below HPW hb)).mono fun e w2 hh => ⟨hh.1, hb.trans (hh.2.mono hb.size)⟩
      have zu3 : u3 = true := by rw [eu3, EQ.out, quot_zero (b := b) prime_p HI.out]; exact decide_eq_true za
      have zu4 : u4 = true := by rw [eu4]; exact decide_eq_true za
      refine wp_region_quiet (C := fun w' => Below W9.heap.size W9 w') (by kernel_rfl) (by kernel_rfl) (Below.trans (Below.refl _ _) ⟨rfl, rfl, rfl, Nat.le_refl _, fun _ _ => rfl⟩) ?_
      refine q_load (by kernel_rfl) 22 _ (g) 22 (numA v2) (0, 0) _ rfl (by kernel_rfl) Fv2 Tryd.underlying22 rfl (by rw [numA_size]; kernel_rfl) ?_
      simp only [Act.put, List.setIfInBounds_toArray, List.set_cons_succ, List.set_cons_zero]
      refine q_load (by kernel_rfl) 22 _ (w.heap.size + 1) 22 (numA b) (0, 0) _ rfl (by kernel_rfl) Fb Tryd.underlying22 rfl (by rw [numA_size]; kernel_rfl) ?_
      simp only [Act.put, List.setIfInBounds_toArray, List.set_cons_succ, List.set_cons_zero]
      refine q_call (by kernel_rfl) 19 Tryd.f19 _ _ _ [.agg (numA v2), .agg (numA b)] (.agg (numA u1)) rfl (by kernel_rfl) Tryd.func19 (by kernel_rfl) rfl Cu1 ?_
      simp only [Act.put, List.setIfInBounds_toArray, List.set_cons_succ, List.set_cons_zero]
      refine q_load (by kernel_rfl) 22 _ (w.heap.size) 22 (numA a) (0, 0) _ rfl (by kernel_rfl) Fa Tryd.underlying22 rfl (by rw [numA_size]; kernel_rfl) ?_
      simp only [Act.put, List.setIfInBounds_toArray, List.set_cons_succ, List.set_cons_zero]
      refine q_call (by kernel_rfl) 13 Tryd.f13 _ _ _ [.agg (numA a)] (.agg (numA u2)) rfl (by kernel_rfl) Tryd.func13 (by kernel_rfl) rfl Cu2 ?_
      simp only [Act.put, List.setIfInBounds_toArray, List.set_cons_succ, List.set_cons_zero]
      refine q_val (by kernel_rfl) (.bool true) (fun w' => (run_eql_num (t := 22) (e := 5) u1 u2 rfl (by kernel_rfl) (by kernel_rfl) lu1 lu2 Tryd.underlying22 Tryd.underlying5 sz5 ag5 eqG w').trans (by rw [show decide (u1 = u2) = true from decide_eq_true (by rw [eu1, eu2, EQ.out]; exact quot_back HI.out)])) ?_
      simp only [Act.put, List.setIfInBounds_toArray, List.set_cons_succ, List.set_cons_zero]
      refine q_val (by kernel_rfl) (.bool true) (fun w' => by kernel_rfl) ?_
      simp only [Act.put, List.setIfInBounds_toArray, List.set_cons_succ, List.set_cons_zero]
      refine q_load (by kernel_rfl) 22 _ (g) 22 (numA v2) (0, 0) _ rfl (by kernel_rfl) Fv2 Tryd.underlying22 rfl (by rw [numA_size]; kernel_rfl) ?_
      simp only [Act.put, List.setIfInBounds_toArray, List.set_cons_succ, List.set_cons_zero]
      refine q_call (by kernel_rfl) 21 Tryd.f21 _ _ _ [.agg (numA v2)] (.bool true) rfl (by kernel_rfl) Tryd.func21 (by kernel_rfl) rfl (by rw [← zu3]; exact Cu3) ?_
      simp only [Act.put, List.setIfInBounds_toArray, List.set_cons_succ, List.set_cons_zero]
      refine q_load (by kernel_rfl) 22 _ (w.heap.size) 22 (numA a) (0, 0) _ rfl (by kernel_rfl) Fa Tryd.underlying22 rfl (by rw [numA_size]; kernel_rfl) ?_
      simp only [Act.put, List.setIfInBounds_toArray, List.set_cons_succ, List.set_cons_zero]
      refine q_call (by kernel_rfl) 21 Tryd.f21 _ _ _ [.agg (numA a)] (.bool true) rfl (by kernel_rfl) Tryd.func21 (by kernel_rfl) rfl (by rw [← zu4]; exact Cu4) ?_
      simp only [Act.put, List.setIfInBounds_toArray, List.set_cons_succ, List.set_cons_zero]
      refine q_val (by kernel_rfl) (.bool true) (fun w' => by kernel_rfl) ?_
      simp only [Act.put, List.setIfInBounds_toArray, List.set_cons_succ, List.set_cons_zero]
      refine q_val (by kernel_rfl) (.bool true) (fun w' => by kernel_rfl) ?_
      simp only [Act.put, List.setIfInBounds_toArray, List.set_cons_succ, List.set_cons_zero]
      refine q_val (by kernel_rfl) (.bool true) (fun w' => by kernel_rfl) ?_
      simp only [Act.put, List.setIfInBounds_toArray, List.set_cons_succ, List.set_cons_zero]
      refine q_val (by kernel_rfl) (.agg (numA 0)) (fun w' => by kernel_rfl) ?_
      simp only [Act.put, List.setIfInBounds_toArray, List.set_cons_succ, List.set_cons_zero]
      refine q_load (by kernel_rfl) 22 _ (w.heap.size + 1) 22 (numA b) (0, 0) _ rfl (by kernel_rfl) Fb Tryd.underlying22 rfl (by rw [numA_size]; kernel_rfl) ?_
      simp only [Act.put, List.setIfInBounds_toArray, List.set_cons_succ, List.set_cons_zero]
      refine q_call (by kernel_rfl) 17 Tryd.f17 _ _ _ [.agg (numA 0), .agg (numA b)] (.agg (numA u5)) rfl (by kernel_rfl) Tryd.func17 (by kernel_rfl) rfl Cu5 ?_
      simp only [Act.put, List.setIfInBounds_toArray, List.set_cons_succ, List.set_cons_zero]
      refine q_call (by kernel_rfl) 22 Tryd.f22 _ _ _ [.agg (numA u5)] (.agg (numA u6)) rfl (by kernel_rfl) Tryd.func22 (by kernel_rfl) rfl Cu6 ?_
      simp only [Act.put, List.setIfInBounds_toArray, List.set_cons_succ, List.set_cons_zero]
      refine q_val (by kernel_rfl) (.agg (numA 0)) (fun w' => by kernel_rfl) ?_
      simp only [Act.put, List.setIfInBounds_toArray, List.set_cons_succ, List.set_cons_zero]
      refine q_load (by kernel_rfl) 22 _ (w.heap.size + 1) 22 (numA b) (0, 0) _ rfl (by kernel_rfl) Fb Tryd.underlying22 rfl (by rw [numA_size]; kernel_rfl) ?_
      simp only [Act.put, List.setIfInBounds_toArray, List.set_cons_succ, List.set_cons_zero]
      refine q_call (by kernel_rfl) 22 Tryd.f22 _ _ _ [.agg (numA b)] (.agg (numA u7)) rfl (by kernel_rfl) Tryd.func22 (by kernel_rfl) rfl Cu7 ?_
      simp only [Act.put, List.setIfInBounds_toArray, List.set_cons_succ, List.set_cons_zero]
      refine q_call (by kernel_rfl) 17 Tryd.f17 _ _ _ [.agg (numA 0), .agg (numA u7)] (.agg (numA u8)) rfl (by kernel_rfl) Tryd.func17 (by kernel_rfl) rfl Cu8 ?_
      simp only [Act.put, List.setIfInBounds_toArray, List.set_cons_succ, List.set_cons_zero]
      refine q_val (by kernel_rfl) (.bool true) (fun w' => (run_eql_num (t := 22) (e := 5) u6 u8 rfl (by kernel_rfl) (by kernel_rfl) lu6 lu8 Tryd.underlying22 Tryd.underlying5 sz5 ag5 eqG w').trans (by rw [show decide (u6 = u8) = true from decide_eq_true (by rw [eu8]; exact (sub_is (by decide) (by rw [eu6]; exact invOf_ltp _) (by rw [eu6, eu7, Nat.zero_mod]; exact inv_opposite prime_p (NB eu5) (inv_one b zb) (inv_one u5 (NZ eu5)))).symm)])) ?_
      simp only [Act.put, List.setIfInBounds_toArray, List.set_cons_succ, List.set_cons_zero]
      refine q_val (by kernel_rfl) (.bool true) (fun w' => by kernel_rfl) ?_
      simp only [Act.put, List.setIfInBounds_toArray, List.set_cons_succ, List.set_cons_zero]
      refine q_val (by kernel_rfl) (.bool true) (fun w' => by kernel_rfl) ?_
      simp only [Act.put, List.setIfInBounds_toArray, List.set_cons_succ, List.set_cons_zero]
      refine wpQuiet_nil ?_
      intro w4 hw40
      have Hw4 := hide hw40
      clear hw40 Fa Fb Fv2 HPW  la lb lv2 l0 Cu1 Cu2 Cu3 Cu4 Cu5 Cu6 Cu7 Cu8 lu1 lu2 lu5 lu6 lu7 lu8 zu3 zu4 eu1 eu2 eu3 eu4 eu5 eu6 eu7 eu8
      clear za zb NB NZ
      go_wp2_with fail
      go_ret
      exact ⟨rfl, HQ.out.trans (Below.mono (H9.out.trans (Hw4.out.mono H9.out.size)) (by have := HS.out; omega))⟩
    · skip
      have Fa := Ga9.out
      have Fb := Gb9.out
      have Fv2 := Gn9.out
      have HPW := HPP9.out
      have la := LA.out
      have lb := LB.out
      have lv2 := LQ.out
      have l0 : 0 < 115792089237316195423570985008687907853269984665640564039457584007913129639936 := by decide
      obtain ⟨u1, eu1⟩ : ∃ u1, u1 = v2 * b % 57896044618658097711785492504343953926634992332820282019728792003956564819949 := ⟨_, rfl⟩
      have lu1 : u1 < 115792089237316195423570985008687907853269984665640564039457584007913129639936 := by rw [eu1]; exact Nat.lt_trans (Nat.mod_lt _ (by decide)) (by decide)
      have Cu1 : ∀ w', Below W9.heap.size W9 w' → Calls Tryd.prog 19 [.agg (numA v2), .agg (numA b)].toArray w' fun e w2 => e = .returned (.agg (numA u1)) ∧ Below W9.heap.size W9 w2 := fun w' hb => by rw [eu1]; exact (Mul_any v2 b w' lv2 lb).mono fun e w2 hh => ⟨hh.1, hb.trans (hh.2.mono hb.size)⟩
      obtain ⟨u2, eu2⟩ : ∃ u2, u2 = a % 57896044618658097711785492504343953926634992332820282019728792003956564819949 := ⟨_, rfl⟩
      have lu2 : u2 < 115792089237316195423570985008687907853269984665640564039457584007913129639936 := by rw [eu2]; exact Nat.lt_trans (Nat.mod_lt _ (by decide)) (by decide)
      have Cu2 : ∀ w', Below W9.heap.size W9 w' → Calls Tryd.prog 13 [.agg (numA a)].toArray w' fun e w2 => e = .returned (.agg (numA u2)) ∧ Below W9.heap.size W9 w2 := fun w' hb => by rw [eu2]; exact (Reduce_any a w' la).mono fun e w2 hh => ⟨hh.1, hb.trans (hh.2.mono hb.size)⟩
      obtain ⟨u3, eu3⟩ : ∃ u3, u3 = decide (v2 % 57896044618658097711785492504343953926634992332820282019728792003956564819949 = 0) := ⟨_, rfl⟩
      have Cu3 : ∀ w', Below W9.heap.size W9 w' → Calls Tryd.prog 21 [.agg (numA v2)].toArray w' fun e w2 => e = .returned (.bool u3) ∧ Below W9.heap.size W9 w2 := fun w' hb => by rw [eu3]; exact (Zero_any v2 w' lv2).mono fun e w2 hh => ⟨hh.1, hb.trans (hh.2.mono hb.size)⟩
      obtain ⟨u4, eu4⟩ : ∃ u4, u4 = decide (a % 57896044618658097711785492504343953926634992332820282019728792003956564819949 = 0) := ⟨_, rfl⟩
      have Cu4 : ∀ w', Below W9.heap.size W9 w' → Calls Tryd.prog 21 [.agg (numA a)].toArray w' fun e w2 => e = .returned (.bool u4) ∧ Below W9.heap.size W9 w2 := fun w' hb => by rw [eu4]; exact (Zero_any a w' la).mono fun e w2 hh => ⟨hh.1, hb.trans (hh.2.mono hb.size)⟩
      obtain ⟨u5, eu5⟩ : ∃ u5, u5 = (0 + (57896044618658097711785492504343953926634992332820282019728792003956564819949 - b % 57896044618658097711785492504343953926634992332820282019728792003956564819949)) % 57896044618658097711785492504343953926634992332820282019728792003956564819949 := ⟨_, rfl⟩
      have lu5 : u5 < 115792089237316195423570985008687907853269984665640564039457584007913129639936 := by rw [eu5]; exact Nat.lt_trans (Nat.mod_lt _ (by decide)) (by decide)
      have Cu5 : ∀ w', Below W9.heap.size W9 w' → Calls Tryd.prog 17 [.agg (numA 0), .agg (numA b)].toArray w' fun e w2 => e = .returned (.agg (numA u5)) ∧ Below W9.heap.size W9 w2 := fun w' hb => by rw [eu5]; exact (Sub_any 0 b w' l0 lb (PrimeAt.below HPW hb)).mono fun e w2 hh => ⟨hh.1, hb.trans (hh.2.mono hb.size)⟩
      obtain ⟨u6, eu6⟩ : ∃ u6, u6 = invOf u5 := ⟨_, rfl⟩
      have lu6 : u6 < 115792089237316195423570985008687907853269984665640564039457584007913129639936 := by rw [eu6]; exact invOf_lt _
      have Cu6 : ∀ w', Below W9.heap.size W9 w' → Calls Tryd.prog 22 [.agg (numA u5)].toArray w' fun e w2 => e = .returned (.agg (numA u6)) ∧ Below W9.heap.size W9 w2 := fun w' hb => by rw [eu6]; exact (Inv_any u5 w' lu5 (PrimeAt.below HPW hb)).mono fun e w2 hh => ⟨hh.1, hb.trans (hh.2.mono hb.size)⟩
      obtain ⟨u7, eu7⟩ : ∃ u7, u7 = invOf b := ⟨_, rfl⟩
      have lu7 : u7 < 115792089237316195423570985008687907853269984665640564039457584007913129639936 := by rw [eu7]; exact invOf_lt _
      have Cu7 : ∀ w', Below W9.heap.size W9 w' → Calls Tryd.prog 22 [.agg (numA b)].toArray w' fun e w2 => e = .returned (.agg (numA u7)) ∧ Below W9.heap.size W9 w2 := fun w' hb => by rw [eu7]; exact (Inv_any b w' lb (PrimeAt.below HPW hb)).mono fun e w2 hh => ⟨hh.1, hb.trans (hh.2.mono hb.size)⟩
      obtain ⟨u8, eu8⟩ : ∃ u8, u8 = (0 + (57896044618658097711785492504343953926634992332820282019728792003956564819949 - u7 % 57896044618658097711785492504343953926634992332820282019728792003956564819949)) % 57896044618658097711785492504343953926634992332820282019728792003956564819949 := ⟨_, rfl⟩
      have lu8 : u8 < 115792089237316195423570985008687907853269984665640564039457584007913129639936 := by rw [eu8]; exact Nat.lt_trans (Nat.mod_lt _ (by decide)) (by decide)
      have Cu8 : ∀ w', Below W9.heap.size W9 w' → Calls Tryd.prog 17 [.agg (numA 0), .agg (numA u7)].toArray w' fun e w2 => e = .returned (.agg (numA u8)) ∧ Below W9.heap.size W9 w2 := fun w' hb => by rw [eu8]; exact (Sub_any 0 u7 w' l0 lu7 (PrimeAt.below HPW hb)).mono fun e w2 hh => ⟨hh.1, hb.trans (hh.2.mono hb.size)⟩
      have zu3 : u3 = false := by rw [eu3, EQ.out, quot_zero (b := b) prime_p HI.out]; exact decide_eq_false za
      have zu4 : u4 = false := by rw [eu4]; exact decide_eq_false za
      refine wp_region_quiet (C := fun w' => Below W9.heap.size W9 w') (by kernel_rfl) (by kernel_rfl) (Below.trans (Below.refl _ _) ⟨rfl, rfl, rfl, Nat.le_refl _, fun _ _ => rfl⟩) ?_
      refine q_load (by kernel_rfl) 22 _ (g) 22 (numA v2) (0, 0) _ rfl (by kernel_rfl) Fv2 Tryd.underlying22 rfl (by rw [numA_size]; kernel_rfl) ?_
      simp only [Act.put, List.setIfInBounds_toArray, List.set_cons_succ, List.set_cons_zero]
      refine q_load (by kernel_rfl) 22 _ (w.heap.size + 1) 22 (numA b) (0, 0) _ rfl (by kernel_rfl) Fb Tryd.underlying22 rfl (by rw [numA_size]; kernel_rfl) ?_
      simp only [Act.put, List.setIfInBounds_toArray, List.set_cons_succ, List.set_cons_zero]
      refine q_call (by kernel_rfl) 19 Tryd.f19 _ _ _ [.agg (numA v2), .agg (numA b)] (.agg (numA u1)) rfl (by kernel_rfl) Tryd.func19 (by kernel_rfl) rfl Cu1 ?_
      simp only [Act.put, List.setIfInBounds_toArray, List.set_cons_succ, List.set_cons_zero]
      refine q_load (by kernel_rfl) 22 _ (w.heap.size) 22 (numA a) (0, 0) _ rfl (by kernel_rfl) Fa Tryd.underlying22 rfl (by rw [numA_size]; kernel_rfl) ?_
      simp only [Act.put, List.setIfInBounds_toArray, List.set_cons_succ, List.set_cons_zero]
      refine q_call (by kernel_rfl) 13 Tryd.f13 _ _ _ [.agg (numA a)] (.agg (numA u2)) rfl (by kernel_rfl) Tryd.func13 (by kernel_rfl) rfl Cu2 ?_
      simp only [Act.put, List.setIfInBounds_toArray, List.set_cons_succ, List.set_cons_zero]
      refine q_val (by kernel_rfl) (.bool true) (fun w' => (run_eql_num (t := 22) (e := 5) u1 u2 rfl (by kernel_rfl) (by kernel_rfl) lu1 lu2 Tryd.underlying22 Tryd.underlying5 sz5 ag5 eqG w').trans (by rw [show decide (u1 = u2) = true from decide_eq_true (by rw [eu1, eu2, EQ.out]; exact quot_back HI.out)])) ?_
      simp only [Act.put, List.setIfInBounds_toArray, List.set_cons_succ, List.set_cons_zero]
      refine q_val (by kernel_rfl) (.bool true) (fun w' => by kernel_rfl) ?_
      simp only [Act.put, List.setIfInBounds_toArray, List.set_cons_succ, List.set_cons_zero]
      refine q_load (by kernel_rfl) 22 _ (g) 22 (numA v2) (0, 0) _ rfl (by kernel_rfl) Fv2 Tryd.underlying22 rfl (by rw [numA_size]; kernel_rfl) ?_
      simp only [Act.put, List.setIfInBounds_toArray, List.set_cons_succ, List.set_cons_zero]
      refine q_call (by kernel_rfl) 21 Tryd.f21 _ _ _ [.agg (numA v2)] (.bool false) rfl (by kernel_rfl) Tryd.func21 (by kernel_rfl) rfl (by rw [← zu3]; exact Cu3) ?_
      simp only [Act.put, List.setIfInBounds_toArray, List.set_cons_succ, List.set_cons_zero]
      refine q_load (by kernel_rfl) 22 _ (w.heap.size) 22 (numA a) (0, 0) _ rfl (by kernel_rfl) Fa Tryd.underlying22 rfl (by rw [numA_size]; kernel_rfl) ?_
      simp only [Act.put, List.setIfInBounds_toArray, List.set_cons_succ, List.set_cons_zero]
      refine q_call (by kernel_rfl) 21 Tryd.f21 _ _ _ [.agg (numA a)] (.bool false) rfl (by kernel_rfl) Tryd.func21 (by kernel_rfl) rfl (by rw [← zu4]; exact Cu4) ?_
      simp only [Act.put, List.setIfInBounds_toArray, List.set_cons_succ, List.set_cons_zero]
      refine q_val (by kernel_rfl) (.bool true) (fun w' => by kernel_rfl) ?_
      simp only [Act.put, List.setIfInBounds_toArray, List.set_cons_succ, List.set_cons_zero]
      refine q_val (by kernel_rfl) (.bool true) (fun w' => by kernel_rfl) ?_
      simp only [Act.put, List.setIfInBounds_toArray, List.set_cons_succ, List.set_cons_zero]
      refine q_val (by kernel_rfl) (.bool true) (fun w' => by kernel_rfl) ?_
      simp only [Act.put, List.setIfInBounds_toArray, List.set_cons_succ, List.set_cons_zero]
      refine q_val (by kernel_rfl) (.agg (numA 0)) (fun w' => by kernel_rfl) ?_
      simp only [Act.put, List.setIfInBounds_toArray, List.set_cons_succ, List.set_cons_zero]
      refine q_load (by kernel_rfl) 22 _ (w.heap.size + 1) 22 (numA b) (0, 0) _ rfl (by kernel_rfl) Fb Tryd.underlying22 rfl (by rw [numA_size]; kernel_rfl) ?_
      simp only [Act.put, List.setIfInBounds_toArray, List.set_cons_succ, List.set_cons_zero]
      refine q_call (by kernel_rfl) 17 Tryd.f17 _ _ _ [.agg (numA 0), .agg (numA b)] (.agg (numA u5)) rfl (by kernel_rfl) Tryd.func17 (by kernel_rfl) rfl Cu5 ?_
      simp only [Act.put, List.setIfInBounds_toArray, List.set_cons_succ, List.set_cons_zero]
      refine q_call (by kernel_rfl) 22 Tryd.f22 _ _ _ [.agg (numA u5)] (.agg (numA u6)) rfl (by kernel_rfl) Tryd.func22 (by kernel_rfl) rfl Cu6 ?_
      simp only [Act.put, List.setIfInBounds_toArray, List.set_cons_succ, List.set_cons_zero]
      refine q_val (by kernel_rfl) (.agg (numA 0)) (fun w' => by kernel_rfl) ?_
      simp only [Act.put, List.setIfInBounds_toArray, List.set_cons_succ, List.set_cons_zero]
      refine q_load (by kernel_rfl) 22 _ (w.heap.size + 1) 22 (numA b) (0, 0) _ rfl (by kernel_rfl) Fb Tryd.underlying22 rfl (by rw [numA_size]; kernel_rfl) ?_
      simp only [Act.put, List.setIfInBounds_toArray, List.set_cons_succ, List.set_cons_zero]
      refine q_call (by kernel_rfl) 22 Tryd.f22 _ _ _ [.agg (numA b)] (.agg (numA u7)) rfl (by kernel_rfl) Tryd.func22 (by kernel_rfl) rfl Cu7 ?_
      simp only [Act.put, List.setIfInBounds_toArray, List.set_cons_succ, List.set_cons_zero]
      refine q_call (by kernel_rfl) 17 Tryd.f17 _ _ _ [.agg (numA 0), .agg (numA u7)] (.agg (numA u8)) rfl (by kernel_rfl) Tryd.func17 (by kernel_rfl) rfl Cu8 ?_
      simp only [Act.put, List.setIfInBounds_toArray, List.set_cons_succ, List.set_cons_zero]
      refine q_val (by kernel_rfl) (.bool true) (fun w' => (run_eql_num (t := 22) (e := 5) u6 u8 rfl (by kernel_rfl) (by kernel_rfl) lu6 lu8 Tryd.underlying22 Tryd.underlying5 sz5 ag5 eqG w').trans (by rw [show decide (u6 = u8) = true from decide_eq_true (by rw [eu8]; exact (sub_is (by decide) (by rw [eu6]; exact invOf_ltp _) (by rw [eu6, eu7, Nat.zero_mod]; exact inv_opposite prime_p (NB eu5) (inv_one b zb) (inv_one u5 (NZ eu5)))).symm)])) ?_
      simp only [Act.put, List.setIfInBounds_toArray, List.set_cons_succ, List.set_cons_zero]
      refine q_val (by kernel_rfl) (.bool true) (fun w' => by kernel_rfl) ?_
      simp only [Act.put, List.setIfInBounds_toArray, List.set_cons_succ, List.set_cons_zero]
      refine q_val (by kernel_rfl) (.bool true) (fun w' => by kernel_rfl) ?_
      simp only [Act.put, List.setIfInBounds_toArray, List.set_cons_succ, List.set_cons_zero]
      refine wpQuiet_nil ?_
      intro w4 hw40
      have Hw4 := hide hw40
      clear hw40 Fa Fb Fv2 HPW  la lb lv2 l0 Cu1 Cu2 Cu3 Cu4 Cu5 Cu6 Cu7 Cu8 lu1 lu2 lu5 lu6 lu7 lu8 zu3 zu4 eu1 eu2 eu3 eu4 eu5 eu6 eu7 eu8
      clear za zb NB NZ
      go_wp2_with fail
      go_ret
      exact ⟨rfl, HQ.out.trans (Below.mono (H9.out.trans (Hw4.out.mono H9.out.size)) (by have := HS.out; omega))⟩
end Go.Proofs.YtainefilkccemaaDoor
