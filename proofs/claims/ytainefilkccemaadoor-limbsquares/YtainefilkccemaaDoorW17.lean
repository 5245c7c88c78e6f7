/-
  What LimbSquares answers: true, whatever two numbers are.
-/
import Derived.Test.YtainefilkccemaaDoorW13
import Derived.Test.YtainefilkccemaaDoorModB
import Derived.Test.YtainefilkccemaaDoorAlloc
namespace Go.Proofs.YtainefilkccemaaDoor
open Go.RowKit
set_option linter.unusedSimpArgs false
set_option linter.unusedVariables false

set_option maxHeartbeats 4000000 in
theorem squares_any (a b : Nat) (w : World) (la : a < 115792089237316195423570985008687907853269984665640564039457584007913129639936) (lb : b < 115792089237316195423570985008687907853269984665640564039457584007913129639936) (hp : PrimeAt w) :
    Calls Tryd.prog 8 #[.agg (numA a), .agg (numA b)] w fun e w' => e = .returned (.bool true) ∧ Below w.heap.size w w' := by
  have LA := hide la
  have LB := hide lb
  have HP := hide hp
  clear la lb hp
  go_enter Tryd.func8, Tryd.ntmps8
  go_wp2_with fail
  have QX : Below w.heap.size w ((w.alloc (.cells (numA a) 22)).alloc (.cells (numA b) 22)) := by (repeat (first | with_reducible exact Below.refl _ _ | with_reducible assumption | with_reducible refine Below.drew ?_ | (with_reducible refine Below.alloc ?_ ?hB _; (case hB => first | omega | (simp <;> omega)))))
  refine (alive_any _ (PrimeAt.below HP.out QX)).mono ?_
  rintro e w1 ⟨rfl, hb1⟩
  obtain ⟨W0, hW⟩ : ∃ W0, W0 = ((w.alloc (.cells (numA a) 22)).alloc (.cells (numA b) 22)) := ⟨_, rfl⟩
  rw [← hW] at hb1 QX
  have hsz : W0.heap.size = w.heap.size + 2 := by rw [hW]; simp
  have HPP := hide (PrimeAt.below HP.out QX)
  have Ga : Hid (∀ w', Below W0.heap.size W0 w' → w'.heap[w.heap.size]? = some (.cells (numA a) 22 (0, 0))) := fun w' hb => by
    rw [hb.block _ (by omega), hW]; exact heap_alloc2_old _ _ _
  have Gb : Hid (∀ w', Below W0.heap.size W0 w' → w'.heap[w.heap.size + 1]? = some (.cells (numA b) 22 (0, 0))) := fun w' hb => by
    rw [hb.block _ (by omega), hW]; exact heap_alloc2_new _ _ _
  have H1 := hide hb1
  have HS := hide hsz
  have HQ := hide QX
  clear hb1 hsz QX hW
  go_wp2_with (refine wpList_load_row rfl 22 _ rfl w.heap.size rfl 22 (numA a) (0, 0) _ (Ga.out _ H1.out) Tryd.underlying22 rfl ?hs ?_; (case hs => rw [numA_size]; kernel_rfl))
  obtain ⟨o, eo⟩ : ∃ o, o = (0 + (57896044618658097711785492504343953926634992332820282019728792003956564819949 - a % 57896044618658097711785492504343953926634992332820282019728792003956564819949)) % 57896044618658097711785492504343953926634992332820282019728792003956564819949 := ⟨_, rfl⟩
  have lo : o < 115792089237316195423570985008687907853269984665640564039457584007913129639936 := by rw [eo]; exact Nat.lt_trans (Nat.mod_lt _ (by decide)) (by decide)
  have NO : Hid ((o + a) % 57896044618658097711785492504343953926634992332820282019728792003956564819949 = 0) := by rw [eo, m_sub_add _ 0 a (by decide)]; rfl
  have hc := Sub_any 0 a w1 (by decide) LA.out (PrimeAt.below HPP.out H1.out)
  rw [← eo] at hc
  rw [zero_numA]
  refine hc.mono ?_
  clear hc eo
  rintro e w2 ⟨rfl, hb2⟩
  have HB : Hid (Below W0.heap.size W0 w2) := H1.out.trans (hb2.mono H1.out.size)
  have LO := hide lo
  clear hb2 lo
  go_wp2_with (refine wpList_store_row rfl 22 _ _ rfl w2.heap.size (numA o) rfl rfl 22 #[.int .u8 0, .int .u8 0, .int .u8 0, .int .u8 0, .int .u8 0, .int .u8 0, .int .u8 0, .int .u8 0, .int .u8 0, .int .u8 0, .int .u8 0, .int .u8 0, .int .u8 0, .int .u8 0, .int .u8 0, .int .u8 0, .int .u8 0, .int .u8 0, .int .u8 0, .int .u8 0, .int .u8 0, .int .u8 0, .int .u8 0, .int .u8 0, .int .u8 0, .int .u8 0, .int .u8 0, .int .u8 0, .int .u8 0, .int .u8 0, .int .u8 0, .int .u8 0] (alloc_top _ _ _ rfl) (by rw [numA_size]; kernel_rfl) (by rw [numA_size]; rfl) (numA_one _) ?_)
  obtain ⟨W2, hW2⟩ : ∃ W2, W2 = (w2.alloc (.cells #[.int .u8 0, .int .u8 0, .int .u8 0, .int .u8 0, .int .u8 0, .int .u8 0, .int .u8 0, .int .u8 0, .int .u8 0, .int .u8 0, .int .u8 0, .int .u8 0, .int .u8 0, .int .u8 0, .int .u8 0, .int .u8 0, .int .u8 0, .int .u8 0, .int .u8 0, .int .u8 0, .int .u8 0, .int .u8 0, .int .u8 0, .int .u8 0, .int .u8 0, .int .u8 0, .int .u8 0, .int .u8 0, .int .u8 0, .int .u8 0, .int .u8 0, .int .u8 0] 22)).setRow w2.heap.size (numA o) := ⟨_, rfl⟩
  rw [← hW2]
  have hs2 : W2.heap.size = w2.heap.size + 1 := by rw [hW2]; simp
  have hle := HB.out.size
  have Q2 : Below W0.heap.size W0 W2 := by rw [hW2]; exact below_setRow (HB.out.alloc hle _) hle
  have H2 := hide Q2
  have HPP0 := HPP
  clear HPP
  have HPP := hide (PrimeAt.below HPP0.out Q2)
  have Ga0 := Ga
  have Gb0 := Gb
  clear Ga Gb
  have Ga : Hid (∀ w', Below W2.heap.size W2 w' → w'.heap[w.heap.size]? = some (.cells (numA a) 22 (0, 0))) := fun w' hb => Ga0.out w' (Q2.trans (hb.mono Q2.size))
  have Gb : Hid (∀ w', Below W2.heap.size W2 w' → w'.heap[w.heap.size + 1]? = some (.cells (numA b) 22 (0, 0))) := fun w' hb => Gb0.out w' (Q2.trans (hb.mono Q2.size))
  have Go : Hid (∀ w', Below W2.heap.size W2 w' → w'.heap[w2.heap.size]? = some (.cells (numA o) 22 (0, 0))) := fun w' hb => by
    rw [hb.block _ (by omega), hW2]; exact setRow_heap _ _ _ _ _ _ (alloc_top _ _ _ rfl)
  clear hW2 hs2 hle Q2 Ga0 Gb0 HPP0
  go_wp2_with fail
  have la := LA.out
  have lb := LB.out
  have lo := LO.out
  have l0 : 0 < 115792089237316195423570985008687907853269984665640564039457584007913129639936 := by decide
  obtain ⟨v1, ev1⟩ : ∃ v1, v1 = a * a % 57896044618658097711785492504343953926634992332820282019728792003956564819949 := ⟨_, rfl⟩
  have lv1 : v1 < 115792089237316195423570985008687907853269984665640564039457584007913129639936 := by rw [ev1]; exact Nat.lt_trans (Nat.mod_lt _ (by decide)) (by decide)
  obtain ⟨v2, ev2⟩ : ∃ v2, v2 = b * b % 57896044618658097711785492504343953926634992332820282019728792003956564819949 := ⟨_, rfl⟩
  have lv2 : v2 < 115792089237316195423570985008687907853269984665640564039457584007913129639936 := by rw [ev2]; exact Nat.lt_trans (Nat.mod_lt _ (by decide)) (by decide)
  obtain ⟨v3, ev3⟩ : ∃ v3, v3 = (v1 + (57896044618658097711785492504343953926634992332820282019728792003956564819949 - v2 % 57896044618658097711785492504343953926634992332820282019728792003956564819949)) % 57896044618658097711785492504343953926634992332820282019728792003956564819949 := ⟨_, rfl⟩
  have lv3 : v3 < 115792089237316195423570985008687907853269984665640564039457584007913129639936 := by rw [ev3]; exact Nat.lt_trans (Nat.mod_lt _ (by decide)) (by decide)
  refine wp_region_quiet_made (W0 := W2) (ob := .cells #[.int .u8 0, .int .u8 0, .int .u8 0, .int .u8 0, .int .u8 0, .int .u8 0, .int .u8 0, .int .u8 0, .int .u8 0, .int .u8 0, .int .u8 0, .int .u8 0, .int .u8 0, .int .u8 0, .int .u8 0, .int .u8 0, .int .u8 0, .int .u8 0, .int .u8 0, .int .u8 0, .int .u8 0, .int .u8 0, .int .u8 0, .int .u8 0, .int .u8 0, .int .u8 0, .int .u8 0, .int .u8 0, .int .u8 0, .int .u8 0, .int .u8 0, .int .u8 0] 22) 7 _ rfl (by kernel_rfl) (by kernel_rfl) (by kernel_rfl) (by kernel_rfl) (by kernel_rfl) (by kernel_rfl) (by kernel_rfl) rfl rfl (fun a w => by kernel_rfl) (by kernel_rfl) (by kernel_rfl) (by kernel_rfl) (Below.refl _ _) ?_
  apply Exists.intro
  refine And.intro ?_ ?_
  · intro B hB
    dsimp only [List.take_succ_cons, List.take_zero]
    have HPW := PrimeAt.below HPP.out hB
    have Fa := fun w' (hb : Below B.heap.size B w') => Ga.out w' (hB.trans (hb.mono hB.size))
    have Fb := fun w' (hb : Below B.heap.size B w') => Gb.out w' (hB.trans (hb.mono hB.size))
    have Fo := fun w' (hb : Below B.heap.size B w') => Go.out w' (hB.trans (hb.mono hB.size))
    have Cv1 : ∀ w', Below B.heap.size B w' → Calls Tryd.prog 19 [.agg (numA a), .agg (numA a)].toArray w' fun e w2 => e = .returned (.agg (numA v1)) ∧ Below B.heap.size B w2 := fun w' hb => by rw [ev1]; exact (Mul_any a a w' la la).mono fun e w2 hh => ⟨hh.1, hb.trans (hh.2.mono hb.size)⟩
    have Cv2 : ∀ w', Below B.heap.size B w' → Calls Tryd.prog 19 [.agg (numA b), .agg (numA b)].toArray w' fun e w2 => e = .returned (.agg (numA v2)) ∧ Below B.heap.size B w2 := fun w' hb => by rw [ev2]; exact (Mul_any b b w' lb lb).mono fun e w2 hh => ⟨hh.1, hb.trans (hh.2.mono hb.size)⟩
    have Cv3 : ∀ w', Below B.heap.size B w' → Calls Tryd.prog 17 [.agg (numA v1), .agg (numA v2)].toArray w' fun e w2 => e = .returned (.agg (numA v3)) ∧ Below B.heap.size B w2 := fun w' hb => by rw [ev3]; exact (Sub_any v1 v2 w' lv1 lv2 (PrimeAt.below HPW hb)).mono fun e w2 hh => ⟨hh.1, hb.trans (hh.2.mono hb.size)⟩
    refine q_load (by kernel_rfl) 22 _ (w.heap.size) 22 (numA a) (0, 0) _ rfl (by kernel_rfl) Fa Tryd.underlying22 rfl (by rw [numA_size]; kernel_rfl) ?_
    simp only [Act.put, List.setIfInBounds_toArray, List.set_cons_succ, List.set_cons_zero]
    refine q_load (by kernel_rfl) 22 _ (w.heap.size) 22 (numA a) (0, 0) _ rfl (by kernel_rfl) Fa Tryd.underlying22 rfl (by rw [numA_size]; kernel_rfl) ?_
    simp only [Act.put, List.setIfInBounds_toArray, List.set_cons_succ, List.set_cons_zero]
    refine q_call (by kernel_rfl) 19 Tryd.f19 _ _ _ [.agg (numA a), .agg (numA a)] (.agg (numA v1)) rfl (by kernel_rfl) Tryd.func19 (by kernel_rfl) rfl Cv1 ?_
    simp only [Act.put, List.setIfInBounds_toArray, List.set_cons_succ, List.set_cons_zero]
    refine q_load (by kernel_rfl) 22 _ (w.heap.size + 1) 22 (numA b) (0, 0) _ rfl (by kernel_rfl) Fb Tryd.underlying22 rfl (by rw [numA_size]; kernel_rfl) ?_
    simp only [Act.put, List.setIfInBounds_toArray, List.set_cons_succ, List.set_cons_zero]
    refine q_load (by kernel_rfl) 22 _ (w.heap.size + 1) 22 (numA b) (0, 0) _ rfl (by kernel_rfl) Fb Tryd.underlying22 rfl (by rw [numA_size]; kernel_rfl) ?_
    simp only [Act.put, List.setIfInBounds_toArray, List.set_cons_succ, List.set_cons_zero]
    refine q_call (by kernel_rfl) 19 Tryd.f19 _ _ _ [.agg (numA b), .agg (numA b)] (.agg (numA v2)) rfl (by kernel_rfl) Tryd.func19 (by kernel_rfl) rfl Cv2 ?_
    simp only [Act.put, List.setIfInBounds_toArray, List.set_cons_succ, List.set_cons_zero]
    refine q_call (by kernel_rfl) 17 Tryd.f17 _ _ _ [.agg (numA v1), .agg (numA v2)] (.agg (numA v3)) rfl (by kernel_rfl) Tryd.func17 (by kernel_rfl) rfl Cv3 ?_
    simp only [Act.put, List.setIfInBounds_toArray, List.set_cons_succ, List.set_cons_zero]
    exact wpQuiet_nil rfl
  intro g w3 hg hw30 hgb
  dsimp only [List.drop_succ_cons, List.drop_zero]
  simp only [Act.put, List.setIfInBounds_toArray, List.set_cons_succ, List.set_cons_zero]
  refine wpList_store_row rfl 22 _ _ rfl g (numA v3) (by kernel_rfl) (by kernel_rfl) 22 _ hgb (by rw [numA_size]; kernel_rfl) (by rw [numA_size]; rfl) (numA_one _) ?_
  obtain ⟨W9, hW9⟩ : ∃ W9, W9 = w3.setRow g (numA v3) := ⟨_, rfl⟩
  rw [← hW9]
  have hsz9 : W9.heap.size = w3.heap.size := by rw [hW9]; simp
  have hgl : g < w3.heap.size := by rcases Nat.lt_or_ge g w3.heap.size with h' | h'; exact h'; rw [Array.getElem?_eq_none h'] at hgb; cases hgb
  have Q9 : Below W2.heap.size W2 W9 := by rw [hW9]; exact below_setRow hw30 hg
  have H9 : Hid (Below W2.heap.size W2 W9) := Q9
  have HPP9 := hide (PrimeAt.below HPP.out Q9)
  have Ga9 : Hid (∀ w', Below W9.heap.size W9 w' → w'.heap[w.heap.size]? = some (.cells (numA a) 22 (0, 0))) := fun w' hb => Ga.out w' (Q9.trans (hb.mono Q9.size))
  have Gb9 : Hid (∀ w', Below W9.heap.size W9 w' → w'.heap[w.heap.size + 1]? = some (.cells (numA b) 22 (0, 0))) := fun w' hb => Gb.out w' (Q9.trans (hb.mono Q9.size))
  have Go9 : Hid (∀ w', Below W9.heap.size W9 w' → w'.heap[w2.heap.size]? = some (.cells (numA o) 22 (0, 0))) := fun w' hb => Go.out w' (Q9.trans (hb.mono Q9.size))
  have Gn9 : Hid (∀ w', Below W9.heap.size W9 w' → w'.heap[g]? = some (.cells (numA v3) 22 (0, 0))) := fun w' hb => by rw [hb.block g (by omega), hW9]; exact setRow_heap _ _ _ _ _ _ hgb
  have EQ : Hid (v3 = (a * a % 57896044618658097711785492504343953926634992332820282019728792003956564819949 + (57896044618658097711785492504343953926634992332820282019728792003956564819949 - b * b % 57896044618658097711785492504343953926634992332820282019728792003956564819949 % 57896044618658097711785492504343953926634992332820282019728792003956564819949)) % 57896044618658097711785492504343953926634992332820282019728792003956564819949) := by rw [ev3, ev1, ev2]; rfl
  have LQ := hide lv3
  clear hW9 hsz9 hgl Q9 hgb hw30 hg la lb lo l0 lv1 lv2 lv3 ev1 ev2 ev3
  go_wp2_with fail
  have Fa := Ga9.out
  have Fb := Gb9.out
  have Fo := Go9.out
  have Fv3 := Gn9.out
  have HPW := HPP9.out
  have la := LA.out
  have lb := LB.out
  have lo := LO.out
  have lv3 := LQ.out
  obtain ⟨u1, eu1⟩ : ∃ u1, u1 = a * a % 57896044618658097711785492504343953926634992332820282019728792003956564819949 := ⟨_, rfl⟩
  have lu1 : u1 < 115792089237316195423570985008687907853269984665640564039457584007913129639936 := by rw [eu1]; exact Nat.lt_trans (Nat.mod_lt _ (by decide)) (by decide)
  have Cu1 : ∀ w', Below W9.heap.size W9 w' → Calls Tryd.prog 19 [.agg (numA a), .agg (numA a)].toArray w' fun e w2 => e = .returned (.agg (numA u1)) ∧ Below W9.heap.size W9 w2 := fun w' hb => by rw [eu1]; exact (Mul_any a a w' la la).mono fun e w2 hh => ⟨hh.1, hb.trans (hh.2.mono hb.size)⟩
  obtain ⟨u2, eu2⟩ : ∃ u2, u2 = o * o % 57896044618658097711785492504343953926634992332820282019728792003956564819949 := ⟨_, rfl⟩
  have lu2 : u2 < 115792089237316195423570985008687907853269984665640564039457584007913129639936 := by rw [eu2]; exact Nat.lt_trans (Nat.mod_lt _ (by decide)) (by decide)
  have Cu2 : ∀ w', Below W9.heap.size W9 w' → Calls Tryd.prog 19 [.agg (numA o), .agg (numA o)].toArray w' fun e w2 => e = .returned (.agg (numA u2)) ∧ Below W9.heap.size W9 w2 := fun w' hb => by rw [eu2]; exact (Mul_any o o w' lo lo).mono fun e w2 hh => ⟨hh.1, hb.trans (hh.2.mono hb.size)⟩
  obtain ⟨u3, eu3⟩ : ∃ u3, u3 = (a + o) % 57896044618658097711785492504343953926634992332820282019728792003956564819949 := ⟨_, rfl⟩
  have lu3 : u3 < 115792089237316195423570985008687907853269984665640564039457584007913129639936 := by rw [eu3]; exact Nat.lt_trans (Nat.mod_lt _ (by decide)) (by decide)
  have Cu3 : ∀ w', Below W9.heap.size W9 w' → Calls Tryd.prog 15 [.agg (numA a), .agg (numA o)].toArray w' fun e w2 => e = .returned (.agg (numA u3)) ∧ Below W9.heap.size W9 w2 := fun w' hb => by rw [eu3]; exact (Add_any a o w' la lo).mono fun e w2 hh => ⟨hh.1, hb.trans (hh.2.mono hb.size)⟩
  obtain ⟨u4, eu4⟩ : ∃ u4, u4 = decide (u3 % 57896044618658097711785492504343953926634992332820282019728792003956564819949 = 0) := ⟨_, rfl⟩
  have Cu4 : ∀ w', Below W9.heap.size W9 w' → Calls Tryd.prog 21 [.agg (numA u3)].toArray w' fun e w2 => e = .returned (.bool u4) ∧ Below W9.heap.size W9 w2 := fun w' hb => by rw [eu4]; exact (Zero_any u3 w' lu3).mono fun e w2 hh => ⟨hh.1, hb.trans (hh.2.mono hb.size)⟩
  obtain ⟨u5, eu5⟩ : ∃ u5, u5 = (a + b) % 57896044618658097711785492504343953926634992332820282019728792003956564819949 := ⟨_, rfl⟩
  have lu5 : u5 < 115792089237316195423570985008687907853269984665640564039457584007913129639936 := by rw [eu5]; exact Nat.lt_trans (Nat.mod_lt _ (by decide)) (by decide)
  have Cu5 : ∀ w', Below W9.heap.size W9 w' → Calls Tryd.prog 15 [.agg (numA a), .agg (numA b)].toArray w' fun e w2 => e = .returned (.agg (numA u5)) ∧ Below W9.heap.size W9 w2 := fun w' hb => by rw [eu5]; exact (Add_any a b w' la lb).mono fun e w2 hh => ⟨hh.1, hb.trans (hh.2.mono hb.size)⟩
  obtain ⟨u6, eu6⟩ : ∃ u6, u6 = (a + (57896044618658097711785492504343953926634992332820282019728792003956564819949 - b % 57896044618658097711785492504343953926634992332820282019728792003956564819949)) % 57896044618658097711785492504343953926634992332820282019728792003956564819949 := ⟨_, rfl⟩
  have lu6 : u6 < 115792089237316195423570985008687907853269984665640564039457584007913129639936 := by rw [eu6]; exact Nat.lt_trans (Nat.mod_lt _ (by decide)) (by decide)
  have Cu6 : ∀ w', Below W9.heap.size W9 w' → Calls Tryd.prog 17 [.agg (numA a), .agg (numA b)].toArray w' fun e w2 => e = .returned (.agg (numA u6)) ∧ Below W9.heap.size W9 w2 := fun w' hb => by rw [eu6]; exact (Sub_any a b w' la lb (PrimeAt.below HPW hb)).mono fun e w2 hh => ⟨hh.1, hb.trans (hh.2.mono hb.size)⟩
  obtain ⟨u7, eu7⟩ : ∃ u7, u7 = u5 * u6 % 57896044618658097711785492504343953926634992332820282019728792003956564819949 := ⟨_, rfl⟩
  have lu7 : u7 < 115792089237316195423570985008687907853269984665640564039457584007913129639936 := by rw [eu7]; exact Nat.lt_trans (Nat.mod_lt _ (by decide)) (by decide)
  have Cu7 : ∀ w', Below W9.heap.size W9 w' → Calls Tryd.prog 19 [.agg (numA u5), .agg (numA u6)].toArray w' fun e w2 => e = .returned (.agg (numA u7)) ∧ Below W9.heap.size W9 w2 := fun w' hb => by rw [eu7]; exact (Mul_any u5 u6 w' lu5 lu6).mono fun e w2 hh => ⟨hh.1, hb.trans (hh.2.mono hb.size)⟩
  have zu4 : u4 = true := by rw [eu4]; exact decide_eq_true (by rw [eu3, Nat.mod_mod, Nat.add_comm]; exact NO.out)
  refine wp_region_quiet (C := fun w' => Below W9.heap.size W9 w') (by kernel_rfl) (by kernel_rfl) (Below.trans (Below.refl _ _) ⟨rfl, rfl, rfl, Nat.le_refl _, fun _ _ => rfl⟩) ?_
  refine q_load (by kernel_rfl) 22 _ (w.heap.size) 22 (numA a) (0, 0) _ rfl (by kernel_rfl) Fa Tryd.underlying22 rfl (by rw [numA_size]; kernel_rfl) ?_
  simp only [Act.put, List.setIfInBounds_toArray, List.set_cons_succ, List.set_cons_zero]
  refine q_load (by kernel_rfl) 22 _ (w.heap.size) 22 (numA a) (0, 0) _ rfl (by kernel_rfl) Fa Tryd.underlying22 rfl (by rw [numA_size]; kernel_rfl) ?_
  simp only [Act.put, List.setIfInBounds_toArray, List.set_cons_succ, List.set_cons_zero]
  refine q_call (by kernel_rfl) 19 Tryd.f19 _ _ _ [.agg (numA a), .agg (numA a)] (.agg (numA u1)) rfl (by kernel_rfl) Tryd.func19 (by kernel_rfl) rfl Cu1 ?_
  simp only [Act.put, List.setIfInBounds_toArray, List.set_cons_succ, List.set_cons_zero]
  refine q_load (by kernel_rfl) 22 _ (w2.heap.size) 22 (numA o) (0, 0) _ rfl (by kernel_rfl) Fo Tryd.underlying22 rfl (by rw [numA_size]; kernel_rfl) ?_
  simp only [Act.put, List.setIfInBounds_toArray, List.set_cons_succ, List.set_cons_zero]
  refine q_load (by kernel_rfl) 22 _ (w2.heap.size) 22 (numA o) (0, 0) _ rfl (by kernel_rfl) Fo Tryd.underlying22 rfl (by rw [numA_size]; kernel_rfl) ?_
  simp only [Act.put, List.setIfInBounds_toArray, List.set_cons_succ, List.set_cons_zero]
  refine q_call (by kernel_rfl) 19 Tryd.f19 _ _ _ [.agg (numA o), .agg (numA o)] (.agg (numA u2)) rfl (by kernel_rfl) Tryd.func19 (by kernel_rfl) rfl Cu2 ?_
  simp only [Act.put, List.setIfInBounds_toArray, List.set_cons_succ, List.set_cons_zero]
  refine q_val (by kernel_rfl) (.bool true) (fun w' => (run_eql_num (t := 22) (e := 5) u1 u2 rfl (by kernel_rfl) (by kernel_rfl) lu1 lu2 Tryd.underlying22 Tryd.underlying5 sz5 ag5 eqG w').trans (by rw [show decide (u1 = u2) = true from decide_eq_true (by rw [eu1, eu2]; exact sq_neg (by decide) NO.out)])) ?_
  simp only [Act.put, List.setIfInBounds_toArray, List.set_cons_succ, List.set_cons_zero]
  refine q_val (by kernel_rfl) (.bool true) (fun w' => by kernel_rfl) ?_
  simp only [Act.put, List.setIfInBounds_toArray, List.set_cons_succ, List.set_cons_zero]
  refine q_load (by kernel_rfl) 22 _ (w.heap.size) 22 (numA a) (0, 0) _ rfl (by kernel_rfl) Fa Tryd.underlying22 rfl (by rw [numA_size]; kernel_rfl) ?_
  simp only [Act.put, List.setIfInBounds_toArray, List.set_cons_succ, List.set_cons_zero]
  refine q_load (by kernel_rfl) 22 _ (w2.heap.size) 22 (numA o) (0, 0) _ rfl (by kernel_rfl) Fo Tryd.underlying22 rfl (by rw [numA_size]; kernel_rfl) ?_
  simp only [Act.put, List.setIfInBounds_toArray, List.set_cons_succ, List.set_cons_zero]
  refine q_call (by kernel_rfl) 15 Tryd.f15 _ _ _ [.agg (numA a), .agg (numA o)] (.agg (numA u3)) rfl (by kernel_rfl) Tryd.func15 (by kernel_rfl) rfl Cu3 ?_
  simp only [Act.put, List.setIfInBounds_toArray, List.set_cons_succ, List.set_cons_zero]
  refine q_call (by kernel_rfl) 21 Tryd.f21 _ _ _ [.agg (numA u3)] (.bool true) rfl (by kernel_rfl) Tryd.func21 (by kernel_rfl) rfl (by rw [← zu4]; exact Cu4) ?_
  simp only [Act.put, List.setIfInBounds_toArray, List.set_cons_succ, List.set_cons_zero]
  refine q_val (by kernel_rfl) (.bool true) (fun w' => by kernel_rfl) ?_
  simp only [Act.put, List.setIfInBounds_toArray, List.set_cons_succ, List.set_cons_zero]
  refine q_val (by kernel_rfl) (.bool true) (fun w' => by kernel_rfl) ?_
  simp only [Act.put, List.setIfInBounds_toArray, List.set_cons_succ, List.set_cons_zero]
  refine q_load (by kernel_rfl) 22 _ (g) 22 (numA v3) (0, 0) _ rfl (by kernel_rfl) Fv3 Tryd.underlying22 rfl (by rw [numA_size]; kernel_rfl) ?_
  simp only [Act.put, List.setIfInBounds_toArray, List.set_cons_succ, List.set_cons_zero]
  refine q_load (by kernel_rfl) 22 _ (w.heap.size) 22 (numA a) (0, 0) _ rfl (by kernel_rfl) Fa Tryd.underlying22 rfl (by rw [numA_size]; kernel_rfl) ?_
  simp only [Act.put, List.setIfInBounds_toArray, List.set_cons_succ, List.set_cons_zero]
  refine q_load (by kernel_rfl) 22 _ (w.heap.size + 1) 22 (numA b) (0, 0) _ rfl (by kernel_rfl) Fb Tryd.underlying22 rfl (by rw [numA_size]; kernel_rfl) ?_
  simp only [Act.put, List.setIfInBounds_toArray, List.set_cons_succ, List.set_cons_zero]
  refine q_call (by kernel_rfl) 15 Tryd.f15 _ _ _ [.agg (numA a), .agg (numA b)] (.agg (numA u5)) rfl (by kernel_rfl) Tryd.func15 (by kernel_rfl) rfl Cu5 ?_
  simp only [Act.put, List.setIfInBounds_toArray, List.set_cons_succ, List.set_cons_zero]
  refine q_load (by kernel_rfl) 22 _ (w.heap.size) 22 (numA a) (0, 0) _ rfl (by kernel_rfl) Fa Tryd.underlying22 rfl (by rw [numA_size]; kernel_rfl) ?_
  simp only [Act.put, List.setIfInBounds_toArray, List.set_cons_succ, List.set_cons_zero]
  refine q_load (by kernel_rfl) 22 _ (w.heap.size + 1) 22 (numA b) (0, 0) _ rfl (by kernel_rfl) Fb Tryd.underlying22 rfl (by rw [numA_size]; kernel_rfl) ?_
  simp only [Act.put, List.setIfInBounds_toArray, List.set_cons_succ, List.set_cons_zero]
  refine q_call (by kernel_rfl) 17 Tryd.f17 _ _ _ [.agg (numA a), .agg (numA b)] (.agg (numA u6)) rfl (by kernel_rfl) Tryd.func17 (by kernel_rfl) rfl Cu6 ?_
  simp only [Act.put, List.setIfInBounds_toArray, List.set_cons_succ, List.set_cons_zero]
  refine q_call (by kernel_rfl) 19 Tryd.f19 _ _ _ [.agg (numA u5), .agg (numA u6)] (.agg (numA u7)) rfl (by kernel_rfl) Tryd.func19 (by kernel_rfl) rfl Cu7 ?_
  simp only [Act.put, List.setIfInBounds_toArray, List.set_cons_succ, List.set_cons_zero]
  refine q_val (by kernel_rfl) (.bool true) (fun w' => (run_eql_num (t := 22) (e := 5) v3 u7 rfl (by kernel_rfl) (by kernel_rfl) lv3 lu7 Tryd.underlying22 Tryd.underlying5 sz5 ag5 eqG w').trans (by rw [show decide (v3 = u7) = true from decide_eq_true (by rw [EQ.out]; exact sub_is (by decide) (by rw [eu7]; exact Nat.mod_lt _ (by decide)) (by rw [eu7, eu5]; exact sq_diff (by decide) (by rw [eu6]; exact m_sub_add _ a b (by decide))))])) ?_
  simp only [Act.put, List.setIfInBounds_toArray, List.set_cons_succ, List.set_cons_zero]
  refine q_val (by kernel_rfl) (.bool true) (fun w' => by kernel_rfl) ?_
  simp only [Act.put, List.setIfInBounds_toArray, List.set_cons_succ, List.set_cons_zero]
  refine q_val (by kernel_rfl) (.bool true) (fun w' => by kernel_rfl) ?_
  simp only [Act.put, List.setIfInBounds_toArray, List.set_cons_succ, List.set_cons_zero]
  refine wpQuiet_nil ?_
  intro w4 hw40
  have Hw4 := hide hw40
  clear hw40 Fa Fb Fo Fv3 HPW  la lb lo lv3 Cu1 Cu2 Cu3 Cu4 Cu5 Cu6 Cu7 lu1 lu2 lu3 lu5 lu6 lu7 zu4 eu1 eu2 eu3 eu4 eu5 eu6 eu7
  go_wp2_with fail
  go_ret
  exact ⟨rfl, HQ.out.trans (Below.mono (H2.out.trans ((H9.out.trans (Hw4.out.mono H9.out.size)).mono H2.out.size)) (by have := HS.out; omega))⟩
end Go.Proofs.YtainefilkccemaaDoor
