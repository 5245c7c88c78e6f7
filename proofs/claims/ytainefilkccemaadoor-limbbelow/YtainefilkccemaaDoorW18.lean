/-
  What LimbBelow answers: true, whatever two numbers are.
-/
import Derived.Test.YtainefilkccemaaDoorW13
import Derived.Test.YtainefilkccemaaDoorModB
import Derived.Test.YtainefilkccemaaDoorPart
namespace Go.Proofs.YtainefilkccemaaDoor
open Go.RowKit
set_option linter.unusedSimpArgs false
set_option linter.unusedVariables false

set_option maxHeartbeats 4000000 in
theorem below_any (a b : Nat) (w : World) (la : a < 115792089237316195423570985008687907853269984665640564039457584007913129639936) (lb : b < 115792089237316195423570985008687907853269984665640564039457584007913129639936) (hp : PrimeAt w) :
    Calls Tryd.prog 6 #[.agg (numA a), .agg (numA b)] w fun e w' => e = .returned (.bool true) ∧ Below w.heap.size w w' := by
  have LA := hide la
  have LB := hide lb
  have HP := hide hp
  clear la lb hp
  go_enter Tryd.func6, Tryd.ntmps6
  go_wp2_with fail
  have QX : Below w.heap.size w ((w.alloc (.cells (numA a) 22)).alloc (.cells (numA b) 22)) := by (repeat (first | with_reducible exact Below.refl _ _ | with_reducible assumption | with_reducible refine Below.drew ?_ | (with_reducible refine Below.alloc ?_ ?hB _; (case hB => first | omega | (simp <;> omega)))))
  refine (alive_any _ (PrimeAt.below HP.out QX)).mono ?_
  rintro e w1 ⟨rfl, hb1⟩
  obtain ⟨W0, hW⟩ : ∃ W0, W0 = ((w.alloc (.cells (numA a) 22)).alloc (.cells (numA b) 22)) := ⟨_, rfl⟩
  rw [← hW] at hb1 QX
  have hsz : W0.heap.size = w.heap.size + 2 := by rw [hW]; simp
  have HPP := hide (PrimeAt.below HP.out QX)
  have Ga : Hid (∀ w', Below W0.heap.size W0 w' → w'.heap[w.heap.size]? = some (.cells (numA a) 22 (0, 0))) := fun w' hb => by
    rw [hb.block _ (by omega), hW]; exact heap_alloc2_old _ _ _
  have Gb : Hid (∀ w', Below W0.heap.size W0 w' → w'.heap[w.heap.size + 1]? = some (.cells (numA b) 22 (0, 0))) := fun w' hb => by
    rw [hb.block _ (by omega), hW]; exact heap_alloc2_new _ _ _
  have H1 := hide hb1
  have HS := hide hsz
  have HQ := hide QX
  clear hb1 hsz QX hW
  go_wp2_with fail
  have Fa := Ga.out
  have Fb := Gb.out
  have HPW := HPP.out
  have la := LA.out
  have lb := LB.out
  obtain ⟨v1, ev1⟩ : ∃ v1, v1 = a % 57896044618658097711785492504343953926634992332820282019728792003956564819949 := ⟨_, rfl⟩
  have lv1 : v1 < 115792089237316195423570985008687907853269984665640564039457584007913129639936 := by rw [ev1]; exact Nat.lt_trans (Nat.mod_lt _ (by decide)) (by decide)
  have Cv1 : ∀ w', Below W0.heap.size W0 w' → Calls Tryd.prog 13 [.agg (numA a)].toArray w' fun e w2 => e = .returned (.agg (numA v1)) ∧ Below W0.heap.size W0 w2 := fun w' hb => by rw [ev1]; exact (Reduce_any a w' la).mono fun e w2 hh => ⟨hh.1, hb.trans (hh.2.mono hb.size)⟩
  obtain ⟨v2, ev2⟩ : ∃ v2, v2 = (a + b) % 57896044618658097711785492504343953926634992332820282019728792003956564819949 := ⟨_, rfl⟩
  have lv2 : v2 < 115792089237316195423570985008687907853269984665640564039457584007913129639936 := by rw [ev2]; exact Nat.lt_trans (Nat.mod_lt _ (by decide)) (by decide)
  have Cv2 : ∀ w', Below W0.heap.size W0 w' → Calls Tryd.prog 15 [.agg (numA a), .agg (numA b)].toArray w' fun e w2 => e = .returned (.agg (numA v2)) ∧ Below W0.heap.size W0 w2 := fun w' hb => by rw [ev2]; exact (Add_any a b w' la lb).mono fun e w2 hh => ⟨hh.1, hb.trans (hh.2.mono hb.size)⟩
  obtain ⟨v3, ev3⟩ : ∃ v3, v3 = (a + (57896044618658097711785492504343953926634992332820282019728792003956564819949 - b % 57896044618658097711785492504343953926634992332820282019728792003956564819949)) % 57896044618658097711785492504343953926634992332820282019728792003956564819949 := ⟨_, rfl⟩
  have lv3 : v3 < 115792089237316195423570985008687907853269984665640564039457584007913129639936 := by rw [ev3]; exact Nat.lt_trans (Nat.mod_lt _ (by decide)) (by decide)
  have Cv3 : ∀ w', Below W0.heap.size W0 w' → Calls Tryd.prog 17 [.agg (numA a), .agg (numA b)].toArray w' fun e w2 => e = .returned (.agg (numA v3)) ∧ Below W0.heap.size W0 w2 := fun w' hb => by rw [ev3]; exact (Sub_any a b w' la lb (PrimeAt.below HPW hb)).mono fun e w2 hh => ⟨hh.1, hb.trans (hh.2.mono hb.size)⟩
  obtain ⟨v4, ev4⟩ : ∃ v4, v4 = a * b % 57896044618658097711785492504343953926634992332820282019728792003956564819949 := ⟨_, rfl⟩
  have lv4 : v4 < 115792089237316195423570985008687907853269984665640564039457584007913129639936 := by rw [ev4]; exact Nat.lt_trans (Nat.mod_lt _ (by decide)) (by decide)
  have Cv4 : ∀ w', Below W0.heap.size W0 w' → Calls Tryd.prog 19 [.agg (numA a), .agg (numA b)].toArray w' fun e w2 => e = .returned (.agg (numA v4)) ∧ Below W0.heap.size W0 w2 := fun w' hb => by rw [ev4]; exact (Mul_any a b w' la lb).mono fun e w2 hh => ⟨hh.1, hb.trans (hh.2.mono hb.size)⟩
  obtain ⟨v5, ev5⟩ : ∃ v5, v5 = invOf a := ⟨_, rfl⟩
  have lv5 : v5 < 115792089237316195423570985008687907853269984665640564039457584007913129639936 := by rw [ev5]; exact invOf_lt _
  have Cv5 : ∀ w', Below W0.heap.size W0 w' → Calls Tryd.prog 22 [.agg (numA a)].toArray w' fun e w2 => e = .returned (.agg (numA v5)) ∧ Below W0.heap.size W0 w2 := fun w' hb => by rw [ev5]; exact (Inv_any a w' la (PrimeAt.below HPW hb)).mono fun e w2 hh => ⟨hh.1, hb.trans (hh.2.mono hb.size)⟩
  refine wp_region_quiet_free (C := fun w' => Below W0.heap.size W0 w') 13 2 _ (.int .i64 0) rfl rfl (by kernel_rfl) (by kernel_rfl) (by kernel_rfl) (by kernel_rfl) (by kernel_rfl) (by kernel_rfl) (by kernel_rfl) (by kernel_rfl) (by kernel_rfl) rfl rfl (fun a w => by kernel_rfl) (Below.trans H1.out ⟨rfl, rfl, rfl, Nat.le_refl _, fun _ _ => rfl⟩) ?_
  dsimp only [List.take_succ_cons, List.take_zero]
  refine q_load (by kernel_rfl) 22 _ (w.heap.size) 22 (numA a) (0, 0) _ rfl (by kernel_rfl) Fa Tryd.underlying22 rfl (by rw [numA_size]; kernel_rfl) ?_
  simp only [Act.put, List.setIfInBounds_toArray, List.set_cons_succ, List.set_cons_zero]
  refine q_call (by kernel_rfl) 13 Tryd.f13 _ _ _ [.agg (numA a)] (.agg (numA v1)) rfl (by kernel_rfl) Tryd.func13 (by kernel_rfl) rfl Cv1 ?_
  simp only [Act.put, List.setIfInBounds_toArray, List.set_cons_succ, List.set_cons_zero]
  refine q_load (by kernel_rfl) 22 _ (w.heap.size) 22 (numA a) (0, 0) _ rfl (by kernel_rfl) Fa Tryd.underlying22 rfl (by rw [numA_size]; kernel_rfl) ?_
  simp only [Act.put, List.setIfInBounds_toArray, List.set_cons_succ, List.set_cons_zero]
  refine q_load (by kernel_rfl) 22 _ (w.heap.size + 1) 22 (numA b) (0, 0) _ rfl (by kernel_rfl) Fb Tryd.underlying22 rfl (by rw [numA_size]; kernel_rfl) ?_
  simp only [Act.put, List.setIfInBounds_toArray, List.set_cons_succ, List.set_cons_zero]
  refine q_call (by kernel_rfl) 15 Tryd.f15 _ _ _ [.agg (numA a), .agg (numA b)] (.agg (numA v2)) rfl (by kernel_rfl) Tryd.func15 (by kernel_rfl) rfl Cv2 ?_
  simp only [Act.put, List.setIfInBounds_toArray, List.set_cons_succ, List.set_cons_zero]
  refine q_load (by kernel_rfl) 22 _ (w.heap.size) 22 (numA a) (0, 0) _ rfl (by kernel_rfl) Fa Tryd.underlying22 rfl (by rw [numA_size]; kernel_rfl) ?_
  simp only [Act.put, List.setIfInBounds_toArray, List.set_cons_succ, List.set_cons_zero]
  refine q_load (by kernel_rfl) 22 _ (w.heap.size + 1) 22 (numA b) (0, 0) _ rfl (by kernel_rfl) Fb Tryd.underlying22 rfl (by rw [numA_size]; kernel_rfl) ?_
  simp only [Act.put, List.setIfInBounds_toArray, List.set_cons_succ, List.set_cons_zero]
  refine q_call (by kernel_rfl) 17 Tryd.f17 _ _ _ [.agg (numA a), .agg (numA b)] (.agg (numA v3)) rfl (by kernel_rfl) Tryd.func17 (by kernel_rfl) rfl Cv3 ?_
  simp only [Act.put, List.setIfInBounds_toArray, List.set_cons_succ, List.set_cons_zero]
  refine q_load (by kernel_rfl) 22 _ (w.heap.size) 22 (numA a) (0, 0) _ rfl (by kernel_rfl) Fa Tryd.underlying22 rfl (by rw [numA_size]; kernel_rfl) ?_
  simp only [Act.put, List.setIfInBounds_toArray, List.set_cons_succ, List.set_cons_zero]
  refine q_load (by kernel_rfl) 22 _ (w.heap.size + 1) 22 (numA b) (0, 0) _ rfl (by kernel_rfl) Fb Tryd.underlying22 rfl (by rw [numA_size]; kernel_rfl) ?_
  simp only [Act.put, List.setIfInBounds_toArray, List.set_cons_succ, List.set_cons_zero]
  refine q_call (by kernel_rfl) 19 Tryd.f19 _ _ _ [.agg (numA a), .agg (numA b)] (.agg (numA v4)) rfl (by kernel_rfl) Tryd.func19 (by kernel_rfl) rfl Cv4 ?_
  simp only [Act.put, List.setIfInBounds_toArray, List.set_cons_succ, List.set_cons_zero]
  refine q_load (by kernel_rfl) 22 _ (w.heap.size) 22 (numA a) (0, 0) _ rfl (by kernel_rfl) Fa Tryd.underlying22 rfl (by rw [numA_size]; kernel_rfl) ?_
  simp only [Act.put, List.setIfInBounds_toArray, List.set_cons_succ, List.set_cons_zero]
  refine q_call (by kernel_rfl) 22 Tryd.f22 _ _ _ [.agg (numA a)] (.agg (numA v5)) rfl (by kernel_rfl) Tryd.func22 (by kernel_rfl) rfl Cv5 ?_
  simp only [Act.put, List.setIfInBounds_toArray, List.set_cons_succ, List.set_cons_zero]
  refine wpQuiet_nil ?_
  intro w3 hw30
  refine wpList_buildRow rfl 31 22 5 _ rfl [v1, v2, v3, v4, v5] (by rfl) (by kernel_rfl) (by kernel_rfl) rfl (by decide) (by decide) (by kernel_rfl) ?_
  simp only [Act.put, List.setIfInBounds_toArray, List.set_cons_succ, List.set_cons_zero]
  have RN : ∀ (i n : Nat), [v1, v2, v3, v4, v5][i]? = some n → n < 57896044618658097711785492504343953926634992332820282019728792003956564819949 := by
    intro i n hi
    have hm := List.mem_of_getElem? hi
    simp only [List.mem_cons, List.not_mem_nil, or_false] at hm
    rcases hm with rfl | rfl | rfl | rfl | rfl
    · rw [ev1]; exact Nat.mod_lt _ (by decide)
    · rw [ev2]; exact Nat.mod_lt _ (by decide)
    · rw [ev3]; exact Nat.mod_lt _ (by decide)
    · rw [ev4]; exact Nat.mod_lt _ (by decide)
    · rw [ev5]; exact invOf_ltp _
  have VL : [v1, v2, v3, v4, v5].length = 5 := rfl
  clear Cv1 Cv2 Cv3 Cv4 Cv5 lv1 lv2 lv3 lv4 lv5 ev1 ev2 ev3 ev4 ev5 la lb Fa Fb HPW
  generalize [v1, v2, v3, v4, v5] = vs at RN VL ⊢
  obtain ⟨W3, hW3⟩ : ∃ W3, W3 = w3.alloc (.cells (rowA vs) 22) := ⟨_, rfl⟩
  rw [← hW3]
  have hs3 : W3.heap.size = w3.heap.size + 1 := by rw [hW3]; simp
  have Q3 : Below W0.heap.size W0 W3 := by rw [hW3]; exact hw30.alloc hw30.size _
  have H3 := hide Q3
  have HPP3 := hide (PrimeAt.below HPP.out Q3)
  have Ga3 : Hid (∀ w', Below W3.heap.size W3 w' → w'.heap[w.heap.size]? = some (.cells (numA a) 22 (0, 0))) := fun w' hb => Ga.out w' (Q3.trans (hb.mono Q3.size))
  have Gb3 : Hid (∀ w', Below W3.heap.size W3 w' → w'.heap[w.heap.size + 1]? = some (.cells (numA b) 22 (0, 0))) := fun w' hb => Gb.out w' (Q3.trans (hb.mono Q3.size))
  have Gr : Hid (∀ w', Below W3.heap.size W3 w' → w'.heap[w3.heap.size]? = some (.cells (rowA vs) 22 (0, 0))) := fun w' hb => by
    rw [hb.block _ (by omega), hW3]; exact alloc_top _ _ _ rfl
  have HRN := hide RN
  have HVL := hide VL
  generalize w3.heap.size = gr at *
  clear RN VL hs3 hW3 Q3 hw30
  go_wp2_with fail
  unfold freePost
  simp only [Act.put, List.setIfInBounds_toArray, List.set_cons_succ, List.set_cons_zero]
  go_wp2_with fail
  go_loopg [25] 5 (fun k s25 wr => ∃ i : Nat, i + k = 5 ∧ s25 = .int .i64 (i : Int) ∧ Below W3.heap.size W3 wr)
  case atStart => exact ⟨0, rfl, rfl, Below.refl _ _⟩
  case round =>
    obtain ⟨i, hik, rfl, hB⟩ := hrel
    have HB := hide hB
    clear hB
    by_cases hk0 : gk = 0
    · obtain rfl : i = 5 := by omega
      subst hk0
      clear hik
      go_wp2_with (refine wpList_load_row rfl 22 _ rfl w.heap.size rfl 22 (numA a) (0, 0) _ (Ga3.out _ HB.out) Tryd.underlying22 rfl ?hs ?_; (case hs => rw [numA_size]; kernel_rfl))
      obtain ⟨r, er⟩ : ∃ r, r = a % 57896044618658097711785492504343953926634992332820282019728792003956564819949 := ⟨_, rfl⟩
      have hc := Reduce_any a wr LA.out
      rw [← er] at hc
      refine hc.mono ?_
      clear hc
      rintro e w4 ⟨rfl, hb4⟩
      have H4 : Hid (Below W3.heap.size W3 w4) := HB.out.trans (hb4.mono HB.out.size)
      have ER := hide er
      clear hb4 er
      go_wp2_with (refine wpList_store_row rfl 22 _ _ rfl w4.heap.size (numA r) rfl rfl 22 #[.int .u8 0, .int .u8 0, .int .u8 0, .int .u8 0, .int .u8 0, .int .u8 0, .int .u8 0, .int .u8 0, .int .u8 0, .int .u8 0, .int .u8 0, .int .u8 0, .int .u8 0, .int .u8 0, .int .u8 0, .int .u8 0, .int .u8 0, .int .u8 0, .int .u8 0, .int .u8 0, .int .u8 0, .int .u8 0, .int .u8 0, .int .u8 0, .int .u8 0, .int .u8 0, .int .u8 0, .int .u8 0, .int .u8 0, .int .u8 0, .int .u8 0, .int .u8 0] (alloc_top _ _ _ rfl) (by rw [numA_size]; kernel_rfl) (by rw [numA_size]; rfl) (numA_one _) ?_)
      obtain ⟨W5, hW5⟩ : ∃ W5, W5 = (w4.alloc (.cells #[.int .u8 0, .int .u8 0, .int .u8 0, .int .u8 0, .int .u8 0, .int .u8 0, .int .u8 0, .int .u8 0, .int .u8 0, .int .u8 0, .int .u8 0, .int .u8 0, .int .u8 0, .int .u8 0, .int .u8 0, .int .u8 0, .int .u8 0, .int .u8 0, .int .u8 0, .int .u8 0, .int .u8 0, .int .u8 0, .int .u8 0, .int .u8 0, .int .u8 0, .int .u8 0, .int .u8 0, .int .u8 0, .int .u8 0, .int .u8 0, .int .u8 0, .int .u8 0] 22)).setRow w4.heap.size (numA r) := ⟨_, rfl⟩
      rw [← hW5]
      have hs5 : W5.heap.size = w4.heap.size + 1 := by rw [hW5]; simp
      have Q5 : Below W3.heap.size W3 W5 := by rw [hW5]; exact below_setRow (H4.out.alloc H4.out.size _) H4.out.size
      have H5 := hide Q5
      have HPW := PrimeAt.below HPP3.out Q5
      have Fa := fun w' (hb : Below W5.heap.size W5 w') => Ga3.out w' (Q5.trans (hb.mono Q5.size))
      have Fb := fun w' (hb : Below W5.heap.size W5 w') => Gb3.out w' (Q5.trans (hb.mono Q5.size))
      have Fr : ∀ w', Below W5.heap.size W5 w' → w'.heap[w4.heap.size]? = some (.cells (numA r) 22 (0, 0)) := fun w' hb => by
        rw [hb.block _ (by omega), hW5]; exact setRow_heap _ _ _ _ _ _ (alloc_top _ _ _ rfl)
      have la := LA.out
      have lb := LB.out
      have lr : r < 115792089237316195423570985008687907853269984665640564039457584007913129639936 := by rw [ER.out]; exact Nat.lt_trans (Nat.mod_lt _ (by decide)) (by decide)
      obtain ⟨u1, eu1⟩ : ∃ u1, u1 = (a + b) % 57896044618658097711785492504343953926634992332820282019728792003956564819949 := ⟨_, rfl⟩
      have lu1 : u1 < 115792089237316195423570985008687907853269984665640564039457584007913129639936 := by rw [eu1]; exact Nat.lt_trans (Nat.mod_lt _ (by decide)) (by decide)
      have Cu1 : ∀ w', Below W5.heap.size W5 w' → Calls Tryd.prog 15 [.agg (numA a), .agg (numA b)].toArray w' fun e w2 => e = .returned (.agg (numA u1)) ∧ Below W5.heap.size W5 w2 := fun w' hb => by rw [eu1]; exact (Add_any a b w' la lb).mono fun e w2 hh => ⟨hh.1, hb.trans (hh.2.mono hb.size)⟩
      obtain ⟨u2, eu2⟩ : ∃ u2, u2 = (r + b) % 57896044618658097711785492504343953926634992332820282019728792003956564819949 := ⟨_, rfl⟩
      have lu2 : u2 < 115792089237316195423570985008687907853269984665640564039457584007913129639936 := by rw [eu2]; exact Nat.lt_trans (Nat.mod_lt _ (by decide)) (by decide)
      have Cu2 : ∀ w', Below W5.heap.size W5 w' → Calls Tryd.prog 15 [.agg (numA r), .agg (numA b)].toArray w' fun e w2 => e = .returned (.agg (numA u2)) ∧ Below W5.heap.size W5 w2 := fun w' hb => by rw [eu2]; exact (Add_any r b w' lr lb).mono fun e w2 hh => ⟨hh.1, hb.trans (hh.2.mono hb.size)⟩
      obtain ⟨u3, eu3⟩ : ∃ u3, u3 = a * b % 57896044618658097711785492504343953926634992332820282019728792003956564819949 := ⟨_, rfl⟩
      have lu3 : u3 < 115792089237316195423570985008687907853269984665640564039457584007913129639936 := by rw [eu3]; exact Nat.lt_trans (Nat.mod_lt _ (by decide)) (by decide)
      have Cu3 : ∀ w', Below W5.heap.size W5 w' → Calls Tryd.prog 19 [.agg (numA a), .agg (numA b)].toArray w' fun e w2 => e = .returned (.agg (numA u3)) ∧ Below W5.heap.size W5 w2 := fun w' hb => by rw [eu3]; exact (Mul_any a b w' la lb).mono fun e w2 hh => ⟨hh.1, hb.trans (hh.2.mono hb.size)⟩
      obtain ⟨u4, eu4⟩ : ∃ u4, u4 = b % 57896044618658097711785492504343953926634992332820282019728792003956564819949 := ⟨_, rfl⟩
      have lu4 : u4 < 115792089237316195423570985008687907853269984665640564039457584007913129639936 := by rw [eu4]; exact Nat.lt_trans (Nat.mod_lt _ (by decide)) (by decide)
      have Cu4 : ∀ w', Below W5.heap.size W5 w' → Calls Tryd.prog 13 [.agg (numA b)].toArray w' fun e w2 => e = .returned (.agg (numA u4)) ∧ Below W5.heap.size W5 w2 := fun w' hb => by rw [eu4]; exact (Reduce_any b w' lb).mono fun e w2 hh => ⟨hh.1, hb.trans (hh.2.mono hb.size)⟩
      obtain ⟨u5, eu5⟩ : ∃ u5, u5 = r * u4 % 57896044618658097711785492504343953926634992332820282019728792003956564819949 := ⟨_, rfl⟩
      have lu5 : u5 < 115792089237316195423570985008687907853269984665640564039457584007913129639936 := by rw [eu5]; exact Nat.lt_trans (Nat.mod_lt _ (by decide)) (by decide)
      have Cu5 : ∀ w', Below W5.heap.size W5 w' → Calls Tryd.prog 19 [.agg (numA r), .agg (numA u4)].toArray w' fun e w2 => e = .returned (.agg (numA u5)) ∧ Below W5.heap.size W5 w2 := fun w' hb => by rw [eu5]; exact (Mul_any r u4 w' lr lu4).mono fun e w2 hh => ⟨hh.1, hb.trans (hh.2.mono hb.size)⟩
      obtain ⟨u6, eu6⟩ : ∃ u6, u6 = (a + (57896044618658097711785492504343953926634992332820282019728792003956564819949 - b % 57896044618658097711785492504343953926634992332820282019728792003956564819949)) % 57896044618658097711785492504343953926634992332820282019728792003956564819949 := ⟨_, rfl⟩
      have lu6 : u6 < 115792089237316195423570985008687907853269984665640564039457584007913129639936 := by rw [eu6]; exact Nat.lt_trans (Nat.mod_lt _ (by decide)) (by decide)
      have Cu6 : ∀ w', Below W5.heap.size W5 w' → Calls Tryd.prog 17 [.agg (numA a), .agg (numA b)].toArray w' fun e w2 => e = .returned (.agg (numA u6)) ∧ Below W5.heap.size W5 w2 := fun w' hb => by rw [eu6]; exact (Sub_any a b w' la lb (PrimeAt.below HPW hb)).mono fun e w2 hh => ⟨hh.1, hb.trans (hh.2.mono hb.size)⟩
      obtain ⟨u7, eu7⟩ : ∃ u7, u7 = (r + (57896044618658097711785492504343953926634992332820282019728792003956564819949 - u4 % 57896044618658097711785492504343953926634992332820282019728792003956564819949)) % 57896044618658097711785492504343953926634992332820282019728792003956564819949 := ⟨_, rfl⟩
      have lu7 : u7 < 115792089237316195423570985008687907853269984665640564039457584007913129639936 := by rw [eu7]; exact Nat.lt_trans (Nat.mod_lt _ (by decide)) (by decide)
      have Cu7 : ∀ w', Below W5.heap.size W5 w' → Calls Tryd.prog 17 [.agg (numA r), .agg (numA u4)].toArray w' fun e w2 => e = .returned (.agg (numA u7)) ∧ Below W5.heap.size W5 w2 := fun w' hb => by rw [eu7]; exact (Sub_any r u4 w' lr lu4 (PrimeAt.below HPW hb)).mono fun e w2 hh => ⟨hh.1, hb.trans (hh.2.mono hb.size)⟩
      refine wp_region_quiet (C := fun w' => Below W5.heap.size W5 w') (by kernel_rfl) (by kernel_rfl) (Below.trans (Below.refl _ _) ⟨rfl, rfl, rfl, Nat.le_refl _, fun _ _ => rfl⟩) ?_
      refine q_load (by kernel_rfl) 22 _ (w.heap.size) 22 (numA a) (0, 0) _ rfl (by kernel_rfl) Fa Tryd.underlying22 rfl (by rw [numA_size]; kernel_rfl) ?_
      simp only [Act.put, List.setIfInBounds_toArray, List.set_cons_succ, List.set_cons_zero]
      refine q_load (by kernel_rfl) 22 _ (w.heap.size + 1) 22 (numA b) (0, 0) _ rfl (by kernel_rfl) Fb Tryd.underlying22 rfl (by rw [numA_size]; kernel_rfl) ?_
      simp only [Act.put, List.setIfInBounds_toArray, List.set_cons_succ, List.set_cons_zero]
      refine q_call (by kernel_rfl) 15 Tryd.f15 _ _ _ [.agg (numA a), .agg (numA b)] (.agg (numA u1)) rfl (by kernel_rfl) Tryd.func15 (by kernel_rfl) rfl Cu1 ?_
      simp only [Act.put, List.setIfInBounds_toArray, List.set_cons_succ, List.set_cons_zero]
      refine q_load (by kernel_rfl) 22 _ (w4.heap.size) 22 (numA r) (0, 0) _ rfl (by kernel_rfl) Fr Tryd.underlying22 rfl (by rw [numA_size]; kernel_rfl) ?_
      simp only [Act.put, List.setIfInBounds_toArray, List.set_cons_succ, List.set_cons_zero]
      refine q_load (by kernel_rfl) 22 _ (w.heap.size + 1) 22 (numA b) (0, 0) _ rfl (by kernel_rfl) Fb Tryd.underlying22 rfl (by rw [numA_size]; kernel_rfl) ?_
      simp only [Act.put, List.setIfInBounds_toArray, List.set_cons_succ, List.set_cons_zero]
      refine q_call (by kernel_rfl) 15 Tryd.f15 _ _ _ [.agg (numA r), .agg (numA b)] (.agg (numA u2)) rfl (by kernel_rfl) Tryd.func15 (by kernel_rfl) rfl Cu2 ?_
      simp only [Act.put, List.setIfInBounds_toArray, List.set_cons_succ, List.set_cons_zero]
      refine q_val (by kernel_rfl) (.bool true) (fun w' => (run_eql_num (t := 22) (e := 5) u1 u2 rfl (by kernel_rfl) (by kernel_rfl) lu1 lu2 Tryd.underlying22 Tryd.underlying5 sz5 ag5 eqG w').trans (by rw [show decide (u1 = u2) = true from decide_eq_true (by rw [eu1, eu2, ER.out]; simp [Nat.add_mod, Nat.mul_mod])])) ?_
      simp only [Act.put, List.setIfInBounds_toArray, List.set_cons_succ, List.set_cons_zero]
      refine q_val (by kernel_rfl) (.bool true) (fun w' => by kernel_rfl) ?_
      simp only [Act.put, List.setIfInBounds_toArray, List.set_cons_succ, List.set_cons_zero]
      refine q_load (by kernel_rfl) 22 _ (w.heap.size) 22 (numA a) (0, 0) _ rfl (by kernel_rfl) Fa Tryd.underlying22 rfl (by rw [numA_size]; kernel_rfl) ?_
      simp only [Act.put, List.setIfInBounds_toArray, List.set_cons_succ, List.set_cons_zero]
      refine q_load (by kernel_rfl) 22 _ (w.heap.size + 1) 22 (numA b) (0, 0) _ rfl (by kernel_rfl) Fb Tryd.underlying22 rfl (by rw [numA_size]; kernel_rfl) ?_
      simp only [Act.put, List.setIfInBounds_toArray, List.set_cons_succ, List.set_cons_zero]
      refine q_call (by kernel_rfl) 19 Tryd.f19 _ _ _ [.agg (numA a), .agg (numA b)] (.agg (numA u3)) rfl (by kernel_rfl) Tryd.func19 (by kernel_rfl) rfl Cu3 ?_
      simp only [Act.put, List.setIfInBounds_toArray, List.set_cons_succ, List.set_cons_zero]
      refine q_load (by kernel_rfl) 22 _ (w4.heap.size) 22 (numA r) (0, 0) _ rfl (by kernel_rfl) Fr Tryd.underlying22 rfl (by rw [numA_size]; kernel_rfl) ?_
      simp only [Act.put, List.setIfInBounds_toArray, List.set_cons_succ, List.set_cons_zero]
      refine q_load (by kernel_rfl) 22 _ (w.heap.size + 1) 22 (numA b) (0, 0) _ rfl (by kernel_rfl) Fb Tryd.underlying22 rfl (by rw [numA_size]; kernel_rfl) ?_
      simp only [Act.put, List.setIfInBounds_toArray, List.set_cons_succ, List.set_cons_zero]
      refine q_call (by kernel_rfl) 13 Tryd.f13 _ _ _ [.agg (numA b)] (.agg (numA u4)) rfl (by kernel_rfl) Tryd.func13 (by kernel_rfl) rfl Cu4 ?_
      simp only [Act.put, List.setIfInBounds_toArray, List.set_cons_succ, List.set_cons_zero]
      refine q_call (by kernel_rfl) 19 Tryd.f19 _ _ _ [.agg (numA r), .agg (numA u4)] (.agg (numA u5)) rfl (by kernel_rfl) Tryd.func19 (by kernel_rfl) rfl Cu5 ?_
      simp only [Act.put, List.setIfInBounds_toArray, List.set_cons_succ, List.set_cons_zero]
      refine q_val (by kernel_rfl) (.bool true) (fun w' => (run_eql_num (t := 22) (e := 5) u3 u5 rfl (by kernel_rfl) (by kernel_rfl) lu3 lu5 Tryd.underlying22 Tryd.underlying5 sz5 ag5 eqG w').trans (by rw [show decide (u3 = u5) = true from decide_eq_true (by rw [eu3, eu5, eu4, ER.out]; simp [Nat.add_mod, Nat.mul_mod])])) ?_
      simp only [Act.put, List.setIfInBounds_toArray, List.set_cons_succ, List.set_cons_zero]
      refine q_val (by kernel_rfl) (.bool true) (fun w' => by kernel_rfl) ?_
      simp only [Act.put, List.setIfInBounds_toArray, List.set_cons_succ, List.set_cons_zero]
      refine q_val (by kernel_rfl) (.bool true) (fun w' => by kernel_rfl) ?_
      simp only [Act.put, List.setIfInBounds_toArray, List.set_cons_succ, List.set_cons_zero]
      refine q_load (by kernel_rfl) 22 _ (w.heap.size) 22 (numA a) (0, 0) _ rfl (by kernel_rfl) Fa Tryd.underlying22 rfl (by rw [numA_size]; kernel_rfl) ?_
      simp only [Act.put, List.setIfInBounds_toArray, List.set_cons_succ, List.set_cons_zero]
      refine q_load (by kernel_rfl) 22 _ (w.heap.size + 1) 22 (numA b) (0, 0) _ rfl (by kernel_rfl) Fb Tryd.underlying22 rfl (by rw [numA_size]; kernel_rfl) ?_
      simp only [Act.put, List.setIfInBounds_toArray, List.set_cons_succ, List.set_cons_zero]
      refine q_call (by kernel_rfl) 17 Tryd.f17 _ _ _ [.agg (numA a), .agg (numA b)] (.agg (numA u6)) rfl (by kernel_rfl) Tryd.func17 (by kernel_rfl) rfl Cu6 ?_
      simp only [Act.put, List.setIfInBounds_toArray, List.set_cons_succ, List.set_cons_zero]
      refine q_load (by kernel_rfl) 22 _ (w4.heap.size) 22 (numA r) (0, 0) _ rfl (by kernel_rfl) Fr Tryd.underlying22 rfl (by rw [numA_size]; kernel_rfl) ?_
      simp only [Act.put, List.setIfInBounds_toArray, List.set_cons_succ, List.set_cons_zero]
      refine q_load (by kernel_rfl) 22 _ (w.heap.size + 1) 22 (numA b) (0, 0) _ rfl (by kernel_rfl) Fb Tryd.underlying22 rfl (by rw [numA_size]; kernel_rfl) ?_
      simp only [Act.put, List.setIfInBounds_toArray, List.set_cons_succ, List.set_cons_zero]
      refine q_call (by kernel_rfl) 13 Tryd.f13 _ _ _ [.agg (numA b)] (.agg (numA u4)) rfl (by kernel_rfl) Tryd.func13 (by kernel_rfl) rfl Cu4 ?_
      simp only [Act.put, List.setIfInBounds_toArray, List.set_cons_succ, List.set_cons_zero]
      refine q_call (by kernel_rfl) 17 Tryd.f17 _ _ _ [.agg (numA r), .agg (numA u4)] (.agg (numA u7)) rfl (by kernel_rfl) Tryd.func17 (by kernel_rfl) rfl Cu7 ?_
      simp only [Act.put, List.setIfInBounds_toArray, List.set_cons_succ, List.set_cons_zero]
      refine q_val (by kernel_rfl) (.bool true) (fun w' => (run_eql_num (t := 22) (e := 5) u6 u7 rfl (by kernel_rfl) (by kernel_rfl) lu6 lu7 Tryd.underlying22 Tryd.underlying5 sz5 ag5 eqG w').trans (by rw [show decide (u6 = u7) = true from decide_eq_true (by rw [eu6, eu7, eu4, ER.out]; simp [Nat.add_mod, Nat.mul_mod])])) ?_
      simp only [Act.put, List.setIfInBounds_toArray, List.set_cons_succ, List.set_cons_zero]
      refine q_val (by kernel_rfl) (.bool true) (fun w' => by kernel_rfl) ?_
      simp only [Act.put, List.setIfInBounds_toArray, List.set_cons_succ, List.set_cons_zero]
      refine q_val (by kernel_rfl) (.bool true) (fun w' => by kernel_rfl) ?_
      simp only [Act.put, List.setIfInBounds_toArray, List.set_cons_succ, List.set_cons_zero]
      refine wpQuiet_nil ?_
      intro w7 hw70
      have Hw7 := hide hw70
      clear hw70 Fa Fb Fr HPW la lb lr hW5 hs5 Q5 Cu1 lu1 eu1 Cu2 lu2 eu2 Cu3 lu3 eu3 Cu4 lu4 eu4 Cu5 lu5 eu5 Cu6 lu6 eu6 Cu7 lu7 eu7
      go_wp2_with fail
      go_ret
      exact ⟨rfl, HQ.out.trans (Below.mono (H3.out.trans ((H5.out.trans (Hw7.out.mono H5.out.size)).mono H3.out.size)) (by have := HS.out; omega))⟩
    · have hi5 : i < 5 := by omega
      obtain ⟨n, hn⟩ : ∃ n, vs[i]? = some n := ⟨vs[i]'(by rw [HVL.out]; exact hi5), List.getElem?_eq_getElem _⟩
      have hnP := HRN.out i n hn
      have hlt : ((i : Int) < 5) := by omega
      go_wp2_with (first | (refine wpList_load_at rfl 22 _ rfl gr (i * 32) rfl 22 (rowA vs) (numA n) (0, 0) _ (Gr.out _ HB.out) (rowA_at vs hn) Tryd.underlying22 rfl ?hs ?_; (case hs => rw [numA_size]; kernel_rfl)) | refine wpList_store_row rfl 22 _ _ rfl wr.heap.size (numA n) rfl rfl 22 #[.int .u8 0, .int .u8 0, .int .u8 0, .int .u8 0, .int .u8 0, .int .u8 0, .int .u8 0, .int .u8 0, .int .u8 0, .int .u8 0, .int .u8 0, .int .u8 0, .int .u8 0, .int .u8 0, .int .u8 0, .int .u8 0, .int .u8 0, .int .u8 0, .int .u8 0, .int .u8 0, .int .u8 0, .int .u8 0, .int .u8 0, .int .u8 0, .int .u8 0, .int .u8 0, .int .u8 0, .int .u8 0, .int .u8 0, .int .u8 0, .int .u8 0, .int .u8 0] (alloc_top _ _ _ rfl) (by rw [numA_size]; kernel_rfl) (by rw [numA_size]; rfl) (numA_one _) ?_)
      obtain ⟨W5, hW5⟩ : ∃ W5, W5 = (wr.alloc (.cells #[.int .u8 0, .int .u8 0, .int .u8 0, .int .u8 0, .int .u8 0, .int .u8 0, .int .u8 0, .int .u8 0, .int .u8 0, .int .u8 0, .int .u8 0, .int .u8 0, .int .u8 0, .int .u8 0, .int .u8 0, .int .u8 0, .int .u8 0, .int .u8 0, .int .u8 0, .int .u8 0, .int .u8 0, .int .u8 0, .int .u8 0, .int .u8 0, .int .u8 0, .int .u8 0, .int .u8 0, .int .u8 0, .int .u8 0, .int .u8 0, .int .u8 0, .int .u8 0] 22)).setRow wr.heap.size (numA n) := ⟨_, rfl⟩
      rw [← hW5]
      have hs5 : W5.heap.size = wr.heap.size + 1 := by rw [hW5]; simp
      have Q5 : Below W3.heap.size W3 W5 := by rw [hW5]; exact below_setRow (HB.out.alloc HB.out.size _) HB.out.size
      have Fn : ∀ w', Below W5.heap.size W5 w' → w'.heap[wr.heap.size]? = some (.cells (numA n) 22 (0, 0)) := fun w' hb => by
        rw [hb.block _ (by omega), hW5]; exact setRow_heap _ _ _ _ _ _ (alloc_top _ _ _ rfl)
      have ln : n < 115792089237316195423570985008687907853269984665640564039457584007913129639936 := Nat.lt_trans hnP (by decide)
      have Cn : ∀ w', Below W5.heap.size W5 w' → Calls Tryd.prog 13 [.agg (numA n)].toArray w' fun e w2 => e = .returned (.agg (numA n)) ∧ Below W5.heap.size W5 w2 := fun w' hb => (Reduce_any n w' ln).mono fun e w2 hh => ⟨by rw [hh.1, Nat.mod_eq_of_lt hnP], hb.trans (hh.2.mono hb.size)⟩
      obtain ⟨c, hc, ec⟩ : ∃ c, c ≤ 127 ∧ c = n / 256 ^ 31 % 256 := ⟨_, top_small hnP, rfl⟩
      have Fc : ∀ w', Below W5.heap.size W5 w' → w'.cell? ⟨wr.heap.size, 31, none⟩ = some (.int .u8 (c : Int)) := fun w' hb => by rw [ec]; exact cell_numA (Fn w' hb) 31 (by decide)
      refine wp_region_quiet (C := fun w' => Below W5.heap.size W5 w') (by kernel_rfl) (by kernel_rfl) (Below.trans (Below.refl _ _) ⟨rfl, rfl, rfl, Nat.le_refl _, fun _ _ => rfl⟩) ?_
      refine q_val (by kernel_rfl) (.pointer (some ⟨wr.heap.size, 31, none⟩)) (fun w' => by kernel_rfl) ?_
      simp only [Act.put, List.setIfInBounds_toArray, List.set_cons_succ, List.set_cons_zero]
      refine q_load1 (by kernel_rfl) 5 _ wr.heap.size 31 (.int .u8 (c : Int)) rfl (by kernel_rfl) Fc ag5 ?_
      simp only [Act.put, List.setIfInBounds_toArray, List.set_cons_succ, List.set_cons_zero]
      refine q_val (by kernel_rfl) (.bool false) (fun w' => ?gt) ?_
      case gt =>
        have e : decide ((127 : Int) < (c : Int)) = false := decide_eq_false (by omega)
        simp [execOp, Act.eval, go_sem, e]
      simp only [Act.put, List.setIfInBounds_toArray, List.set_cons_succ, List.set_cons_zero]
      refine q_val (by kernel_rfl) (.bool false) (fun w' => by kernel_rfl) ?_
      simp only [Act.put, List.setIfInBounds_toArray, List.set_cons_succ, List.set_cons_zero]
      refine q_load (by kernel_rfl) 22 _ (wr.heap.size) 22 (numA n) (0, 0) _ rfl (by kernel_rfl) Fn Tryd.underlying22 rfl (by rw [numA_size]; kernel_rfl) ?_
      simp only [Act.put, List.setIfInBounds_toArray, List.set_cons_succ, List.set_cons_zero]
      refine q_call (by kernel_rfl) 13 Tryd.f13 _ _ _ [.agg (numA n)] (.agg (numA n)) rfl (by kernel_rfl) Tryd.func13 (by kernel_rfl) rfl Cn ?_
      simp only [Act.put, List.setIfInBounds_toArray, List.set_cons_succ, List.set_cons_zero]
      refine q_load (by kernel_rfl) 22 _ (wr.heap.size) 22 (numA n) (0, 0) _ rfl (by kernel_rfl) Fn Tryd.underlying22 rfl (by rw [numA_size]; kernel_rfl) ?_
      simp only [Act.put, List.setIfInBounds_toArray, List.set_cons_succ, List.set_cons_zero]
      refine q_val (by kernel_rfl) (.bool false) (fun w' => (run_neq_num (t := 22) (e := 5) n n rfl (by kernel_rfl) (by kernel_rfl) ln ln Tryd.underlying22 Tryd.underlying5 sz5 ag5 eqG w').trans (by rw [show decide (n = n) = true from decide_eq_true rfl]; rfl)) ?_
      simp only [Act.put, List.setIfInBounds_toArray, List.set_cons_succ, List.set_cons_zero]
      refine q_val (by kernel_rfl) (.bool false) (fun w' => by kernel_rfl) ?_
      simp only [Act.put, List.setIfInBounds_toArray, List.set_cons_succ, List.set_cons_zero]
      refine wpQuiet_nil ?_
      intro w6 hw60
      have H6 : Hid (Below W3.heap.size W3 w6) := Q5.trans (hw60.mono Q5.size)
      clear hw60 Fn Fc Cn hW5 hs5 Q5 ec hc ln
      go_wp2_with fail
      go_roundg (gk - 1)
      case measure => omega
      case rel => exact ⟨i + 1, by omega, by simp, H6.out⟩
end Go.Proofs.YtainefilkccemaaDoor
