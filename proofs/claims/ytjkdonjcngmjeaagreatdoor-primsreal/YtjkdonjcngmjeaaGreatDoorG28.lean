/-
  General pieces, joined: W9 W10.
-/
import Derived.Test.YtjkdonjcngmjeaaGreatDoorG25
import Derived.Test.YtjkdonjcngmjeaaGreatDoorG27
import Derived.Test.YtjkdonjcngmjeaaGreatDoorG01
/-
  What the calls of package limb answer, on numbers of 32 bytes.
-/
namespace Go.Proofs.YtjkdonjcngmjeaaGreatDoor
open Go.RowKit
set_option linter.unusedSimpArgs false
set_option linter.unusedVariables false

theorem hide {p : Prop} (h : p) : Hid p := h
theorem store_at (X : Value) (z0 z1 z2 z3 : Nat) (w : World) (hX : X = L4 z0 z1 z2 z3) (hz : lt4 z0 z1 z2 z3) :
    Calls Tryz.prog 75 #[X] w fun e w' => e = .returned (.agg (numA (v4 z0 z1 z2 z3))) ∧ Below w.heap.size w w' := by
  subst hX; exact store_any z0 z1 z2 z3 w hz

set_option maxHeartbeats 1000000 in
theorem Reduce_any (n : Nat) (w : World) (hn : n < 115792089237316195423570985008687907853269984665640564039457584007913129639936) :
    Calls Tryz.prog 48 #[.agg (numA n)] w fun e w' => e = .returned (.agg (numA (n % 57896044618658097711785492504343953926634992332820282019728792003956564819949))) ∧ Below w.heap.size w w' := by
  have HN : Hid _ := hn
  clear hn
  have hg0 := heap_alloc2_old w (.cells (numA n) 30) (.cells #[.int .u8 0, .int .u8 0, .int .u8 0, .int .u8 0, .int .u8 0, .int .u8 0, .int .u8 0, .int .u8 0, .int .u8 0, .int .u8 0, .int .u8 0, .int .u8 0, .int .u8 0, .int .u8 0, .int .u8 0, .int .u8 0, .int .u8 0, .int .u8 0, .int .u8 0, .int .u8 0, .int .u8 0, .int .u8 0, .int .u8 0, .int .u8 0, .int .u8 0, .int .u8 0, .int .u8 0, .int .u8 0, .int .u8 0, .int .u8 0, .int .u8 0, .int .u8 0] 30)
  have hg1 := heap_alloc2_new w (.cells (numA n) 30) (.cells #[.int .u8 0, .int .u8 0, .int .u8 0, .int .u8 0, .int .u8 0, .int .u8 0, .int .u8 0, .int .u8 0, .int .u8 0, .int .u8 0, .int .u8 0, .int .u8 0, .int .u8 0, .int .u8 0, .int .u8 0, .int .u8 0, .int .u8 0, .int .u8 0, .int .u8 0, .int .u8 0, .int .u8 0, .int .u8 0, .int .u8 0, .int .u8 0, .int .u8 0, .int .u8 0, .int .u8 0, .int .u8 0, .int .u8 0, .int .u8 0, .int .u8 0, .int .u8 0] 30)
  have G0 : Hid _ := hg0
  have G1 : Hid _ := hg1
  have QB : Hid (Below w.heap.size w ((w.alloc (.cells (numA n) 30)).alloc (.cells #[.int .u8 0, .int .u8 0, .int .u8 0, .int .u8 0, .int .u8 0, .int .u8 0, .int .u8 0, .int .u8 0, .int .u8 0, .int .u8 0, .int .u8 0, .int .u8 0, .int .u8 0, .int .u8 0, .int .u8 0, .int .u8 0, .int .u8 0, .int .u8 0, .int .u8 0, .int .u8 0, .int .u8 0, .int .u8 0, .int .u8 0, .int .u8 0, .int .u8 0, .int .u8 0, .int .u8 0, .int .u8 0, .int .u8 0, .int .u8 0, .int .u8 0, .int .u8 0] 30))) := by show Below _ _ _; (repeat (first | with_reducible exact Below.refl _ _ | with_reducible assumption | with_reducible refine Below.drew ?_ | (with_reducible refine Below.alloc ?_ ?hB _; (case hB => first | omega | (simp <;> omega))) | (with_reducible refine Below.setCell ?_ ?hB _; (case hB => first | omega | (simp <;> omega)))))
  have LT : Hid (w.heap.size + 1 < ((w.alloc (.cells (numA n) 30)).alloc (.cells #[.int .u8 0, .int .u8 0, .int .u8 0, .int .u8 0, .int .u8 0, .int .u8 0, .int .u8 0, .int .u8 0, .int .u8 0, .int .u8 0, .int .u8 0, .int .u8 0, .int .u8 0, .int .u8 0, .int .u8 0, .int .u8 0, .int .u8 0, .int .u8 0, .int .u8 0, .int .u8 0, .int .u8 0, .int .u8 0, .int .u8 0, .int .u8 0, .int .u8 0, .int .u8 0, .int .u8 0, .int .u8 0, .int .u8 0, .int .u8 0, .int .u8 0, .int .u8 0] 30)).heap.size) := by show _ < _; simp
  clear hg0 hg1
  skip
  skip
  go_enter Tryz.func48, Tryz.ntmps48
  go_wp2_with (first | (refine wpList_load_row rfl 30 _ rfl _ rfl 30 (numA n) (0, 0) _ G0.out Tryz.underlying30 rfl ?hs ?_; (case hs => rw [numA_size]; kernel_rfl)))
  refine (load_at _ n _ rfl).mono ?_
  rintro e w1 ⟨rfl, hb1⟩
  have G1' : Hid _ := (hb1.block _ LT.out).trans G1.out
  have Q1 : Hid (Below w.heap.size w w1) := QB.out.trans (hb1.mono (by have := LT.out; omega))
  have L1 : Hid (w.heap.size + 1 < w1.heap.size) := Nat.lt_of_lt_of_le LT.out hb1.size
  skip
  clear hb1 G0 G1 LT QB
  go_wp2_with fail
  refine (reduce_at _ (n % 18446744073709551616) (n / 18446744073709551616 % 18446744073709551616) (n / 18446744073709551616 / 18446744073709551616 % 18446744073709551616) (n / 18446744073709551616 / 18446744073709551616 / 18446744073709551616 % 18446744073709551616) _ rfl (lt4_of n)).mono ?_
  rintro e w2 ⟨z0, z1, z2, z3, rfl, hb2, HZ⟩
  have G2 : Hid _ := (hb2.block _ L1.out).trans G1'.out
  have Q2 : Hid (Below w.heap.size w w2) := Q1.out.trans (hb2.mono (by have := L1.out; omega))
  have L2 : Hid (w.heap.size + 1 < w2.heap.size) := Nat.lt_of_lt_of_le L1.out hb2.size
  clear hb2 G1' Q1 L1
  go_wp2_with fail
  refine (store_at _ z0 z1 z2 z3 _ rfl HZ.out.1).mono ?_
  rintro e w3 ⟨rfl, hb3⟩
  have G3 : Hid _ := (hb3.block _ L2.out).trans G2.out
  have Q3 : Hid (Below w.heap.size w w3) := Q2.out.trans (hb3.mono (by have := L2.out; omega))
  clear hb3 G2 Q2
  go_wp2_with (refine wpList_store_row rfl 30 _ _ rfl _ (numA (v4 z0 z1 z2 z3)) rfl rfl 30 _ G3.out ?hs ?hs2 (numA_one _) ?_; (case hs => rw [numA_size]; kernel_rfl); (case hs2 => rw [numA_size]; rfl))
  have e1 : v4 z0 z1 z2 z3 = n % 57896044618658097711785492504343953926634992332820282019728792003956564819949 := by rw [HZ.out.2, v4_of n HN.out]
  rw [← e1]
  refine bodyPost_ret (v := .agg (numA (v4 z0 z1 z2 z3))) ?_ rfl ⟨rfl, ?_⟩
  · exact results_cell_row Tryz.results48 _ _ _ 30 (numA (v4 z0 z1 z2 z3)) (0, 0) _ rfl (setRow_heap _ _ _ _ _ _ G3.out) Tryz.underlying30 rfl (by rw [numA_size]; kernel_rfl)
  · exact below_setRow Q3.out (by omega)


set_option maxHeartbeats 1000000 in
theorem Inv_any (n : Nat) (w : World) (hn : n < 115792089237316195423570985008687907853269984665640564039457584007913129639936) (hp : PrimeAt w) :
    Calls Tryz.prog 47 #[.agg (numA n)] w fun e w' => e = .returned (.agg (numA (invOf n))) ∧ Below w.heap.size w w' := by
  have HN : Hid _ := hn
  clear hn
  have hg0 := heap_alloc2_old w (.cells (numA n) 30) (.cells #[.int .u8 0, .int .u8 0, .int .u8 0, .int .u8 0, .int .u8 0, .int .u8 0, .int .u8 0, .int .u8 0, .int .u8 0, .int .u8 0, .int .u8 0, .int .u8 0, .int .u8 0, .int .u8 0, .int .u8 0, .int .u8 0, .int .u8 0, .int .u8 0, .int .u8 0, .int .u8 0, .int .u8 0, .int .u8 0, .int .u8 0, .int .u8 0, .int .u8 0, .int .u8 0, .int .u8 0, .int .u8 0, .int .u8 0, .int .u8 0, .int .u8 0, .int .u8 0] 30)
  have hg1 := heap_alloc2_new w (.cells (numA n) 30) (.cells #[.int .u8 0, .int .u8 0, .int .u8 0, .int .u8 0, .int .u8 0, .int .u8 0, .int .u8 0, .int .u8 0, .int .u8 0, .int .u8 0, .int .u8 0, .int .u8 0, .int .u8 0, .int .u8 0, .int .u8 0, .int .u8 0, .int .u8 0, .int .u8 0, .int .u8 0, .int .u8 0, .int .u8 0, .int .u8 0, .int .u8 0, .int .u8 0, .int .u8 0, .int .u8 0, .int .u8 0, .int .u8 0, .int .u8 0, .int .u8 0, .int .u8 0, .int .u8 0] 30)
  have G0 : Hid _ := hg0
  have G1 : Hid _ := hg1
  have QB : Hid (Below w.heap.size w ((w.alloc (.cells (numA n) 30)).alloc (.cells #[.int .u8 0, .int .u8 0, .int .u8 0, .int .u8 0, .int .u8 0, .int .u8 0, .int .u8 0, .int .u8 0, .int .u8 0, .int .u8 0, .int .u8 0, .int .u8 0, .int .u8 0, .int .u8 0, .int .u8 0, .int .u8 0, .int .u8 0, .int .u8 0, .int .u8 0, .int .u8 0, .int .u8 0, .int .u8 0, .int .u8 0, .int .u8 0, .int .u8 0, .int .u8 0, .int .u8 0, .int .u8 0, .int .u8 0, .int .u8 0, .int .u8 0, .int .u8 0] 30))) := by show Below _ _ _; (repeat (first | with_reducible exact Below.refl _ _ | with_reducible assumption | with_reducible refine Below.drew ?_ | (with_reducible refine Below.alloc ?_ ?hB _; (case hB => first | omega | (simp <;> omega))) | (with_reducible refine Below.setCell ?_ ?hB _; (case hB => first | omega | (simp <;> omega)))))
  have LT : Hid (w.heap.size + 1 < ((w.alloc (.cells (numA n) 30)).alloc (.cells #[.int .u8 0, .int .u8 0, .int .u8 0, .int .u8 0, .int .u8 0, .int .u8 0, .int .u8 0, .int .u8 0, .int .u8 0, .int .u8 0, .int .u8 0, .int .u8 0, .int .u8 0, .int .u8 0, .int .u8 0, .int .u8 0, .int .u8 0, .int .u8 0, .int .u8 0, .int .u8 0, .int .u8 0, .int .u8 0, .int .u8 0, .int .u8 0, .int .u8 0, .int .u8 0, .int .u8 0, .int .u8 0, .int .u8 0, .int .u8 0, .int .u8 0, .int .u8 0] 30)).heap.size) := by show _ < _; simp
  clear hg0 hg1
  have HP : Hid _ := hp
  clear hp
  go_enter Tryz.func47, Tryz.ntmps47
  go_wp2_with (first | (refine wpList_load_row rfl 30 _ rfl _ rfl 30 (numA n) (0, 0) _ G0.out Tryz.underlying30 rfl ?hs ?_; (case hs => rw [numA_size]; kernel_rfl)))
  refine (load_at _ n _ rfl).mono ?_
  rintro e w1 ⟨rfl, hb1⟩
  have G1' : Hid _ := (hb1.block _ LT.out).trans G1.out
  have Q1 : Hid (Below w.heap.size w w1) := QB.out.trans (hb1.mono (by have := LT.out; omega))
  have L1 : Hid (w.heap.size + 1 < w1.heap.size) := Nat.lt_of_lt_of_le LT.out hb1.size
  have P1 : Hid (PrimeAt w1) := PrimeAt.below (w := w) HP.out Q1.out
  clear hb1 G0 G1 LT QB
  go_wp2_with fail
  refine (inverse_at _ (n % 18446744073709551616) (n / 18446744073709551616 % 18446744073709551616) (n / 18446744073709551616 / 18446744073709551616 % 18446744073709551616) (n / 18446744073709551616 / 18446744073709551616 / 18446744073709551616 % 18446744073709551616) _ rfl (lt4_of n) P1.out).mono ?_
  rintro e w2 ⟨z0, z1, z2, z3, rfl, hb2, HZ⟩
  have G2 : Hid _ := (hb2.block _ L1.out).trans G1'.out
  have Q2 : Hid (Below w.heap.size w w2) := Q1.out.trans (hb2.mono (by have := L1.out; omega))
  have L2 : Hid (w.heap.size + 1 < w2.heap.size) := Nat.lt_of_lt_of_le L1.out hb2.size
  clear hb2 G1' Q1 L1
  go_wp2_with fail
  refine (store_at _ z0 z1 z2 z3 _ rfl HZ.out.1).mono ?_
  rintro e w3 ⟨rfl, hb3⟩
  have G3 : Hid _ := (hb3.block _ L2.out).trans G2.out
  have Q3 : Hid (Below w.heap.size w w3) := Q2.out.trans (hb3.mono (by have := L2.out; omega))
  clear hb3 G2 Q2
  go_wp2_with (refine wpList_store_row rfl 30 _ _ rfl _ (numA (v4 z0 z1 z2 z3)) rfl rfl 30 _ G3.out ?hs ?hs2 (numA_one _) ?_; (case hs => rw [numA_size]; kernel_rfl); (case hs2 => rw [numA_size]; rfl))
  have e1 : v4 z0 z1 z2 z3 = invOf n := by rw [HZ.out.2, v4_of n HN.out, invOf_eq]
  rw [← e1]
  refine bodyPost_ret (v := .agg (numA (v4 z0 z1 z2 z3))) ?_ rfl ⟨rfl, ?_⟩
  · exact results_cell_row Tryz.results47 _ _ _ 30 (numA (v4 z0 z1 z2 z3)) (0, 0) _ rfl (setRow_heap _ _ _ _ _ _ G3.out) Tryz.underlying30 rfl (by rw [numA_size]; kernel_rfl)
  · exact below_setRow Q3.out (by omega)


/-- A number as four words. -/
def L (N : Nat) : Value := L4 (N % 18446744073709551616) (N / 18446744073709551616 % 18446744073709551616) (N / 18446744073709551616 / 18446744073709551616 % 18446744073709551616) (N / 18446744073709551616 / 18446744073709551616 / 18446744073709551616 % 18446744073709551616)
theorem L4_eq (z0 z1 z2 z3 : Nat) (h : lt4 z0 z1 z2 z3) : L4 z0 z1 z2 z3 = L (v4 z0 z1 z2 z3) := by
  unfold lt4 at h
  have e0 : v4 z0 z1 z2 z3 % 18446744073709551616 = z0 := by unfold v4; omega
  have e1 : v4 z0 z1 z2 z3 / 18446744073709551616 % 18446744073709551616 = z1 := by unfold v4; omega
  have e2 : v4 z0 z1 z2 z3 / 18446744073709551616 / 18446744073709551616 % 18446744073709551616 = z2 := by unfold v4; omega
  have e3 : v4 z0 z1 z2 z3 / 18446744073709551616 / 18446744073709551616 / 18446744073709551616 % 18446744073709551616 = z3 := by unfold v4; omega
  unfold L
  rw [e0, e1, e2, e3]
theorem store_det (N : Nat) (w : World) (hN : N < 115792089237316195423570985008687907853269984665640564039457584007913129639936) : Calls Tryz.prog 75 #[L N] w fun e w' => e = .returned (.agg (numA N)) ∧ Below w.heap.size w w' := by
  have := store_any _ _ _ _ w (lt4_of N)
  rwa [v4_of N hN] at this
theorem sum_det (N M : Nat) (w : World) (hN : N < 115792089237316195423570985008687907853269984665640564039457584007913129639936) (hM : M < 115792089237316195423570985008687907853269984665640564039457584007913129639936) : Calls Tryz.prog 112 #[L N, L M] w fun e w' => e = .returned (L ((N + M) % 57896044618658097711785492504343953926634992332820282019728792003956564819949)) ∧ Below w.heap.size w w' := by
  refine (sum_any _ _ _ _ _ _ _ _ w (lt4_of N) (lt4_of M)).mono ?_
  rintro e w' ⟨z0, z1, z2, z3, rfl, hb, H⟩
  refine ⟨congrArg Ending.returned ((L4_eq z0 z1 z2 z3 H.out.1).trans ?_), hb⟩
  rw [H.out.2, v4_of N hN, v4_of M hM]
theorem product_det (N M : Nat) (w : World) (hN : N < 115792089237316195423570985008687907853269984665640564039457584007913129639936) (hM : M < 115792089237316195423570985008687907853269984665640564039457584007913129639936) : Calls Tryz.prog 76 #[L N, L M] w fun e w' => e = .returned (L (N * M % 57896044618658097711785492504343953926634992332820282019728792003956564819949)) ∧ Below w.heap.size w w' := by
  refine (product_any _ _ _ _ _ _ _ _ w (lt4_of N) (lt4_of M)).mono ?_
  rintro e w' ⟨z0, z1, z2, z3, rfl, hb, H⟩
  refine ⟨congrArg Ending.returned ((L4_eq z0 z1 z2 z3 H.out.1).trans ?_), hb⟩
  rw [H.out.2, v4_of N hN, v4_of M hM]
theorem negative_det (N : Nat) (w : World) (hN : N < 115792089237316195423570985008687907853269984665640564039457584007913129639936) (hp : PrimeAt w) : Calls Tryz.prog 113 #[L N] w fun e w' => e = .returned (L (57896044618658097711785492504343953926634992332820282019728792003956564819949 - N % 57896044618658097711785492504343953926634992332820282019728792003956564819949)) ∧ Below w.heap.size w w' := by
  refine (negative_any _ _ _ _ w (lt4_of N) hp).mono ?_
  rintro e w' ⟨z0, z1, z2, z3, rfl, hb, H⟩
  refine ⟨congrArg Ending.returned ((L4_eq z0 z1 z2 z3 H.out.1).trans ?_), hb⟩
  have := H.out.2
  rw [v4_of N hN] at this
  exact congrArg L (by omega)


set_option maxHeartbeats 1000000 in
theorem Add_any (n m : Nat) (w : World) (hn : n < 115792089237316195423570985008687907853269984665640564039457584007913129639936) (hm : m < 115792089237316195423570985008687907853269984665640564039457584007913129639936) :
    Calls Tryz.prog 72 #[.agg (numA n), .agg (numA m)] w fun e w' => e = .returned (.agg (numA ((n + m) % 57896044618658097711785492504343953926634992332820282019728792003956564819949))) ∧ Below w.heap.size w w' := by
  have hvl : (n + m) % 57896044618658097711785492504343953926634992332820282019728792003956564819949 < 115792089237316195423570985008687907853269984665640564039457584007913129639936 := Nat.lt_trans (Nat.mod_lt _ (by omega)) (by omega)
  generalize hv : (n + m) % 57896044618658097711785492504343953926634992332820282019728792003956564819949 = v at hvl ⊢
  replace hv := hv.symm
  have QB : Hid (Below w.heap.size w (((w.alloc (.cells (numA n) 30)).alloc (.cells (numA m) 30)).alloc (.cells #[.int .u8 0, .int .u8 0, .int .u8 0, .int .u8 0, .int .u8 0, .int .u8 0, .int .u8 0, .int .u8 0, .int .u8 0, .int .u8 0, .int .u8 0, .int .u8 0, .int .u8 0, .int .u8 0, .int .u8 0, .int .u8 0, .int .u8 0, .int .u8 0, .int .u8 0, .int .u8 0, .int .u8 0, .int .u8 0, .int .u8 0, .int .u8 0, .int .u8 0, .int .u8 0, .int .u8 0, .int .u8 0, .int .u8 0, .int .u8 0, .int .u8 0, .int .u8 0] 30))) := by show Below _ _ _; (repeat (first | with_reducible exact Below.refl _ _ | with_reducible assumption | with_reducible refine Below.drew ?_ | (with_reducible refine Below.alloc ?_ ?hB _; (case hB => first | omega | (simp <;> omega))) | (with_reducible refine Below.setCell ?_ ?hB _; (case hB => first | omega | (simp <;> omega)))))
  have C0 : ∀ k w', Below (((w.alloc (.cells (numA n) 30)).alloc (.cells (numA m) 30)).alloc (.cells #[.int .u8 0, .int .u8 0, .int .u8 0, .int .u8 0, .int .u8 0, .int .u8 0, .int .u8 0, .int .u8 0, .int .u8 0, .int .u8 0, .int .u8 0, .int .u8 0, .int .u8 0, .int .u8 0, .int .u8 0, .int .u8 0, .int .u8 0, .int .u8 0, .int .u8 0, .int .u8 0, .int .u8 0, .int .u8 0, .int .u8 0, .int .u8 0, .int .u8 0, .int .u8 0, .int .u8 0, .int .u8 0, .int .u8 0, .int .u8 0, .int .u8 0, .int .u8 0] 30)).heap.size (((w.alloc (.cells (numA n) 30)).alloc (.cells (numA m) 30)).alloc (.cells #[.int .u8 0, .int .u8 0, .int .u8 0, .int .u8 0, .int .u8 0, .int .u8 0, .int .u8 0, .int .u8 0, .int .u8 0, .int .u8 0, .int .u8 0, .int .u8 0, .int .u8 0, .int .u8 0, .int .u8 0, .int .u8 0, .int .u8 0, .int .u8 0, .int .u8 0, .int .u8 0, .int .u8 0, .int .u8 0, .int .u8 0, .int .u8 0, .int .u8 0, .int .u8 0, .int .u8 0, .int .u8 0, .int .u8 0, .int .u8 0, .int .u8 0, .int .u8 0] 30)) w' → Calls Tryz.prog 77 [.agg (numA k)].toArray w' fun e w2 => e = .returned (L k) ∧ Below (((w.alloc (.cells (numA n) 30)).alloc (.cells (numA m) 30)).alloc (.cells #[.int .u8 0, .int .u8 0, .int .u8 0, .int .u8 0, .int .u8 0, .int .u8 0, .int .u8 0, .int .u8 0, .int .u8 0, .int .u8 0, .int .u8 0, .int .u8 0, .int .u8 0, .int .u8 0, .int .u8 0, .int .u8 0, .int .u8 0, .int .u8 0, .int .u8 0, .int .u8 0, .int .u8 0, .int .u8 0, .int .u8 0, .int .u8 0, .int .u8 0, .int .u8 0, .int .u8 0, .int .u8 0, .int .u8 0, .int .u8 0, .int .u8 0, .int .u8 0] 30)).heap.size (((w.alloc (.cells (numA n) 30)).alloc (.cells (numA m) 30)).alloc (.cells #[.int .u8 0, .int .u8 0, .int .u8 0, .int .u8 0, .int .u8 0, .int .u8 0, .int .u8 0, .int .u8 0, .int .u8 0, .int .u8 0, .int .u8 0, .int .u8 0, .int .u8 0, .int .u8 0, .int .u8 0, .int .u8 0, .int .u8 0, .int .u8 0, .int .u8 0, .int .u8 0, .int .u8 0, .int .u8 0, .int .u8 0, .int .u8 0, .int .u8 0, .int .u8 0, .int .u8 0, .int .u8 0, .int .u8 0, .int .u8 0, .int .u8 0, .int .u8 0] 30)) w2 := fun k w' hb => (load_at _ k w' rfl).mono fun e w2 hh => ⟨hh.1, hb.trans (hh.2.mono hb.size)⟩
  have C2 : ∀ w', Below (((w.alloc (.cells (numA n) 30)).alloc (.cells (numA m) 30)).alloc (.cells #[.int .u8 0, .int .u8 0, .int .u8 0, .int .u8 0, .int .u8 0, .int .u8 0, .int .u8 0, .int .u8 0, .int .u8 0, .int .u8 0, .int .u8 0, .int .u8 0, .int .u8 0, .int .u8 0, .int .u8 0, .int .u8 0, .int .u8 0, .int .u8 0, .int .u8 0, .int .u8 0, .int .u8 0, .int .u8 0, .int .u8 0, .int .u8 0, .int .u8 0, .int .u8 0, .int .u8 0, .int .u8 0, .int .u8 0, .int .u8 0, .int .u8 0, .int .u8 0] 30)).heap.size (((w.alloc (.cells (numA n) 30)).alloc (.cells (numA m) 30)).alloc (.cells #[.int .u8 0, .int .u8 0, .int .u8 0, .int .u8 0, .int .u8 0, .int .u8 0, .int .u8 0, .int .u8 0, .int .u8 0, .int .u8 0, .int .u8 0, .int .u8 0, .int .u8 0, .int .u8 0, .int .u8 0, .int .u8 0, .int .u8 0, .int .u8 0, .int .u8 0, .int .u8 0, .int .u8 0, .int .u8 0, .int .u8 0, .int .u8 0, .int .u8 0, .int .u8 0, .int .u8 0, .int .u8 0, .int .u8 0, .int .u8 0, .int .u8 0, .int .u8 0] 30)) w' → Calls Tryz.prog 112 [L n, L m].toArray w' fun e w2 => e = .returned (L v) ∧ Below (((w.alloc (.cells (numA n) 30)).alloc (.cells (numA m) 30)).alloc (.cells #[.int .u8 0, .int .u8 0, .int .u8 0, .int .u8 0, .int .u8 0, .int .u8 0, .int .u8 0, .int .u8 0, .int .u8 0, .int .u8 0, .int .u8 0, .int .u8 0, .int .u8 0, .int .u8 0, .int .u8 0, .int .u8 0, .int .u8 0, .int .u8 0, .int .u8 0, .int .u8 0, .int .u8 0, .int .u8 0, .int .u8 0, .int .u8 0, .int .u8 0, .int .u8 0, .int .u8 0, .int .u8 0, .int .u8 0, .int .u8 0, .int .u8 0, .int .u8 0] 30)).heap.size (((w.alloc (.cells (numA n) 30)).alloc (.cells (numA m) 30)).alloc (.cells #[.int .u8 0, .int .u8 0, .int .u8 0, .int .u8 0, .int .u8 0, .int .u8 0, .int .u8 0, .int .u8 0, .int .u8 0, .int .u8 0, .int .u8 0, .int .u8 0, .int .u8 0, .int .u8 0, .int .u8 0, .int .u8 0, .int .u8 0, .int .u8 0, .int .u8 0, .int .u8 0, .int .u8 0, .int .u8 0, .int .u8 0, .int .u8 0, .int .u8 0, .int .u8 0, .int .u8 0, .int .u8 0, .int .u8 0, .int .u8 0, .int .u8 0, .int .u8 0] 30)) w2 := fun w' hb => by
    rw [hv]
    exact (sum_det n m w' hn hm).mono fun e w2 hh => ⟨hh.1, hb.trans (hh.2.mono hb.size)⟩
  have C3 : ∀ w', Below (((w.alloc (.cells (numA n) 30)).alloc (.cells (numA m) 30)).alloc (.cells #[.int .u8 0, .int .u8 0, .int .u8 0, .int .u8 0, .int .u8 0, .int .u8 0, .int .u8 0, .int .u8 0, .int .u8 0, .int .u8 0, .int .u8 0, .int .u8 0, .int .u8 0, .int .u8 0, .int .u8 0, .int .u8 0, .int .u8 0, .int .u8 0, .int .u8 0, .int .u8 0, .int .u8 0, .int .u8 0, .int .u8 0, .int .u8 0, .int .u8 0, .int .u8 0, .int .u8 0, .int .u8 0, .int .u8 0, .int .u8 0, .int .u8 0, .int .u8 0] 30)).heap.size (((w.alloc (.cells (numA n) 30)).alloc (.cells (numA m) 30)).alloc (.cells #[.int .u8 0, .int .u8 0, .int .u8 0, .int .u8 0, .int .u8 0, .int .u8 0, .int .u8 0, .int .u8 0, .int .u8 0, .int .u8 0, .int .u8 0, .int .u8 0, .int .u8 0, .int .u8 0, .int .u8 0, .int .u8 0, .int .u8 0, .int .u8 0, .int .u8 0, .int .u8 0, .int .u8 0, .int .u8 0, .int .u8 0, .int .u8 0, .int .u8 0, .int .u8 0, .int .u8 0, .int .u8 0, .int .u8 0, .int .u8 0, .int .u8 0, .int .u8 0] 30)) w' → Calls Tryz.prog 75 [L v].toArray w' fun e w2 => e = .returned (.agg (numA v)) ∧ Below (((w.alloc (.cells (numA n) 30)).alloc (.cells (numA m) 30)).alloc (.cells #[.int .u8 0, .int .u8 0, .int .u8 0, .int .u8 0, .int .u8 0, .int .u8 0, .int .u8 0, .int .u8 0, .int .u8 0, .int .u8 0, .int .u8 0, .int .u8 0, .int .u8 0, .int .u8 0, .int .u8 0, .int .u8 0, .int .u8 0, .int .u8 0, .int .u8 0, .int .u8 0, .int .u8 0, .int .u8 0, .int .u8 0, .int .u8 0, .int .u8 0, .int .u8 0, .int .u8 0, .int .u8 0, .int .u8 0, .int .u8 0, .int .u8 0, .int .u8 0] 30)).heap.size (((w.alloc (.cells (numA n) 30)).alloc (.cells (numA m) 30)).alloc (.cells #[.int .u8 0, .int .u8 0, .int .u8 0, .int .u8 0, .int .u8 0, .int .u8 0, .int .u8 0, .int .u8 0, .int .u8 0, .int .u8 0, .int .u8 0, .int .u8 0, .int .u8 0, .int .u8 0, .int .u8 0, .int .u8 0, .int .u8 0, .int .u8 0, .int .u8 0, .int .u8 0, .int .u8 0, .int .u8 0, .int .u8 0, .int .u8 0, .int .u8 0, .int .u8 0, .int .u8 0, .int .u8 0, .int .u8 0, .int .u8 0, .int .u8 0, .int .u8 0] 30)) w2 := fun w' hb => (store_det v w' hvl).mono fun e w2 hh => ⟨hh.1, hb.trans (hh.2.mono hb.size)⟩
  clear hn hm hv hvl
  have G0 : Hid ((((w.alloc (.cells (numA n) 30)).alloc (.cells (numA m) 30)).alloc (.cells #[.int .u8 0, .int .u8 0, .int .u8 0, .int .u8 0, .int .u8 0, .int .u8 0, .int .u8 0, .int .u8 0, .int .u8 0, .int .u8 0, .int .u8 0, .int .u8 0, .int .u8 0, .int .u8 0, .int .u8 0, .int .u8 0, .int .u8 0, .int .u8 0, .int .u8 0, .int .u8 0, .int .u8 0, .int .u8 0, .int .u8 0, .int .u8 0, .int .u8 0, .int .u8 0, .int .u8 0, .int .u8 0, .int .u8 0, .int .u8 0, .int .u8 0, .int .u8 0] 30)).heap[w.heap.size]? = some (.cells (numA n) 30 (0, 0))) := by show _ = _; rw [heap_alloc_old _ _ (by first | omega | (simp <;> omega))]; exact heap_alloc2_old _ _ _
  have G1 : Hid ((((w.alloc (.cells (numA n) 30)).alloc (.cells (numA m) 30)).alloc (.cells #[.int .u8 0, .int .u8 0, .int .u8 0, .int .u8 0, .int .u8 0, .int .u8 0, .int .u8 0, .int .u8 0, .int .u8 0, .int .u8 0, .int .u8 0, .int .u8 0, .int .u8 0, .int .u8 0, .int .u8 0, .int .u8 0, .int .u8 0, .int .u8 0, .int .u8 0, .int .u8 0, .int .u8 0, .int .u8 0, .int .u8 0, .int .u8 0, .int .u8 0, .int .u8 0, .int .u8 0, .int .u8 0, .int .u8 0, .int .u8 0, .int .u8 0, .int .u8 0] 30)).heap[w.heap.size + 1]? = some (.cells (numA m) 30 (0, 0))) := by show _ = _; rw [heap_alloc_old _ _ (by first | omega | (simp <;> omega))]; exact heap_alloc2_new _ _ _
  have G2 : Hid ((((w.alloc (.cells (numA n) 30)).alloc (.cells (numA m) 30)).alloc (.cells #[.int .u8 0, .int .u8 0, .int .u8 0, .int .u8 0, .int .u8 0, .int .u8 0, .int .u8 0, .int .u8 0, .int .u8 0, .int .u8 0, .int .u8 0, .int .u8 0, .int .u8 0, .int .u8 0, .int .u8 0, .int .u8 0, .int .u8 0, .int .u8 0, .int .u8 0, .int .u8 0, .int .u8 0, .int .u8 0, .int .u8 0, .int .u8 0, .int .u8 0, .int .u8 0, .int .u8 0, .int .u8 0, .int .u8 0, .int .u8 0, .int .u8 0, .int .u8 0] 30)).heap[w.heap.size + 1 + 1]? = some (.cells #[.int .u8 0, .int .u8 0, .int .u8 0, .int .u8 0, .int .u8 0, .int .u8 0, .int .u8 0, .int .u8 0, .int .u8 0, .int .u8 0, .int .u8 0, .int .u8 0, .int .u8 0, .int .u8 0, .int .u8 0, .int .u8 0, .int .u8 0, .int .u8 0, .int .u8 0, .int .u8 0, .int .u8 0, .int .u8 0, .int .u8 0, .int .u8 0, .int .u8 0, .int .u8 0, .int .u8 0, .int .u8 0, .int .u8 0, .int .u8 0, .int .u8 0, .int .u8 0] 30 (0, 0))) := alloc_top _ _ _ (by simp)
  have LT : Hid (w.heap.size + 1 + 1 < (((w.alloc (.cells (numA n) 30)).alloc (.cells (numA m) 30)).alloc (.cells #[.int .u8 0, .int .u8 0, .int .u8 0, .int .u8 0, .int .u8 0, .int .u8 0, .int .u8 0, .int .u8 0, .int .u8 0, .int .u8 0, .int .u8 0, .int .u8 0, .int .u8 0, .int .u8 0, .int .u8 0, .int .u8 0, .int .u8 0, .int .u8 0, .int .u8 0, .int .u8 0, .int .u8 0, .int .u8 0, .int .u8 0, .int .u8 0, .int .u8 0, .int .u8 0, .int .u8 0, .int .u8 0, .int .u8 0, .int .u8 0, .int .u8 0, .int .u8 0] 30)).heap.size) := by show _ < _; simp
  have D0 := hide C0
  have D2 := hide C2
  have D3 := hide C3
  skip
  clear C0 C2 C3
  go_enter Tryz.func72, Tryz.ntmps72
  go_wp2_with fail
  have C0 := D0.out
  have C2 := D2.out
  have C3 := D3.out
  skip
  refine wp_region_quiet_cut (C := fun w' => Below (((w.alloc (.cells (numA n) 30)).alloc (.cells (numA m) 30)).alloc (.cells #[.int .u8 0, .int .u8 0, .int .u8 0, .int .u8 0, .int .u8 0, .int .u8 0, .int .u8 0, .int .u8 0, .int .u8 0, .int .u8 0, .int .u8 0, .int .u8 0, .int .u8 0, .int .u8 0, .int .u8 0, .int .u8 0, .int .u8 0, .int .u8 0, .int .u8 0, .int .u8 0, .int .u8 0, .int .u8 0, .int .u8 0, .int .u8 0, .int .u8 0, .int .u8 0, .int .u8 0, .int .u8 0, .int .u8 0, .int .u8 0, .int .u8 0, .int .u8 0] 30)).heap.size (((w.alloc (.cells (numA n) 30)).alloc (.cells (numA m) 30)).alloc (.cells #[.int .u8 0, .int .u8 0, .int .u8 0, .int .u8 0, .int .u8 0, .int .u8 0, .int .u8 0, .int .u8 0, .int .u8 0, .int .u8 0, .int .u8 0, .int .u8 0, .int .u8 0, .int .u8 0, .int .u8 0, .int .u8 0, .int .u8 0, .int .u8 0, .int .u8 0, .int .u8 0, .int .u8 0, .int .u8 0, .int .u8 0, .int .u8 0, .int .u8 0, .int .u8 0, .int .u8 0, .int .u8 0, .int .u8 0, .int .u8 0, .int .u8 0, .int .u8 0] 30)) w') 6 (by kernel_rfl) (by kernel_rfl) (by kernel_rfl) (by kernel_rfl) (by kernel_rfl) (by kernel_rfl) ⟨rfl, rfl, rfl, Nat.le_refl _, fun _ _ => rfl⟩ ?_
  dsimp only [List.take_succ_cons, List.take_zero, List.drop_succ_cons, List.drop_zero]
  refine q_load rfl 30 _ w.heap.size 30 (numA n) (0, 0) _ rfl (by kernel_rfl) (fun w' hb => (hb.block _ (by have := LT.out; omega)).trans G0.out) Tryz.underlying30 rfl (by rw [numA_size]; kernel_rfl) ?_
  refine q_call rfl 77 Tryz.f77 _ _ _ [.agg (numA n)] (L n) rfl (by kernel_rfl) Tryz.func77 (by kernel_rfl) rfl (C0 n) ?_
  refine q_load rfl 30 _ (w.heap.size + 1) 30 (numA m) (0, 0) _ rfl (by kernel_rfl) (fun w' hb => (hb.block _ (by have := LT.out; omega)).trans G1.out) Tryz.underlying30 rfl (by rw [numA_size]; kernel_rfl) ?_
  refine q_call rfl 77 Tryz.f77 _ _ _ [.agg (numA m)] (L m) rfl (by kernel_rfl) Tryz.func77 (by kernel_rfl) rfl (C0 m) ?_
  refine q_call rfl 112 Tryz.f112 _ _ _ [L n, L m] (L v) rfl (by kernel_rfl) Tryz.func112 (by kernel_rfl) rfl C2 ?_
  refine q_call rfl 75 Tryz.f75 _ _ _ [L v] (.agg (numA v)) rfl (by kernel_rfl) Tryz.func75 (by kernel_rfl) rfl C3 ?_
  refine wpQuiet_nil ?_
  intro w1 hb1
  simp only [Act.put, List.setIfInBounds_toArray, List.set_cons_succ, List.set_cons_zero]
  have Q1 : Hid (Below w.heap.size w w1) := QB.out.trans (hb1.mono (by have := LT.out; omega))
  have G3 : Hid _ := (hb1.block _ LT.out).trans G2.out
  clear hb1 C0 C2 C3
  refine wpList_store_row rfl 30 _ _ rfl (w.heap.size + 1 + 1) (numA v) (by kernel_rfl) (by kernel_rfl) 30 _ G3.out ?hs ?hs2 (numA_one _) ?_
  case hs => rw [numA_size]; kernel_rfl
  case hs2 => rw [numA_size]; rfl
  go_wp2
  refine bodyPost_ret (v := .agg (numA v)) ?_ rfl ⟨rfl, ?_⟩
  · exact results_cell_row Tryz.results72 _ _ _ 30 (numA v) (0, 0) _ rfl (setRow_heap _ _ _ _ _ _ G3.out) Tryz.underlying30 rfl (by rw [numA_size]; kernel_rfl)
  · exact below_setRow Q1.out (by omega)

end Go.Proofs.YtjkdonjcngmjeaaGreatDoor
/-
  What the calls of package limb answer, on numbers of 32 bytes: products.
-/
namespace Go.Proofs.YtjkdonjcngmjeaaGreatDoor
open Go.RowKit
set_option linter.unusedSimpArgs false
set_option linter.unusedVariables false

set_option maxHeartbeats 1000000 in
theorem Mul_any (n m : Nat) (w : World) (hn : n < 115792089237316195423570985008687907853269984665640564039457584007913129639936) (hm : m < 115792089237316195423570985008687907853269984665640564039457584007913129639936) :
    Calls Tryz.prog 46 #[.agg (numA n), .agg (numA m)] w fun e w' => e = .returned (.agg (numA (n * m % 57896044618658097711785492504343953926634992332820282019728792003956564819949))) ∧ Below w.heap.size w w' := by
  have hvl : n * m % 57896044618658097711785492504343953926634992332820282019728792003956564819949 < 115792089237316195423570985008687907853269984665640564039457584007913129639936 := Nat.lt_trans (Nat.mod_lt _ (by omega)) (by omega)
  generalize hv : n * m % 57896044618658097711785492504343953926634992332820282019728792003956564819949 = v at hvl ⊢
  replace hv := hv.symm
  have QB : Hid (Below w.heap.size w (((w.alloc (.cells (numA n) 30)).alloc (.cells (numA m) 30)).alloc (.cells #[.int .u8 0, .int .u8 0, .int .u8 0, .int .u8 0, .int .u8 0, .int .u8 0, .int .u8 0, .int .u8 0, .int .u8 0, .int .u8 0, .int .u8 0, .int .u8 0, .int .u8 0, .int .u8 0, .int .u8 0, .int .u8 0, .int .u8 0, .int .u8 0, .int .u8 0, .int .u8 0, .int .u8 0, .int .u8 0, .int .u8 0, .int .u8 0, .int .u8 0, .int .u8 0, .int .u8 0, .int .u8 0, .int .u8 0, .int .u8 0, .int .u8 0, .int .u8 0] 30))) := by show Below _ _ _; (repeat (first | with_reducible exact Below.refl _ _ | with_reducible assumption | with_reducible refine Below.drew ?_ | (with_reducible refine Below.alloc ?_ ?hB _; (case hB => first | omega | (simp <;> omega))) | (with_reducible refine Below.setCell ?_ ?hB _; (case hB => first | omega | (simp <;> omega)))))
  have C0 : ∀ k w', Below (((w.alloc (.cells (numA n) 30)).alloc (.cells (numA m) 30)).alloc (.cells #[.int .u8 0, .int .u8 0, .int .u8 0, .int .u8 0, .int .u8 0, .int .u8 0, .int .u8 0, .int .u8 0, .int .u8 0, .int .u8 0, .int .u8 0, .int .u8 0, .int .u8 0, .int .u8 0, .int .u8 0, .int .u8 0, .int .u8 0, .int .u8 0, .int .u8 0, .int .u8 0, .int .u8 0, .int .u8 0, .int .u8 0, .int .u8 0, .int .u8 0, .int .u8 0, .int .u8 0, .int .u8 0, .int .u8 0, .int .u8 0, .int .u8 0, .int .u8 0] 30)).heap.size (((w.alloc (.cells (numA n) 30)).alloc (.cells (numA m) 30)).alloc (.cells #[.int .u8 0, .int .u8 0, .int .u8 0, .int .u8 0, .int .u8 0, .int .u8 0, .int .u8 0, .int .u8 0, .int .u8 0, .int .u8 0, .int .u8 0, .int .u8 0, .int .u8 0, .int .u8 0, .int .u8 0, .int .u8 0, .int .u8 0, .int .u8 0, .int .u8 0, .int .u8 0, .int .u8 0, .int .u8 0, .int .u8 0, .int .u8 0, .int .u8 0, .int .u8 0, .int .u8 0, .int .u8 0, .int .u8 0, .int .u8 0, .int .u8 0, .int .u8 0] 30)) w' → Calls Tryz.prog 77 [.agg (numA k)].toArray w' fun e w2 => e = .returned (L k) ∧ Below (((w.alloc (.cells (numA n) 30)).alloc (.cells (numA m) 30)).alloc (.cells #[.int .u8 0, .int .u8 0, .int .u8 0, .int .u8 0, .int .u8 0, .int .u8 0, .int .u8 0, .int .u8 0, .int .u8 0, .int .u8 0, .int .u8 0, .int .u8 0, .int .u8 0, .int .u8 0, .int .u8 0, .int .u8 0, .int .u8 0, .int .u8 0, .int .u8 0, .int .u8 0, .int .u8 0, .int .u8 0, .int .u8 0, .int .u8 0, .int .u8 0, .int .u8 0, .int .u8 0, .int .u8 0, .int .u8 0, .int .u8 0, .int .u8 0, .int .u8 0] 30)).heap.size (((w.alloc (.cells (numA n) 30)).alloc (.cells (numA m) 30)).alloc (.cells #[.int .u8 0, .int .u8 0, .int .u8 0, .int .u8 0, .int .u8 0, .int .u8 0, .int .u8 0, .int .u8 0, .int .u8 0, .int .u8 0, .int .u8 0, .int .u8 0, .int .u8 0, .int .u8 0, .int .u8 0, .int .u8 0, .int .u8 0, .int .u8 0, .int .u8 0, .int .u8 0, .int .u8 0, .int .u8 0, .int .u8 0, .int .u8 0, .int .u8 0, .int .u8 0, .int .u8 0, .int .u8 0, .int .u8 0, .int .u8 0, .int .u8 0, .int .u8 0] 30)) w2 := fun k w' hb => (load_at _ k w' rfl).mono fun e w2 hh => ⟨hh.1, hb.trans (hh.2.mono hb.size)⟩
  have C2 : ∀ w', Below (((w.alloc (.cells (numA n) 30)).alloc (.cells (numA m) 30)).alloc (.cells #[.int .u8 0, .int .u8 0, .int .u8 0, .int .u8 0, .int .u8 0, .int .u8 0, .int .u8 0, .int .u8 0, .int .u8 0, .int .u8 0, .int .u8 0, .int .u8 0, .int .u8 0, .int .u8 0, .int .u8 0, .int .u8 0, .int .u8 0, .int .u8 0, .int .u8 0, .int .u8 0, .int .u8 0, .int .u8 0, .int .u8 0, .int .u8 0, .int .u8 0, .int .u8 0, .int .u8 0, .int .u8 0, .int .u8 0, .int .u8 0, .int .u8 0, .int .u8 0] 30)).heap.size (((w.alloc (.cells (numA n) 30)).alloc (.cells (numA m) 30)).alloc (.cells #[.int .u8 0, .int .u8 0, .int .u8 0, .int .u8 0, .int .u8 0, .int .u8 0, .int .u8 0, .int .u8 0, .int .u8 0, .int .u8 0, .int .u8 0, .int .u8 0, .int .u8 0, .int .u8 0, .int .u8 0, .int .u8 0, .int .u8 0, .int .u8 0, .int .u8 0, .int .u8 0, .int .u8 0, .int .u8 0, .int .u8 0, .int .u8 0, .int .u8 0, .int .u8 0, .int .u8 0, .int .u8 0, .int .u8 0, .int .u8 0, .int .u8 0, .int .u8 0] 30)) w' → Calls Tryz.prog 76 [L n, L m].toArray w' fun e w2 => e = .returned (L v) ∧ Below (((w.alloc (.cells (numA n) 30)).alloc (.cells (numA m) 30)).alloc (.cells #[.int .u8 0, .int .u8 0, .int .u8 0, .int .u8 0, .int .u8 0, .int .u8 0, .int .u8 0, .int .u8 0, .int .u8 0, .int .u8 0, .int .u8 0, .int .u8 0, .int .u8 0, .int .u8 0, .int .u8 0, .int .u8 0, .int .u8 0, .int .u8 0, .int .u8 0, .int .u8 0, .int .u8 0, .int .u8 0, .int .u8 0, .int .u8 0, .int .u8 0, .int .u8 0, .int .u8 0, .int .u8 0, .int .u8 0, .int .u8 0, .int .u8 0, .int .u8 0] 30)).heap.size (((w.alloc (.cells (numA n) 30)).alloc (.cells (numA m) 30)).alloc (.cells #[.int .u8 0, .int .u8 0, .int .u8 0, .int .u8 0, .int .u8 0, .int .u8 0, .int .u8 0, .int .u8 0, .int .u8 0, .int .u8 0, .int .u8 0, .int .u8 0, .int .u8 0, .int .u8 0, .int .u8 0, .int .u8 0, .int .u8 0, .int .u8 0, .int .u8 0, .int .u8 0, .int .u8 0, .int .u8 0, .int .u8 0, .int .u8 0, .int .u8 0, .int .u8 0, .int .u8 0, .int .u8 0, .int .u8 0, .int .u8 0, .int .u8 0, .int .u8 0] 30)) w2 := fun w' hb => by
    rw [hv]
    exact (product_det n m w' hn hm).mono fun e w2 hh => ⟨hh.1, hb.trans (hh.2.mono hb.size)⟩
  have C3 : ∀ w', Below (((w.alloc (.cells (numA n) 30)).alloc (.cells (numA m) 30)).alloc (.cells #[.int .u8 0, .int .u8 0, .int .u8 0, .int .u8 0, .int .u8 0, .int .u8 0, .int .u8 0, .int .u8 0, .int .u8 0, .int .u8 0, .int .u8 0, .int .u8 0, .int .u8 0, .int .u8 0, .int .u8 0, .int .u8 0, .int .u8 0, .int .u8 0, .int .u8 0, .int .u8 0, .int .u8 0, .int .u8 0, .int .u8 0, .int .u8 0, .int .u8 0, .int .u8 0, .int .u8 0, .int .u8 0, .int .u8 0, .int .u8 0, .int .u8 0, .int .u8 0] 30)).heap.size (((w.alloc (.cells (numA n) 30)).alloc (.cells (numA m) 30)).alloc (.cells #[.int .u8 0, .int .u8 0, .int .u8 0, .int .u8 0, .int .u8 0, .int .u8 0, .int .u8 0, .int .u8 0, .int .u8 0, .int .u8 0, .int .u8 0, .int .u8 0, .int .u8 0, .int .u8 0, .int .u8 0, .int .u8 0, .int .u8 0, .int .u8 0, .int .u8 0, .int .u8 0, .int .u8 0, .int .u8 0, .int .u8 0, .int .u8 0, .int .u8 0, .int .u8 0, .int .u8 0, .int .u8 0, .int .u8 0, .int .u8 0, .int .u8 0, .int .u8 0] 30)) w' → Calls Tryz.prog 75 [L v].toArray w' fun e w2 => e = .returned (.agg (numA v)) ∧ Below (((w.alloc (.cells (numA n) 30)).alloc (.cells (numA m) 30)).alloc (.cells #[.int .u8 0, .int .u8 0, .int .u8 0, .int .u8 0, .int .u8 0, .int .u8 0, .int .u8 0, .int .u8 0, .int .u8 0, .int .u8 0, .int .u8 0, .int .u8 0, .int .u8 0, .int .u8 0, .int .u8 0, .int .u8 0, .int .u8 0, .int .u8 0, .int .u8 0, .int .u8 0, .int .u8 0, .int .u8 0, .int .u8 0, .int .u8 0, .int .u8 0, .int .u8 0, .int .u8 0, .int .u8 0, .int .u8 0, .int .u8 0, .int .u8 0, .int .u8 0] 30)).heap.size (((w.alloc (.cells (numA n) 30)).alloc (.cells (numA m) 30)).alloc (.cells #[.int .u8 0, .int .u8 0, .int .u8 0, .int .u8 0, .int .u8 0, .int .u8 0, .int .u8 0, .int .u8 0, .int .u8 0, .int .u8 0, .int .u8 0, .int .u8 0, .int .u8 0, .int .u8 0, .int .u8 0, .int .u8 0, .int .u8 0, .int .u8 0, .int .u8 0, .int .u8 0, .int .u8 0, .int .u8 0, .int .u8 0, .int .u8 0, .int .u8 0, .int .u8 0, .int .u8 0, .int .u8 0, .int .u8 0, .int .u8 0, .int .u8 0, .int .u8 0] 30)) w2 := fun w' hb => (store_det v w' hvl).mono fun e w2 hh => ⟨hh.1, hb.trans (hh.2.mono hb.size)⟩
  clear hn hm hv hvl
  have G0 : Hid ((((w.alloc (.cells (numA n) 30)).alloc (.cells (numA m) 30)).alloc (.cells #[.int .u8 0, .int .u8 0, .int .u8 0, .int .u8 0, .int .u8 0, .int .u8 0, .int .u8 0, .int .u8 0, .int .u8 0, .int .u8 0, .int .u8 0, .int .u8 0, .int .u8 0, .int .u8 0, .int .u8 0, .int .u8 0, .int .u8 0, .int .u8 0, .int .u8 0, .int .u8 0, .int .u8 0, .int .u8 0, .int .u8 0, .int .u8 0, .int .u8 0, .int .u8 0, .int .u8 0, .int .u8 0, .int .u8 0, .int .u8 0, .int .u8 0, .int .u8 0] 30)).heap[w.heap.size]? = some (.cells (numA n) 30 (0, 0))) := by show _ = _; rw [heap_alloc_old _ _ (by first | omega | (simp <;> omega))]; exact heap_alloc2_old _ _ _
  have G1 : Hid ((((w.alloc (.cells (numA n) 30)).alloc (.cells (numA m) 30)).alloc (.cells #[.int .u8 0, .int .u8 0, .int .u8 0, .int .u8 0, .int .u8 0, .int .u8 0, .int .u8 0, .int .u8 0, .int .u8 0, .int .u8 0, .int .u8 0, .int .u8 0, .int .u8 0, .int .u8 0, .int .u8 0, .int .u8 0, .int .u8 0, .int .u8 0, .int .u8 0, .int .u8 0, .int .u8 0, .int .u8 0, .int .u8 0, .int .u8 0, .int .u8 0, .int .u8 0, .int .u8 0, .int .u8 0, .int .u8 0, .int .u8 0, .int .u8 0, .int .u8 0] 30)).heap[w.heap.size + 1]? = some (.cells (numA m) 30 (0, 0))) := by show _ = _; rw [heap_alloc_old _ _ (by first | omega | (simp <;> omega))]; exact heap_alloc2_new _ _ _
  have G2 : Hid ((((w.alloc (.cells (numA n) 30)).alloc (.cells (numA m) 30)).alloc (.cells #[.int .u8 0, .int .u8 0, .int .u8 0, .int .u8 0, .int .u8 0, .int .u8 0, .int .u8 0, .int .u8 0, .int .u8 0, .int .u8 0, .int .u8 0, .int .u8 0, .int .u8 0, .int .u8 0, .int .u8 0, .int .u8 0, .int .u8 0, .int .u8 0, .int .u8 0, .int .u8 0, .int .u8 0, .int .u8 0, .int .u8 0, .int .u8 0, .int .u8 0, .int .u8 0, .int .u8 0, .int .u8 0, .int .u8 0, .int .u8 0, .int .u8 0, .int .u8 0] 30)).heap[w.heap.size + 1 + 1]? = some (.cells #[.int .u8 0, .int .u8 0, .int .u8 0, .int .u8 0, .int .u8 0, .int .u8 0, .int .u8 0, .int .u8 0, .int .u8 0, .int .u8 0, .int .u8 0, .int .u8 0, .int .u8 0, .int .u8 0, .int .u8 0, .int .u8 0, .int .u8 0, .int .u8 0, .int .u8 0, .int .u8 0, .int .u8 0, .int .u8 0, .int .u8 0, .int .u8 0, .int .u8 0, .int .u8 0, .int .u8 0, .int .u8 0, .int .u8 0, .int .u8 0, .int .u8 0, .int .u8 0] 30 (0, 0))) := alloc_top _ _ _ (by simp)
  have LT : Hid (w.heap.size + 1 + 1 < (((w.alloc (.cells (numA n) 30)).alloc (.cells (numA m) 30)).alloc (.cells #[.int .u8 0, .int .u8 0, .int .u8 0, .int .u8 0, .int .u8 0, .int .u8 0, .int .u8 0, .int .u8 0, .int .u8 0, .int .u8 0, .int .u8 0, .int .u8 0, .int .u8 0, .int .u8 0, .int .u8 0, .int .u8 0, .int .u8 0, .int .u8 0, .int .u8 0, .int .u8 0, .int .u8 0, .int .u8 0, .int .u8 0, .int .u8 0, .int .u8 0, .int .u8 0, .int .u8 0, .int .u8 0, .int .u8 0, .int .u8 0, .int .u8 0, .int .u8 0] 30)).heap.size) := by show _ < _; simp
  have D0 := hide C0
  have D2 := hide C2
  have D3 := hide C3
  skip
  clear C0 C2 C3
  go_enter Tryz.func46, Tryz.ntmps46
  go_wp2_with fail
  have C0 := D0.out
  have C2 := D2.out
  have C3 := D3.out
  skip
  refine wp_region_quiet_cut (C := fun w' => Below (((w.alloc (.cells (numA n) 30)).alloc (.cells (numA m) 30)).alloc (.cells #[.int .u8 0, .int .u8 0, .int .u8 0, .int .u8 0, .int .u8 0, .int .u8 0, .int .u8 0, .int .u8 0, .int .u8 0, .int .u8 0, .int .u8 0, .int .u8 0, .int .u8 0, .int .u8 0, .int .u8 0, .int .u8 0, .int .u8 0, .int .u8 0, .int .u8 0, .int .u8 0, .int .u8 0, .int .u8 0, .int .u8 0, .int .u8 0, .int .u8 0, .int .u8 0, .int .u8 0, .int .u8 0, .int .u8 0, .int .u8 0, .int .u8 0, .int .u8 0] 30)).heap.size (((w.alloc (.cells (numA n) 30)).alloc (.cells (numA m) 30)).alloc (.cells #[.int .u8 0, .int .u8 0, .int .u8 0, .int .u8 0, .int .u8 0, .int .u8 0, .int .u8 0, .int .u8 0, .int .u8 0, .int .u8 0, .int .u8 0, .int .u8 0, .int .u8 0, .int .u8 0, .int .u8 0, .int .u8 0, .int .u8 0, .int .u8 0, .int .u8 0, .int .u8 0, .int .u8 0, .int .u8 0, .int .u8 0, .int .u8 0, .int .u8 0, .int .u8 0, .int .u8 0, .int .u8 0, .int .u8 0, .int .u8 0, .int .u8 0, .int .u8 0] 30)) w') 6 (by kernel_rfl) (by kernel_rfl) (by kernel_rfl) (by kernel_rfl) (by kernel_rfl) (by kernel_rfl) ⟨rfl, rfl, rfl, Nat.le_refl _, fun _ _ => rfl⟩ ?_
  dsimp only [List.take_succ_cons, List.take_zero, List.drop_succ_cons, List.drop_zero]
  refine q_load rfl 30 _ w.heap.size 30 (numA n) (0, 0) _ rfl (by kernel_rfl) (fun w' hb => (hb.block _ (by have := LT.out; omega)).trans G0.out) Tryz.underlying30 rfl (by rw [numA_size]; kernel_rfl) ?_
  refine q_call rfl 77 Tryz.f77 _ _ _ [.agg (numA n)] (L n) rfl (by kernel_rfl) Tryz.func77 (by kernel_rfl) rfl (C0 n) ?_
  refine q_load rfl 30 _ (w.heap.size + 1) 30 (numA m) (0, 0) _ rfl (by kernel_rfl) (fun w' hb => (hb.block _ (by have := LT.out; omega)).trans G1.out) Tryz.underlying30 rfl (by rw [numA_size]; kernel_rfl) ?_
  refine q_call rfl 77 Tryz.f77 _ _ _ [.agg (numA m)] (L m) rfl (by kernel_rfl) Tryz.func77 (by kernel_rfl) rfl (C0 m) ?_
  refine q_call rfl 76 Tryz.f76 _ _ _ [L n, L m] (L v) rfl (by kernel_rfl) Tryz.func76 (by kernel_rfl) rfl C2 ?_
  refine q_call rfl 75 Tryz.f75 _ _ _ [L v] (.agg (numA v)) rfl (by kernel_rfl) Tryz.func75 (by kernel_rfl) rfl C3 ?_
  refine wpQuiet_nil ?_
  intro w1 hb1
  simp only [Act.put, List.setIfInBounds_toArray, List.set_cons_succ, List.set_cons_zero]
  have Q1 : Hid (Below w.heap.size w w1) := QB.out.trans (hb1.mono (by have := LT.out; omega))
  have G3 : Hid _ := (hb1.block _ LT.out).trans G2.out
  clear hb1 C0 C2 C3
  refine wpList_store_row rfl 30 _ _ rfl (w.heap.size + 1 + 1) (numA v) (by kernel_rfl) (by kernel_rfl) 30 _ G3.out ?hs ?hs2 (numA_one _) ?_
  case hs => rw [numA_size]; kernel_rfl
  case hs2 => rw [numA_size]; rfl
  go_wp2
  refine bodyPost_ret (v := .agg (numA v)) ?_ rfl ⟨rfl, ?_⟩
  · exact results_cell_row Tryz.results46 _ _ _ 30 (numA v) (0, 0) _ rfl (setRow_heap _ _ _ _ _ _ G3.out) Tryz.underlying30 rfl (by rw [numA_size]; kernel_rfl)
  · exact below_setRow Q1.out (by omega)

end Go.Proofs.YtjkdonjcngmjeaaGreatDoor
