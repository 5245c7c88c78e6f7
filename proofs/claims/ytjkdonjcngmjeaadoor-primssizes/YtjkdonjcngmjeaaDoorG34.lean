/-
  General pieces, joined: NC.
-/
import Derived.Test.YtjkdonjcngmjeaaDoorG33
import Derived.Test.YtjkdonjcngmjeaaDoorG05
/-
  Differences and inverses, whatever the program's variable that should hold p holds.
-/
namespace Go.Proofs.YtjkdonjcngmjeaaDoor
open Go Go.RowKit
set_option linter.unusedSimpArgs false
set_option linter.unusedVariables false

/-- What goes with a number to the variable's value, round 2 to the power of 256. -/
def negN (a0 a1 a2 a3 N : Nat) : Nat := (v4 a0 a1 a2 a3 + 115792089237316195423570985008687907853269984665640564039457584007913129639936 - N % 57896044618658097711785492504343953926634992332820282019728792003956564819949) % 115792089237316195423570985008687907853269984665640564039457584007913129639936
theorem negN_lt (a0 a1 a2 a3 N : Nat) : negN a0 a1 a2 a3 N < 115792089237316195423570985008687907853269984665640564039457584007913129639936 := Nat.mod_lt _ (by decide)
theorem negativeP_det (a0 a1 a2 a3 N : Nat) (w : World) (hN : N < 115792089237316195423570985008687907853269984665640564039457584007913129639936) (hp : PrimeP a0 a1 a2 a3 w) : Calls Tryd.prog 98 #[L N] w fun e w' => e = .returned (L (negN a0 a1 a2 a3 N)) ∧ Below w.heap.size w w' := by
  refine (negativeP_any a0 a1 a2 a3 _ _ _ _ w (lt4_of N) hp).mono ?_
  rintro e w' ⟨z0, z1, z2, z3, rfl, hb, H⟩
  refine ⟨congrArg Ending.returned ((L4_eq z0 z1 z2 z3 H.out.1).trans ?_), hb⟩
  have h := H.out.2
  rw [v4_of N hN] at h
  exact congrArg L h

set_option maxHeartbeats 1000000 in
theorem SubP_any (a0 a1 a2 a3 : Nat) (n m : Nat) (w : World) (hn : n < 115792089237316195423570985008687907853269984665640564039457584007913129639936) (hm : m < 115792089237316195423570985008687907853269984665640564039457584007913129639936) (hp : PrimeP a0 a1 a2 a3 w) :
    Calls Tryd.prog 90 #[.agg (numA n), .agg (numA m)] w fun e w' => e = .returned (.agg (numA ((n + (negN a0 a1 a2 a3 m)) % 57896044618658097711785492504343953926634992332820282019728792003956564819949))) ∧ Below w.heap.size w w' := by
  have hvl : (n + (negN a0 a1 a2 a3 m)) % 57896044618658097711785492504343953926634992332820282019728792003956564819949 < 115792089237316195423570985008687907853269984665640564039457584007913129639936 := Nat.lt_trans (Nat.mod_lt _ (by omega)) (by omega)
  generalize hv : (n + (negN a0 a1 a2 a3 m)) % 57896044618658097711785492504343953926634992332820282019728792003956564819949 = v at hvl ⊢
  replace hv := hv.symm
  have QB : Hid (Below w.heap.size w (((w.alloc (.cells (numA n) 22)).alloc (.cells (numA m) 22)).alloc (.cells #[.int .u8 0, .int .u8 0, .int .u8 0, .int .u8 0, .int .u8 0, .int .u8 0, .int .u8 0, .int .u8 0, .int .u8 0, .int .u8 0, .int .u8 0, .int .u8 0, .int .u8 0, .int .u8 0, .int .u8 0, .int .u8 0, .int .u8 0, .int .u8 0, .int .u8 0, .int .u8 0, .int .u8 0, .int .u8 0, .int .u8 0, .int .u8 0, .int .u8 0, .int .u8 0, .int .u8 0, .int .u8 0, .int .u8 0, .int .u8 0, .int .u8 0, .int .u8 0] 22))) := by show Below _ _ _; (repeat (first | with_reducible exact Below.refl _ _ | with_reducible assumption | with_reducible refine Below.drew ?_ | (with_reducible refine Below.alloc ?_ ?hB _; (case hB => first | omega | (simp <;> omega))) | (with_reducible refine Below.setCell ?_ ?hB _; (case hB => first | omega | (simp <;> omega)))))
  have C0 : ∀ k w', Below (((w.alloc (.cells (numA n) 22)).alloc (.cells (numA m) 22)).alloc (.cells #[.int .u8 0, .int .u8 0, .int .u8 0, .int .u8 0, .int .u8 0, .int .u8 0, .int .u8 0, .int .u8 0, .int .u8 0, .int .u8 0, .int .u8 0, .int .u8 0, .int .u8 0, .int .u8 0, .int .u8 0, .int .u8 0, .int .u8 0, .int .u8 0, .int .u8 0, .int .u8 0, .int .u8 0, .int .u8 0, .int .u8 0, .int .u8 0, .int .u8 0, .int .u8 0, .int .u8 0, .int .u8 0, .int .u8 0, .int .u8 0, .int .u8 0, .int .u8 0] 22)).heap.size (((w.alloc (.cells (numA n) 22)).alloc (.cells (numA m) 22)).alloc (.cells #[.int .u8 0, .int .u8 0, .int .u8 0, .int .u8 0, .int .u8 0, .int .u8 0, .int .u8 0, .int .u8 0, .int .u8 0, .int .u8 0, .int .u8 0, .int .u8 0, .int .u8 0, .int .u8 0, .int .u8 0, .int .u8 0, .int .u8 0, .int .u8 0, .int .u8 0, .int .u8 0, .int .u8 0, .int .u8 0, .int .u8 0, .int .u8 0, .int .u8 0, .int .u8 0, .int .u8 0, .int .u8 0, .int .u8 0, .int .u8 0, .int .u8 0, .int .u8 0] 22)) w' → Calls Tryd.prog 94 [.agg (numA k)].toArray w' fun e w2 => e = .returned (L k) ∧ Below (((w.alloc (.cells (numA n) 22)).alloc (.cells (numA m) 22)).alloc (.cells #[.int .u8 0, .int .u8 0, .int .u8 0, .int .u8 0, .int .u8 0, .int .u8 0, .int .u8 0, .int .u8 0, .int .u8 0, .int .u8 0, .int .u8 0, .int .u8 0, .int .u8 0, .int .u8 0, .int .u8 0, .int .u8 0, .int .u8 0, .int .u8 0, .int .u8 0, .int .u8 0, .int .u8 0, .int .u8 0, .int .u8 0, .int .u8 0, .int .u8 0, .int .u8 0, .int .u8 0, .int .u8 0, .int .u8 0, .int .u8 0, .int .u8 0, .int .u8 0] 22)).heap.size (((w.alloc (.cells (numA n) 22)).alloc (.cells (numA m) 22)).alloc (.cells #[.int .u8 0, .int .u8 0, .int .u8 0, .int .u8 0, .int .u8 0, .int .u8 0, .int .u8 0, .int .u8 0, .int .u8 0, .int .u8 0, .int .u8 0, .int .u8 0, .int .u8 0, .int .u8 0, .int .u8 0, .int .u8 0, .int .u8 0, .int .u8 0, .int .u8 0, .int .u8 0, .int .u8 0, .int .u8 0, .int .u8 0, .int .u8 0, .int .u8 0, .int .u8 0, .int .u8 0, .int .u8 0, .int .u8 0, .int .u8 0, .int .u8 0, .int .u8 0] 22)) w2 := fun k w' hb => (load_at _ k w' rfl).mono fun e w2 hh => ⟨hh.1, hb.trans (hh.2.mono hb.size)⟩
  obtain ⟨q, hq⟩ : ∃ q, q = negN a0 a1 a2 a3 m := ⟨_, rfl⟩
  have hqv : (n + (negN a0 a1 a2 a3 m)) % 57896044618658097711785492504343953926634992332820282019728792003956564819949 = v := hv.symm
  have C1 : ∀ w', Below (((w.alloc (.cells (numA n) 22)).alloc (.cells (numA m) 22)).alloc (.cells #[.int .u8 0, .int .u8 0, .int .u8 0, .int .u8 0, .int .u8 0, .int .u8 0, .int .u8 0, .int .u8 0, .int .u8 0, .int .u8 0, .int .u8 0, .int .u8 0, .int .u8 0, .int .u8 0, .int .u8 0, .int .u8 0, .int .u8 0, .int .u8 0, .int .u8 0, .int .u8 0, .int .u8 0, .int .u8 0, .int .u8 0, .int .u8 0, .int .u8 0, .int .u8 0, .int .u8 0, .int .u8 0, .int .u8 0, .int .u8 0, .int .u8 0, .int .u8 0] 22)).heap.size (((w.alloc (.cells (numA n) 22)).alloc (.cells (numA m) 22)).alloc (.cells #[.int .u8 0, .int .u8 0, .int .u8 0, .int .u8 0, .int .u8 0, .int .u8 0, .int .u8 0, .int .u8 0, .int .u8 0, .int .u8 0, .int .u8 0, .int .u8 0, .int .u8 0, .int .u8 0, .int .u8 0, .int .u8 0, .int .u8 0, .int .u8 0, .int .u8 0, .int .u8 0, .int .u8 0, .int .u8 0, .int .u8 0, .int .u8 0, .int .u8 0, .int .u8 0, .int .u8 0, .int .u8 0, .int .u8 0, .int .u8 0, .int .u8 0, .int .u8 0] 22)) w' → Calls Tryd.prog 98 [L m].toArray w' fun e w2 => e = .returned (L q) ∧ Below (((w.alloc (.cells (numA n) 22)).alloc (.cells (numA m) 22)).alloc (.cells #[.int .u8 0, .int .u8 0, .int .u8 0, .int .u8 0, .int .u8 0, .int .u8 0, .int .u8 0, .int .u8 0, .int .u8 0, .int .u8 0, .int .u8 0, .int .u8 0, .int .u8 0, .int .u8 0, .int .u8 0, .int .u8 0, .int .u8 0, .int .u8 0, .int .u8 0, .int .u8 0, .int .u8 0, .int .u8 0, .int .u8 0, .int .u8 0, .int .u8 0, .int .u8 0, .int .u8 0, .int .u8 0, .int .u8 0, .int .u8 0, .int .u8 0, .int .u8 0] 22)).heap.size (((w.alloc (.cells (numA n) 22)).alloc (.cells (numA m) 22)).alloc (.cells #[.int .u8 0, .int .u8 0, .int .u8 0, .int .u8 0, .int .u8 0, .int .u8 0, .int .u8 0, .int .u8 0, .int .u8 0, .int .u8 0, .int .u8 0, .int .u8 0, .int .u8 0, .int .u8 0, .int .u8 0, .int .u8 0, .int .u8 0, .int .u8 0, .int .u8 0, .int .u8 0, .int .u8 0, .int .u8 0, .int .u8 0, .int .u8 0, .int .u8 0, .int .u8 0, .int .u8 0, .int .u8 0, .int .u8 0, .int .u8 0, .int .u8 0, .int .u8 0] 22)) w2 := fun w' hb => by
    rw [hq]
    exact (negativeP_det a0 a1 a2 a3 m w' hm (PrimeP.below (PrimeP.below hp QB.out) hb)).mono fun e w2 hh => ⟨hh.1, hb.trans (hh.2.mono hb.size)⟩
  have C2 : ∀ w', Below (((w.alloc (.cells (numA n) 22)).alloc (.cells (numA m) 22)).alloc (.cells #[.int .u8 0, .int .u8 0, .int .u8 0, .int .u8 0, .int .u8 0, .int .u8 0, .int .u8 0, .int .u8 0, .int .u8 0, .int .u8 0, .int .u8 0, .int .u8 0, .int .u8 0, .int .u8 0, .int .u8 0, .int .u8 0, .int .u8 0, .int .u8 0, .int .u8 0, .int .u8 0, .int .u8 0, .int .u8 0, .int .u8 0, .int .u8 0, .int .u8 0, .int .u8 0, .int .u8 0, .int .u8 0, .int .u8 0, .int .u8 0, .int .u8 0, .int .u8 0] 22)).heap.size (((w.alloc (.cells (numA n) 22)).alloc (.cells (numA m) 22)).alloc (.cells #[.int .u8 0, .int .u8 0, .int .u8 0, .int .u8 0, .int .u8 0, .int .u8 0, .int .u8 0, .int .u8 0, .int .u8 0, .int .u8 0, .int .u8 0, .int .u8 0, .int .u8 0, .int .u8 0, .int .u8 0, .int .u8 0, .int .u8 0, .int .u8 0, .int .u8 0, .int .u8 0, .int .u8 0, .int .u8 0, .int .u8 0, .int .u8 0, .int .u8 0, .int .u8 0, .int .u8 0, .int .u8 0, .int .u8 0, .int .u8 0, .int .u8 0, .int .u8 0] 22)) w' → Calls Tryd.prog 97 [L n, L q].toArray w' fun e w2 => e = .returned (L v) ∧ Below (((w.alloc (.cells (numA n) 22)).alloc (.cells (numA m) 22)).alloc (.cells #[.int .u8 0, .int .u8 0, .int .u8 0, .int .u8 0, .int .u8 0, .int .u8 0, .int .u8 0, .int .u8 0, .int .u8 0, .int .u8 0, .int .u8 0, .int .u8 0, .int .u8 0, .int .u8 0, .int .u8 0, .int .u8 0, .int .u8 0, .int .u8 0, .int .u8 0, .int .u8 0, .int .u8 0, .int .u8 0, .int .u8 0, .int .u8 0, .int .u8 0, .int .u8 0, .int .u8 0, .int .u8 0, .int .u8 0, .int .u8 0, .int .u8 0, .int .u8 0] 22)).heap.size (((w.alloc (.cells (numA n) 22)).alloc (.cells (numA m) 22)).alloc (.cells #[.int .u8 0, .int .u8 0, .int .u8 0, .int .u8 0, .int .u8 0, .int .u8 0, .int .u8 0, .int .u8 0, .int .u8 0, .int .u8 0, .int .u8 0, .int .u8 0, .int .u8 0, .int .u8 0, .int .u8 0, .int .u8 0, .int .u8 0, .int .u8 0, .int .u8 0, .int .u8 0, .int .u8 0, .int .u8 0, .int .u8 0, .int .u8 0, .int .u8 0, .int .u8 0, .int .u8 0, .int .u8 0, .int .u8 0, .int .u8 0, .int .u8 0, .int .u8 0] 22)) w2 := fun w' hb => by
    rw [← hqv, ← hq]
    exact (sum_det n q w' hn (by rw [hq]; exact negN_lt _ _ _ _ _)).mono fun e w2 hh => ⟨hh.1, hb.trans (hh.2.mono hb.size)⟩
  clear hq hqv
  have C3 : ∀ w', Below (((w.alloc (.cells (numA n) 22)).alloc (.cells (numA m) 22)).alloc (.cells #[.int .u8 0, .int .u8 0, .int .u8 0, .int .u8 0, .int .u8 0, .int .u8 0, .int .u8 0, .int .u8 0, .int .u8 0, .int .u8 0, .int .u8 0, .int .u8 0, .int .u8 0, .int .u8 0, .int .u8 0, .int .u8 0, .int .u8 0, .int .u8 0, .int .u8 0, .int .u8 0, .int .u8 0, .int .u8 0, .int .u8 0, .int .u8 0, .int .u8 0, .int .u8 0, .int .u8 0, .int .u8 0, .int .u8 0, .int .u8 0, .int .u8 0, .int .u8 0] 22)).heap.size (((w.alloc (.cells (numA n) 22)).alloc (.cells (numA m) 22)).alloc (.cells #[.int .u8 0, .int .u8 0, .int .u8 0, .int .u8 0, .int .u8 0, .int .u8 0, .int .u8 0, .int .u8 0, .int .u8 0, .int .u8 0, .int .u8 0, .int .u8 0, .int .u8 0, .int .u8 0, .int .u8 0, .int .u8 0, .int .u8 0, .int .u8 0, .int .u8 0, .int .u8 0, .int .u8 0, .int .u8 0, .int .u8 0, .int .u8 0, .int .u8 0, .int .u8 0, .int .u8 0, .int .u8 0, .int .u8 0, .int .u8 0, .int .u8 0, .int .u8 0] 22)) w' → Calls Tryd.prog 92 [L v].toArray w' fun e w2 => e = .returned (.agg (numA v)) ∧ Below (((w.alloc (.cells (numA n) 22)).alloc (.cells (numA m) 22)).alloc (.cells #[.int .u8 0, .int .u8 0, .int .u8 0, .int .u8 0, .int .u8 0, .int .u8 0, .int .u8 0, .int .u8 0, .int .u8 0, .int .u8 0, .int .u8 0, .int .u8 0, .int .u8 0, .int .u8 0, .int .u8 0, .int .u8 0, .int .u8 0, .int .u8 0, .int .u8 0, .int .u8 0, .int .u8 0, .int .u8 0, .int .u8 0, .int .u8 0, .int .u8 0, .int .u8 0, .int .u8 0, .int .u8 0, .int .u8 0, .int .u8 0, .int .u8 0, .int .u8 0] 22)).heap.size (((w.alloc (.cells (numA n) 22)).alloc (.cells (numA m) 22)).alloc (.cells #[.int .u8 0, .int .u8 0, .int .u8 0, .int .u8 0, .int .u8 0, .int .u8 0, .int .u8 0, .int .u8 0, .int .u8 0, .int .u8 0, .int .u8 0, .int .u8 0, .int .u8 0, .int .u8 0, .int .u8 0, .int .u8 0, .int .u8 0, .int .u8 0, .int .u8 0, .int .u8 0, .int .u8 0, .int .u8 0, .int .u8 0, .int .u8 0, .int .u8 0, .int .u8 0, .int .u8 0, .int .u8 0, .int .u8 0, .int .u8 0, .int .u8 0, .int .u8 0] 22)) w2 := fun w' hb => (store_det v w' hvl).mono fun e w2 hh => ⟨hh.1, hb.trans (hh.2.mono hb.size)⟩
  clear hn hm hv hvl hp
  have G0 : Hid ((((w.alloc (.cells (numA n) 22)).alloc (.cells (numA m) 22)).alloc (.cells #[.int .u8 0, .int .u8 0, .int .u8 0, .int .u8 0, .int .u8 0, .int .u8 0, .int .u8 0, .int .u8 0, .int .u8 0, .int .u8 0, .int .u8 0, .int .u8 0, .int .u8 0, .int .u8 0, .int .u8 0, .int .u8 0, .int .u8 0, .int .u8 0, .int .u8 0, .int .u8 0, .int .u8 0, .int .u8 0, .int .u8 0, .int .u8 0, .int .u8 0, .int .u8 0, .int .u8 0, .int .u8 0, .int .u8 0, .int .u8 0, .int .u8 0, .int .u8 0] 22)).heap[w.heap.size]? = some (.cells (numA n) 22 (0, 0))) := by show _ = _; rw [heap_alloc_old _ _ (by first | omega | (simp <;> omega))]; exact heap_alloc2_old _ _ _
  have G1 : Hid ((((w.alloc (.cells (numA n) 22)).alloc (.cells (numA m) 22)).alloc (.cells #[.int .u8 0, .int .u8 0, .int .u8 0, .int .u8 0, .int .u8 0, .int .u8 0, .int .u8 0, .int .u8 0, .int .u8 0, .int .u8 0, .int .u8 0, .int .u8 0, .int .u8 0, .int .u8 0, .int .u8 0, .int .u8 0, .int .u8 0, .int .u8 0, .int .u8 0, .int .u8 0, .int .u8 0, .int .u8 0, .int .u8 0, .int .u8 0, .int .u8 0, .int .u8 0, .int .u8 0, .int .u8 0, .int .u8 0, .int .u8 0, .int .u8 0, .int .u8 0] 22)).heap[w.heap.size + 1]? = some (.cells (numA m) 22 (0, 0))) := by show _ = _; rw [heap_alloc_old _ _ (by first | omega | (simp <;> omega))]; exact heap_alloc2_new _ _ _
  have G2 : Hid ((((w.alloc (.cells (numA n) 22)).alloc (.cells (numA m) 22)).alloc (.cells #[.int .u8 0, .int .u8 0, .int .u8 0, .int .u8 0, .int .u8 0, .int .u8 0, .int .u8 0, .int .u8 0, .int .u8 0, .int .u8 0, .int .u8 0, .int .u8 0, .int .u8 0, .int .u8 0, .int .u8 0, .int .u8 0, .int .u8 0, .int .u8 0, .int .u8 0, .int .u8 0, .int .u8 0, .int .u8 0, .int .u8 0, .int .u8 0, .int .u8 0, .int .u8 0, .int .u8 0, .int .u8 0, .int .u8 0, .int .u8 0, .int .u8 0, .int .u8 0] 22)).heap[w.heap.size + 1 + 1]? = some (.cells #[.int .u8 0, .int .u8 0, .int .u8 0, .int .u8 0, .int .u8 0, .int .u8 0, .int .u8 0, .int .u8 0, .int .u8 0, .int .u8 0, .int .u8 0, .int .u8 0, .int .u8 0, .int .u8 0, .int .u8 0, .int .u8 0, .int .u8 0, .int .u8 0, .int .u8 0, .int .u8 0, .int .u8 0, .int .u8 0, .int .u8 0, .int .u8 0, .int .u8 0, .int .u8 0, .int .u8 0, .int .u8 0, .int .u8 0, .int .u8 0, .int .u8 0, .int .u8 0] 22 (0, 0))) := alloc_top _ _ _ (by simp)
  have LT : Hid (w.heap.size + 1 + 1 < (((w.alloc (.cells (numA n) 22)).alloc (.cells (numA m) 22)).alloc (.cells #[.int .u8 0, .int .u8 0, .int .u8 0, .int .u8 0, .int .u8 0, .int .u8 0, .int .u8 0, .int .u8 0, .int .u8 0, .int .u8 0, .int .u8 0, .int .u8 0, .int .u8 0, .int .u8 0, .int .u8 0, .int .u8 0, .int .u8 0, .int .u8 0, .int .u8 0, .int .u8 0, .int .u8 0, .int .u8 0, .int .u8 0, .int .u8 0, .int .u8 0, .int .u8 0, .int .u8 0, .int .u8 0, .int .u8 0, .int .u8 0, .int .u8 0, .int .u8 0] 22)).heap.size) := by show _ < _; simp
  have D0 := hide C0
  have D2 := hide C2
  have D3 := hide C3
  have D1 := hide C1
  clear C0 C2 C3 C1
  go_enter Tryd.func90, Tryd.ntmps90
  go_wp2_with fail
  have C0 := D0.out
  have C2 := D2.out
  have C3 := D3.out
  have C1 := D1.out
  refine wp_region_quiet_cut (C := fun w' => Below (((w.alloc (.cells (numA n) 22)).alloc (.cells (numA m) 22)).alloc (.cells #[.int .u8 0, .int .u8 0, .int .u8 0, .int .u8 0, .int .u8 0, .int .u8 0, .int .u8 0, .int .u8 0, .int .u8 0, .int .u8 0, .int .u8 0, .int .u8 0, .int .u8 0, .int .u8 0, .int .u8 0, .int .u8 0, .int .u8 0, .int .u8 0, .int .u8 0, .int .u8 0, .int .u8 0, .int .u8 0, .int .u8 0, .int .u8 0, .int .u8 0, .int .u8 0, .int .u8 0, .int .u8 0, .int .u8 0, .int .u8 0, .int .u8 0, .int .u8 0] 22)).heap.size (((w.alloc (.cells (numA n) 22)).alloc (.cells (numA m) 22)).alloc (.cells #[.int .u8 0, .int .u8 0, .int .u8 0, .int .u8 0, .int .u8 0, .int .u8 0, .int .u8 0, .int .u8 0, .int .u8 0, .int .u8 0, .int .u8 0, .int .u8 0, .int .u8 0, .int .u8 0, .int .u8 0, .int .u8 0, .int .u8 0, .int .u8 0, .int .u8 0, .int .u8 0, .int .u8 0, .int .u8 0, .int .u8 0, .int .u8 0, .int .u8 0, .int .u8 0, .int .u8 0, .int .u8 0, .int .u8 0, .int .u8 0, .int .u8 0, .int .u8 0] 22)) w') 7 (by kernel_rfl) (by kernel_rfl) (by kernel_rfl) (by kernel_rfl) (by kernel_rfl) (by kernel_rfl) ⟨rfl, rfl, rfl, Nat.le_refl _, fun _ _ => rfl⟩ ?_
  dsimp only [List.take_succ_cons, List.take_zero, List.drop_succ_cons, List.drop_zero]
  refine q_load rfl 22 _ w.heap.size 22 (numA n) (0, 0) _ rfl (by kernel_rfl) (fun w' hb => (hb.block _ (by have := LT.out; omega)).trans G0.out) Tryd.underlying22 rfl (by rw [numA_size]; kernel_rfl) ?_
  refine q_call rfl 94 Tryd.f94 _ _ _ [.agg (numA n)] (L n) rfl (by kernel_rfl) Tryd.func94 (by kernel_rfl) rfl (C0 n) ?_
  refine q_load rfl 22 _ (w.heap.size + 1) 22 (numA m) (0, 0) _ rfl (by kernel_rfl) (fun w' hb => (hb.block _ (by have := LT.out; omega)).trans G1.out) Tryd.underlying22 rfl (by rw [numA_size]; kernel_rfl) ?_
  refine q_call rfl 94 Tryd.f94 _ _ _ [.agg (numA m)] (L m) rfl (by kernel_rfl) Tryd.func94 (by kernel_rfl) rfl (C0 m) ?_
  refine q_call rfl 98 Tryd.f98 _ _ _ [L m] (L q) rfl (by kernel_rfl) Tryd.func98 (by kernel_rfl) rfl C1 ?_
  refine q_call rfl 97 Tryd.f97 _ _ _ [L n, L q] (L v) rfl (by kernel_rfl) Tryd.func97 (by kernel_rfl) rfl C2 ?_
  refine q_call rfl 92 Tryd.f92 _ _ _ [L v] (.agg (numA v)) rfl (by kernel_rfl) Tryd.func92 (by kernel_rfl) rfl C3 ?_
  refine wpQuiet_nil ?_
  intro w1 hb1
  simp only [Act.put, List.setIfInBounds_toArray, List.set_cons_succ, List.set_cons_zero]
  have Q1 : Hid (Below w.heap.size w w1) := QB.out.trans (hb1.mono (by have := LT.out; omega))
  have G3 : Hid _ := (hb1.block _ LT.out).trans G2.out
  clear hb1 C0 C2 C3
  refine wpList_store_row rfl 22 _ _ rfl (w.heap.size + 1 + 1) (numA v) (by kernel_rfl) (by kernel_rfl) 22 _ G3.out ?hs ?hs2 (numA_one _) ?_
  case hs => rw [numA_size]; kernel_rfl
  case hs2 => rw [numA_size]; rfl
  go_wp2
  refine bodyPost_ret (v := .agg (numA v)) ?_ rfl ⟨rfl, ?_⟩
  · exact results_cell_row Tryd.results90 _ _ _ 22 (numA v) (0, 0) _ rfl (setRow_heap _ _ _ _ _ _ G3.out) Tryd.underlying22 rfl (by rw [numA_size]; kernel_rfl)
  · exact below_setRow Q1.out (by omega)


/-- The words of the exponent that inverse takes. -/
def expN (a0 a1 a2 a3 : Nat) : List Nat := [(a0 + 18446744073709551614) % 18446744073709551616, a1, a2, a3]
def invP (a0 a1 a2 a3 N : Nat) : Nat := sh.invG (expN a0 a1 a2 a3) N 255
theorem invP_lt (a0 a1 a2 a3 N : Nat) : invP a0 a1 a2 a3 N < 115792089237316195423570985008687907853269984665640564039457584007913129639936 := sh.invG_lt _ _ _
set_option maxRecDepth 100000 in
theorem InvP_any (a0 a1 a2 a3 n : Nat) (w : World) (hn : n < 115792089237316195423570985008687907853269984665640564039457584007913129639936) (hp : PrimeP a0 a1 a2 a3 w) :
    Calls Tryd.prog 83 #[.agg (numA n)] w fun e w' => e = .returned (.agg (numA (invP a0 a1 a2 a3 n))) ∧ Below w.heap.size w w' := by
  obtain ⟨v, hv⟩ : ∃ v, v = invP a0 a1 a2 a3 n := ⟨_, rfl⟩
  have hvl : v < 115792089237316195423570985008687907853269984665640564039457584007913129639936 := by rw [hv]; exact invP_lt _ _ _ _ _
  obtain ⟨w0, hw0⟩ : ∃ z, z = (w.alloc (.cells (numA n) 22)).alloc (.cells #[.int .u8 0, .int .u8 0, .int .u8 0, .int .u8 0, .int .u8 0, .int .u8 0, .int .u8 0, .int .u8 0, .int .u8 0, .int .u8 0, .int .u8 0, .int .u8 0, .int .u8 0, .int .u8 0, .int .u8 0, .int .u8 0, .int .u8 0, .int .u8 0, .int .u8 0, .int .u8 0, .int .u8 0, .int .u8 0, .int .u8 0, .int .u8 0, .int .u8 0, .int .u8 0, .int .u8 0, .int .u8 0, .int .u8 0, .int .u8 0, .int .u8 0, .int .u8 0] 22) := ⟨_, rfl⟩
  have q0 := (Below.refl w.heap.size w).alloc (Nat.le_refl _) (.cells (numA n) 22)
  have Q0 : Kept (Below w.heap.size w w0) := ⟨by rw [hw0]; exact q0.alloc q0.size _⟩
  have BX : Kept (sh.Blk w0 w.heap.size 22 (numA n)) := ⟨by rw [hw0]; exact (sh.blk_new w _ _).under ((Below.refl _ _).alloc (Nat.le_refl _) _)⟩
  have BR : Kept (sh.Blk w0 (w.heap.size + 1) 22 #[.int .u8 0, .int .u8 0, .int .u8 0, .int .u8 0, .int .u8 0, .int .u8 0, .int .u8 0, .int .u8 0, .int .u8 0, .int .u8 0, .int .u8 0, .int .u8 0, .int .u8 0, .int .u8 0, .int .u8 0, .int .u8 0, .int .u8 0, .int .u8 0, .int .u8 0, .int .u8 0, .int .u8 0, .int .u8 0, .int .u8 0, .int .u8 0, .int .u8 0, .int .u8 0, .int .u8 0, .int .u8 0, .int .u8 0, .int .u8 0, .int .u8 0, .int .u8 0]) := ⟨by
    have := sh.blk_new (w.alloc (.cells (numA n) 22)) 22 #[.int .u8 0, .int .u8 0, .int .u8 0, .int .u8 0, .int .u8 0, .int .u8 0, .int .u8 0, .int .u8 0, .int .u8 0, .int .u8 0, .int .u8 0, .int .u8 0, .int .u8 0, .int .u8 0, .int .u8 0, .int .u8 0, .int .u8 0, .int .u8 0, .int .u8 0, .int .u8 0, .int .u8 0, .int .u8 0, .int .u8 0, .int .u8 0, .int .u8 0, .int .u8 0, .int .u8 0, .int .u8 0, .int .u8 0, .int .u8 0, .int .u8 0, .int .u8 0]
    rw [show (w.alloc (.cells (numA n) 22)).heap.size = w.heap.size + 1 by simp] at this
    rw [hw0]
    exact this⟩
  have Kw0 : Kept _ := ⟨hw0⟩
  have CL : Kept (∀ w, Calls Tryd.prog 94 [.agg (numA n)].toArray w fun e w' => e = .returned (L n) ∧ Below w.heap.size w w') := ⟨fun w => load_at _ n w rfl⟩
  have CI : Kept (∀ w', Below w0.heap.size w0 w' → Calls Tryd.prog 95 [L n].toArray w' fun e w2 => e = .returned (L v) ∧ Below w'.heap.size w' w2) := ⟨fun w' hb => by rw [hv]; exact sh.inverseP a0 a1 a2 a3 n w' hn ((hp.below Q0.out).below hb)⟩
  have CS : Kept (∀ w, Calls Tryd.prog 92 [L v].toArray w fun e w' => e = .returned (.agg (numA v)) ∧ Below w.heap.size w w') := ⟨fun w => store_det v w hvl⟩
  have IN : Kept ((Tryd.prog.info? 22).map (·.size) = some (numA n).size ∧ (Tryd.prog.info? 22).map (·.size) = some (numA v).size) := ⟨by rw [numA_size, numA_size]; exact ⟨sh.t32_info, sh.t32_info⟩⟩
  have SV : Kept ((numA v).size = 32) := ⟨numA_size v⟩
  have OV : Kept ((numA v).all (·.oneCell') = true) := ⟨numA_one v⟩
  generalize L n = Ln at *
  generalize L v = Lv at *
  rw [← hv]
  generalize hnA : numA n = An at *
  generalize hvA : numA v = Av at *
  clear hn hp hv hvl hw0 q0 hnA hvA
  go_enter Tryd.func83, Tryd.ntmps83
  go_wp2_with (first | ((with_reducible refine sh.wv_row (d := 3) ?hd ?hw 22 (.tmp 1) ?ho (w.heap.size) ?hx (t' := 22) (An) _ _ Tryd.underlying22 ?hs ?hg ?_); (case hd => rfl); (case hw => kernel_rfl); (case ho => rfl); (case hx => kernel_rfl); (case hs => exact IN.out.1); (case hg => exact (by rw [← Kw0.out]; exact BX.out)); simp only [Act.put, List.setIfInBounds_toArray, List.set_cons_succ, List.set_cons_zero]))
  rw [← Kw0.out]
  refine (CL.out _).mono ?_
  rintro e w1 ⟨rfl, q1⟩
  go_wp2_with fail
  refine (CI.out _ q1).mono ?_
  rintro e w2 ⟨rfl, q2⟩
  have p2 := q1.trans (q2.mono q1.size)
  go_wp2_with fail
  refine (CS.out _).mono ?_
  rintro e w3 ⟨rfl, q3⟩
  have P3 : Kept _ := ⟨p2.trans (q3.mono p2.size)⟩
  clear q1 q2 p2 q3
  go_wp2_with (first | (refine sh.wl_store rfl 22 (.tmp 2) (.tmp 6) rfl (w.heap.size + 1) Av rfl rfl _ (BR.out.under P3.out) IN.out.2 (by rw [SV.out]; rfl) OV.out ?_; intro w5 hB5 hp5; simp only [Act.put, List.setIfInBounds_toArray, List.set_cons_succ, List.set_cons_zero]))
  refine ⟨rfl, _, results_cell_row Tryd.results83 _ _ _ 22 Av (0, 0) _ rfl hB5 Tryd.underlying22 rfl IN.out.2, rfl, ?_⟩
  exact (Q0.out.trans (P3.out.mono Q0.out.size)).trans (hp5.below (by omega))
end Go.Proofs.YtjkdonjcngmjeaaDoor
