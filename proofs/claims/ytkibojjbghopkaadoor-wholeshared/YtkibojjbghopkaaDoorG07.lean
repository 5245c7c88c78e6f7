/-
  General pieces, joined: W10 W11 W12 W13.
-/
import Derived.Test.YtkibojjbghopkaaDoorG06
import Derived.Test.YtkibojjbghopkaaDoorG05
/-
  What the calls of package limb answer, on numbers of 32 bytes: products.
-/
namespace Go.Proofs.YtkibojjbghopkaaDoor
open Go.RowKit
set_option linter.unusedSimpArgs false
set_option linter.unusedVariables false

set_option maxHeartbeats 1000000 in
theorem Mul_any (n m : Nat) (w : World) (hn : n < 115792089237316195423570985008687907853269984665640564039457584007913129639936) (hm : m < 115792089237316195423570985008687907853269984665640564039457584007913129639936) :
    Calls Tryd.prog 23 #[.agg (numA n), .agg (numA m)] w fun e w' => e = .returned (.agg (numA (n * m % 57896044618658097711785492504343953926634992332820282019728792003956564819949))) ∧ Below w.heap.size w w' := by
  have hvl : n * m % 57896044618658097711785492504343953926634992332820282019728792003956564819949 < 115792089237316195423570985008687907853269984665640564039457584007913129639936 := Nat.lt_trans (Nat.mod_lt _ (by omega)) (by omega)
  generalize hv : n * m % 57896044618658097711785492504343953926634992332820282019728792003956564819949 = v at hvl ⊢
  replace hv := hv.symm
  have QB : Hid (Below w.heap.size w (((w.alloc (.cells (numA n) 22)).alloc (.cells (numA m) 22)).alloc (.cells #[.int .u8 0, .int .u8 0, .int .u8 0, .int .u8 0, .int .u8 0, .int .u8 0, .int .u8 0, .int .u8 0, .int .u8 0, .int .u8 0, .int .u8 0, .int .u8 0, .int .u8 0, .int .u8 0, .int .u8 0, .int .u8 0, .int .u8 0, .int .u8 0, .int .u8 0, .int .u8 0, .int .u8 0, .int .u8 0, .int .u8 0, .int .u8 0, .int .u8 0, .int .u8 0, .int .u8 0, .int .u8 0, .int .u8 0, .int .u8 0, .int .u8 0, .int .u8 0] 22))) := by show Below _ _ _; (repeat (first | with_reducible exact Below.refl _ _ | with_reducible assumption | with_reducible refine Below.drew ?_ | (with_reducible refine Below.alloc ?_ ?hB _; (case hB => first | omega | (simp <;> omega))) | (with_reducible refine Below.setCell ?_ ?hB _; (case hB => first | omega | (simp <;> omega)))))
  have C0 : ∀ k w', Below (((w.alloc (.cells (numA n) 22)).alloc (.cells (numA m) 22)).alloc (.cells #[.int .u8 0, .int .u8 0, .int .u8 0, .int .u8 0, .int .u8 0, .int .u8 0, .int .u8 0, .int .u8 0, .int .u8 0, .int .u8 0, .int .u8 0, .int .u8 0, .int .u8 0, .int .u8 0, .int .u8 0, .int .u8 0, .int .u8 0, .int .u8 0, .int .u8 0, .int .u8 0, .int .u8 0, .int .u8 0, .int .u8 0, .int .u8 0, .int .u8 0, .int .u8 0, .int .u8 0, .int .u8 0, .int .u8 0, .int .u8 0, .int .u8 0, .int .u8 0] 22)).heap.size (((w.alloc (.cells (numA n) 22)).alloc (.cells (numA m) 22)).alloc (.cells #[.int .u8 0, .int .u8 0, .int .u8 0, .int .u8 0, .int .u8 0, .int .u8 0, .int .u8 0, .int .u8 0, .int .u8 0, .int .u8 0, .int .u8 0, .int .u8 0, .int .u8 0, .int .u8 0, .int .u8 0, .int .u8 0, .int .u8 0, .int .u8 0, .int .u8 0, .int .u8 0, .int .u8 0, .int .u8 0, .int .u8 0, .int .u8 0, .int .u8 0, .int .u8 0, .int .u8 0, .int .u8 0, .int .u8 0, .int .u8 0, .int .u8 0, .int .u8 0] 22)) w' → Calls Tryd.prog 43 [.agg (numA k)].toArray w' fun e w2 => e = .returned (L k) ∧ Below (((w.alloc (.cells (numA n) 22)).alloc (.cells (numA m) 22)).alloc (.cells #[.int .u8 0, .int .u8 0, .int .u8 0, .int .u8 0, .int .u8 0, .int .u8 0, .int .u8 0, .int .u8 0, .int .u8 0, .int .u8 0, .int .u8 0, .int .u8 0, .int .u8 0, .int .u8 0, .int .u8 0, .int .u8 0, .int .u8 0, .int .u8 0, .int .u8 0, .int .u8 0, .int .u8 0, .int .u8 0, .int .u8 0, .int .u8 0, .int .u8 0, .int .u8 0, .int .u8 0, .int .u8 0, .int .u8 0, .int .u8 0, .int .u8 0, .int .u8 0] 22)).heap.size (((w.alloc (.cells (numA n) 22)).alloc (.cells (numA m) 22)).alloc (.cells #[.int .u8 0, .int .u8 0, .int .u8 0, .int .u8 0, .int .u8 0, .int .u8 0, .int .u8 0, .int .u8 0, .int .u8 0, .int .u8 0, .int .u8 0, .int .u8 0, .int .u8 0, .int .u8 0, .int .u8 0, .int .u8 0, .int .u8 0, .int .u8 0, .int .u8 0, .int .u8 0, .int .u8 0, .int .u8 0, .int .u8 0, .int .u8 0, .int .u8 0, .int .u8 0, .int .u8 0, .int .u8 0, .int .u8 0, .int .u8 0, .int .u8 0, .int .u8 0] 22)) w2 := fun k w' hb => (load_at _ k w' rfl).mono fun e w2 hh => ⟨hh.1, hb.trans (hh.2.mono hb.size)⟩
  have C2 : ∀ w', Below (((w.alloc (.cells (numA n) 22)).alloc (.cells (numA m) 22)).alloc (.cells #[.int .u8 0, .int .u8 0, .int .u8 0, .int .u8 0, .int .u8 0, .int .u8 0, .int .u8 0, .int .u8 0, .int .u8 0, .int .u8 0, .int .u8 0, .int .u8 0, .int .u8 0, .int .u8 0, .int .u8 0, .int .u8 0, .int .u8 0, .int .u8 0, .int .u8 0, .int .u8 0, .int .u8 0, .int .u8 0, .int .u8 0, .int .u8 0, .int .u8 0, .int .u8 0, .int .u8 0, .int .u8 0, .int .u8 0, .int .u8 0, .int .u8 0, .int .u8 0] 22)).heap.size (((w.alloc (.cells (numA n) 22)).alloc (.cells (numA m) 22)).alloc (.cells #[.int .u8 0, .int .u8 0, .int .u8 0, .int .u8 0, .int .u8 0, .int .u8 0, .int .u8 0, .int .u8 0, .int .u8 0, .int .u8 0, .int .u8 0, .int .u8 0, .int .u8 0, .int .u8 0, .int .u8 0, .int .u8 0, .int .u8 0, .int .u8 0, .int .u8 0, .int .u8 0, .int .u8 0, .int .u8 0, .int .u8 0, .int .u8 0, .int .u8 0, .int .u8 0, .int .u8 0, .int .u8 0, .int .u8 0, .int .u8 0, .int .u8 0, .int .u8 0] 22)) w' → Calls Tryd.prog 42 [L n, L m].toArray w' fun e w2 => e = .returned (L v) ∧ Below (((w.alloc (.cells (numA n) 22)).alloc (.cells (numA m) 22)).alloc (.cells #[.int .u8 0, .int .u8 0, .int .u8 0, .int .u8 0, .int .u8 0, .int .u8 0, .int .u8 0, .int .u8 0, .int .u8 0, .int .u8 0, .int .u8 0, .int .u8 0, .int .u8 0, .int .u8 0, .int .u8 0, .int .u8 0, .int .u8 0, .int .u8 0, .int .u8 0, .int .u8 0, .int .u8 0, .int .u8 0, .int .u8 0, .int .u8 0, .int .u8 0, .int .u8 0, .int .u8 0, .int .u8 0, .int .u8 0, .int .u8 0, .int .u8 0, .int .u8 0] 22)).heap.size (((w.alloc (.cells (numA n) 22)).alloc (.cells (numA m) 22)).alloc (.cells #[.int .u8 0, .int .u8 0, .int .u8 0, .int .u8 0, .int .u8 0, .int .u8 0, .int .u8 0, .int .u8 0, .int .u8 0, .int .u8 0, .int .u8 0, .int .u8 0, .int .u8 0, .int .u8 0, .int .u8 0, .int .u8 0, .int .u8 0, .int .u8 0, .int .u8 0, .int .u8 0, .int .u8 0, .int .u8 0, .int .u8 0, .int .u8 0, .int .u8 0, .int .u8 0, .int .u8 0, .int .u8 0, .int .u8 0, .int .u8 0, .int .u8 0, .int .u8 0] 22)) w2 := fun w' hb => by
    rw [hv]
    exact (product_det n m w' hn hm).mono fun e w2 hh => ⟨hh.1, hb.trans (hh.2.mono hb.size)⟩
  have C3 : ∀ w', Below (((w.alloc (.cells (numA n) 22)).alloc (.cells (numA m) 22)).alloc (.cells #[.int .u8 0, .int .u8 0, .int .u8 0, .int .u8 0, .int .u8 0, .int .u8 0, .int .u8 0, .int .u8 0, .int .u8 0, .int .u8 0, .int .u8 0, .int .u8 0, .int .u8 0, .int .u8 0, .int .u8 0, .int .u8 0, .int .u8 0, .int .u8 0, .int .u8 0, .int .u8 0, .int .u8 0, .int .u8 0, .int .u8 0, .int .u8 0, .int .u8 0, .int .u8 0, .int .u8 0, .int .u8 0, .int .u8 0, .int .u8 0, .int .u8 0, .int .u8 0] 22)).heap.size (((w.alloc (.cells (numA n) 22)).alloc (.cells (numA m) 22)).alloc (.cells #[.int .u8 0, .int .u8 0, .int .u8 0, .int .u8 0, .int .u8 0, .int .u8 0, .int .u8 0, .int .u8 0, .int .u8 0, .int .u8 0, .int .u8 0, .int .u8 0, .int .u8 0, .int .u8 0, .int .u8 0, .int .u8 0, .int .u8 0, .int .u8 0, .int .u8 0, .int .u8 0, .int .u8 0, .int .u8 0, .int .u8 0, .int .u8 0, .int .u8 0, .int .u8 0, .int .u8 0, .int .u8 0, .int .u8 0, .int .u8 0, .int .u8 0, .int .u8 0] 22)) w' → Calls Tryd.prog 41 [L v].toArray w' fun e w2 => e = .returned (.agg (numA v)) ∧ Below (((w.alloc (.cells (numA n) 22)).alloc (.cells (numA m) 22)).alloc (.cells #[.int .u8 0, .int .u8 0, .int .u8 0, .int .u8 0, .int .u8 0, .int .u8 0, .int .u8 0, .int .u8 0, .int .u8 0, .int .u8 0, .int .u8 0, .int .u8 0, .int .u8 0, .int .u8 0, .int .u8 0, .int .u8 0, .int .u8 0, .int .u8 0, .int .u8 0, .int .u8 0, .int .u8 0, .int .u8 0, .int .u8 0, .int .u8 0, .int .u8 0, .int .u8 0, .int .u8 0, .int .u8 0, .int .u8 0, .int .u8 0, .int .u8 0, .int .u8 0] 22)).heap.size (((w.alloc (.cells (numA n) 22)).alloc (.cells (numA m) 22)).alloc (.cells #[.int .u8 0, .int .u8 0, .int .u8 0, .int .u8 0, .int .u8 0, .int .u8 0, .int .u8 0, .int .u8 0, .int .u8 0, .int .u8 0, .int .u8 0, .int .u8 0, .int .u8 0, .int .u8 0, .int .u8 0, .int .u8 0, .int .u8 0, .int .u8 0, .int .u8 0, .int .u8 0, .int .u8 0, .int .u8 0, .int .u8 0, .int .u8 0, .int .u8 0, .int .u8 0, .int .u8 0, .int .u8 0, .int .u8 0, .int .u8 0, .int .u8 0, .int .u8 0] 22)) w2 := fun w' hb => (store_det v w' hvl).mono fun e w2 hh => ⟨hh.1, hb.trans (hh.2.mono hb.size)⟩
  clear hn hm hv hvl
  have G0 : Hid ((((w.alloc (.cells (numA n) 22)).alloc (.cells (numA m) 22)).alloc (.cells #[.int .u8 0, .int .u8 0, .int .u8 0, .int .u8 0, .int .u8 0, .int .u8 0, .int .u8 0, .int .u8 0, .int .u8 0, .int .u8 0, .int .u8 0, .int .u8 0, .int .u8 0, .int .u8 0, .int .u8 0, .int .u8 0, .int .u8 0, .int .u8 0, .int .u8 0, .int .u8 0, .int .u8 0, .int .u8 0, .int .u8 0, .int .u8 0, .int .u8 0, .int .u8 0, .int .u8 0, .int .u8 0, .int .u8 0, .int .u8 0, .int .u8 0, .int .u8 0] 22)).heap[w.heap.size]? = some (.cells (numA n) 22 (0, 0))) := by show _ = _; rw [heap_alloc_old _ _ (by first | omega | (simp <;> omega))]; exact heap_alloc2_old _ _ _
  have G1 : Hid ((((w.alloc (.cells (numA n) 22)).alloc (.cells (numA m) 22)).alloc (.cells #[.int .u8 0, .int .u8 0, .int .u8 0, .int .u8 0, .int .u8 0, .int .u8 0, .int .u8 0, .int .u8 0, .int .u8 0, .int .u8 0, .int .u8 0, .int .u8 0, .int .u8 0, .int .u8 0, .int .u8 0, .int .u8 0, .int .u8 0, .int .u8 0, .int .u8 0, .int .u8 0, .int .u8 0, .int .u8 0, .int .u8 0, .int .u8 0, .int .u8 0, .int .u8 0, .int .u8 0, .int .u8 0, .int .u8 0, .int .u8 0, .int .u8 0, .int .u8 0] 22)).heap[w.heap.size + 1]? = some (.cells (numA m) 22 (0, 0))) := by show _ = _; rw [heap_alloc_old _ _ (by first | omega | (simp <;> omega))]; exact heap_alloc2_new _ _ _
  have G2 : Hid ((((w.alloc (.cells (numA n) 22)).alloc (.cells (numA m) 22)).alloc (.cells #[.int .u8 0, .int .u8 0, .int .u8 0, .int .u8 0, .int .u8 0, .int .u8 0, .int .u8 0, .int .u8 0, .int .u8 0, .int .u8 0, .int .u8 0, .int .u8 0, .int .u8 0, .int .u8 0, .int .u8 0, .int .u8 0, .int .u8 0, .int .u8 0, .int .u8 0, .int .u8 0, .int .u8 0, .int .u8 0, .int .u8 0, .int .u8 0, .int .u8 0, .int .u8 0, .int .u8 0, .int .u8 0, .int .u8 0, .int .u8 0, .int .u8 0, .int .u8 0] 22)).heap[w.heap.size + 1 + 1]? = some (.cells #[.int .u8 0, .int .u8 0, .int .u8 0, .int .u8 0, .int .u8 0, .int .u8 0, .int .u8 0, .int .u8 0, .int .u8 0, .int .u8 0, .int .u8 0, .int .u8 0, .int .u8 0, .int .u8 0, .int .u8 0, .int .u8 0, .int .u8 0, .int .u8 0, .int .u8 0, .int .u8 0, .int .u8 0, .int .u8 0, .int .u8 0, .int .u8 0, .int .u8 0, .int .u8 0, .int .u8 0, .int .u8 0, .int .u8 0, .int .u8 0, .int .u8 0, .int .u8 0] 22 (0, 0))) := alloc_top _ _ _ (by simp)
  have LT : Hid (w.heap.size + 1 + 1 < (((w.alloc (.cells (numA n) 22)).alloc (.cells (numA m) 22)).alloc (.cells #[.int .u8 0, .int .u8 0, .int .u8 0, .int .u8 0, .int .u8 0, .int .u8 0, .int .u8 0, .int .u8 0, .int .u8 0, .int .u8 0, .int .u8 0, .int .u8 0, .int .u8 0, .int .u8 0, .int .u8 0, .int .u8 0, .int .u8 0, .int .u8 0, .int .u8 0, .int .u8 0, .int .u8 0, .int .u8 0, .int .u8 0, .int .u8 0, .int .u8 0, .int .u8 0, .int .u8 0, .int .u8 0, .int .u8 0, .int .u8 0, .int .u8 0, .int .u8 0] 22)).heap.size) := by show _ < _; simp
  have D0 := hide C0
  have D2 := hide C2
  have D3 := hide C3
  skip
  clear C0 C2 C3
  go_enter Tryd.func23, Tryd.ntmps23
  go_wp2_with fail
  have C0 := D0.out
  have C2 := D2.out
  have C3 := D3.out
  skip
  refine wp_region_quiet_cut (C := fun w' => Below (((w.alloc (.cells (numA n) 22)).alloc (.cells (numA m) 22)).alloc (.cells #[.int .u8 0, .int .u8 0, .int .u8 0, .int .u8 0, .int .u8 0, .int .u8 0, .int .u8 0, .int .u8 0, .int .u8 0, .int .u8 0, .int .u8 0, .int .u8 0, .int .u8 0, .int .u8 0, .int .u8 0, .int .u8 0, .int .u8 0, .int .u8 0, .int .u8 0, .int .u8 0, .int .u8 0, .int .u8 0, .int .u8 0, .int .u8 0, .int .u8 0, .int .u8 0, .int .u8 0, .int .u8 0, .int .u8 0, .int .u8 0, .int .u8 0, .int .u8 0] 22)).heap.size (((w.alloc (.cells (numA n) 22)).alloc (.cells (numA m) 22)).alloc (.cells #[.int .u8 0, .int .u8 0, .int .u8 0, .int .u8 0, .int .u8 0, .int .u8 0, .int .u8 0, .int .u8 0, .int .u8 0, .int .u8 0, .int .u8 0, .int .u8 0, .int .u8 0, .int .u8 0, .int .u8 0, .int .u8 0, .int .u8 0, .int .u8 0, .int .u8 0, .int .u8 0, .int .u8 0, .int .u8 0, .int .u8 0, .int .u8 0, .int .u8 0, .int .u8 0, .int .u8 0, .int .u8 0, .int .u8 0, .int .u8 0, .int .u8 0, .int .u8 0] 22)) w') 6 (by kernel_rfl) (by kernel_rfl) (by kernel_rfl) (by kernel_rfl) (by kernel_rfl) (by kernel_rfl) ⟨rfl, rfl, rfl, Nat.le_refl _, fun _ _ => rfl⟩ ?_
  dsimp only [List.take_succ_cons, List.take_zero, List.drop_succ_cons, List.drop_zero]
  refine q_load rfl 22 _ w.heap.size 22 (numA n) (0, 0) _ rfl (by kernel_rfl) (fun w' hb => (hb.block _ (by have := LT.out; omega)).trans G0.out) Tryd.underlying22 rfl (by rw [numA_size]; kernel_rfl) ?_
  refine q_call rfl 43 Tryd.f43 _ _ _ [.agg (numA n)] (L n) rfl (by kernel_rfl) Tryd.func43 (by kernel_rfl) rfl (C0 n) ?_
  refine q_load rfl 22 _ (w.heap.size + 1) 22 (numA m) (0, 0) _ rfl (by kernel_rfl) (fun w' hb => (hb.block _ (by have := LT.out; omega)).trans G1.out) Tryd.underlying22 rfl (by rw [numA_size]; kernel_rfl) ?_
  refine q_call rfl 43 Tryd.f43 _ _ _ [.agg (numA m)] (L m) rfl (by kernel_rfl) Tryd.func43 (by kernel_rfl) rfl (C0 m) ?_
  refine q_call rfl 42 Tryd.f42 _ _ _ [L n, L m] (L v) rfl (by kernel_rfl) Tryd.func42 (by kernel_rfl) rfl C2 ?_
  refine q_call rfl 41 Tryd.f41 _ _ _ [L v] (.agg (numA v)) rfl (by kernel_rfl) Tryd.func41 (by kernel_rfl) rfl C3 ?_
  refine wpQuiet_nil ?_
  intro w1 hb1
  simp only [Act.put, List.setIfInBounds_toArray, List.set_cons_succ, List.set_cons_zero]
  have Q1 : Hid (Below w.heap.size w w1) := QB.out.trans (hb1.mono (by have := LT.out; omega))
  have G3 : Hid _ := (hb1.block _ LT.out).trans G2.out
  clear hb1 C0 C2 C3
  refine wpList_store_row rfl 22 _ _ rfl (w.heap.size + 1 + 1) (numA v) (by kernel_rfl) (by kernel_rfl) 22 _ G3.out ?hs ?hs2 (numA_one _) ?_
  case hs => rw [numA_size]; kernel_rfl
  case hs2 => rw [numA_size]; rfl
  go_wp2
  refine bodyPost_ret (v := .agg (numA v)) ?_ rfl ⟨rfl, ?_⟩
  · exact results_cell_row Tryd.results23 _ _ _ 22 (numA v) (0, 0) _ rfl (setRow_heap _ _ _ _ _ _ G3.out) Tryd.underlying22 rfl (by rw [numA_size]; kernel_rfl)
  · exact below_setRow Q1.out (by omega)

end Go.Proofs.YtkibojjbghopkaaDoor
/-
  What the calls of package limb answer, on numbers of 32 bytes: differences.
-/
namespace Go.Proofs.YtkibojjbghopkaaDoor
open Go.RowKit
set_option linter.unusedSimpArgs false
set_option linter.unusedVariables false

set_option maxHeartbeats 1000000 in
theorem Sub_any (n m : Nat) (w : World) (hn : n < 115792089237316195423570985008687907853269984665640564039457584007913129639936) (hm : m < 115792089237316195423570985008687907853269984665640564039457584007913129639936) (hp : PrimeAt w) :
    Calls Tryd.prog 39 #[.agg (numA n), .agg (numA m)] w fun e w' => e = .returned (.agg (numA ((n + (57896044618658097711785492504343953926634992332820282019728792003956564819949 - m % 57896044618658097711785492504343953926634992332820282019728792003956564819949)) % 57896044618658097711785492504343953926634992332820282019728792003956564819949))) ∧ Below w.heap.size w w' := by
  have hvl : (n + (57896044618658097711785492504343953926634992332820282019728792003956564819949 - m % 57896044618658097711785492504343953926634992332820282019728792003956564819949)) % 57896044618658097711785492504343953926634992332820282019728792003956564819949 < 115792089237316195423570985008687907853269984665640564039457584007913129639936 := Nat.lt_trans (Nat.mod_lt _ (by omega)) (by omega)
  generalize hv : (n + (57896044618658097711785492504343953926634992332820282019728792003956564819949 - m % 57896044618658097711785492504343953926634992332820282019728792003956564819949)) % 57896044618658097711785492504343953926634992332820282019728792003956564819949 = v at hvl ⊢
  replace hv := hv.symm
  have QB : Hid (Below w.heap.size w (((w.alloc (.cells (numA n) 22)).alloc (.cells (numA m) 22)).alloc (.cells #[.int .u8 0, .int .u8 0, .int .u8 0, .int .u8 0, .int .u8 0, .int .u8 0, .int .u8 0, .int .u8 0, .int .u8 0, .int .u8 0, .int .u8 0, .int .u8 0, .int .u8 0, .int .u8 0, .int .u8 0, .int .u8 0, .int .u8 0, .int .u8 0, .int .u8 0, .int .u8 0, .int .u8 0, .int .u8 0, .int .u8 0, .int .u8 0, .int .u8 0, .int .u8 0, .int .u8 0, .int .u8 0, .int .u8 0, .int .u8 0, .int .u8 0, .int .u8 0] 22))) := by show Below _ _ _; (repeat (first | with_reducible exact Below.refl _ _ | with_reducible assumption | with_reducible refine Below.drew ?_ | (with_reducible refine Below.alloc ?_ ?hB _; (case hB => first | omega | (simp <;> omega))) | (with_reducible refine Below.setCell ?_ ?hB _; (case hB => first | omega | (simp <;> omega)))))
  have C0 : ∀ k w', Below (((w.alloc (.cells (numA n) 22)).alloc (.cells (numA m) 22)).alloc (.cells #[.int .u8 0, .int .u8 0, .int .u8 0, .int .u8 0, .int .u8 0, .int .u8 0, .int .u8 0, .int .u8 0, .int .u8 0, .int .u8 0, .int .u8 0, .int .u8 0, .int .u8 0, .int .u8 0, .int .u8 0, .int .u8 0, .int .u8 0, .int .u8 0, .int .u8 0, .int .u8 0, .int .u8 0, .int .u8 0, .int .u8 0, .int .u8 0, .int .u8 0, .int .u8 0, .int .u8 0, .int .u8 0, .int .u8 0, .int .u8 0, .int .u8 0, .int .u8 0] 22)).heap.size (((w.alloc (.cells (numA n) 22)).alloc (.cells (numA m) 22)).alloc (.cells #[.int .u8 0, .int .u8 0, .int .u8 0, .int .u8 0, .int .u8 0, .int .u8 0, .int .u8 0, .int .u8 0, .int .u8 0, .int .u8 0, .int .u8 0, .int .u8 0, .int .u8 0, .int .u8 0, .int .u8 0, .int .u8 0, .int .u8 0, .int .u8 0, .int .u8 0, .int .u8 0, .int .u8 0, .int .u8 0, .int .u8 0, .int .u8 0, .int .u8 0, .int .u8 0, .int .u8 0, .int .u8 0, .int .u8 0, .int .u8 0, .int .u8 0, .int .u8 0] 22)) w' → Calls Tryd.prog 43 [.agg (numA k)].toArray w' fun e w2 => e = .returned (L k) ∧ Below (((w.alloc (.cells (numA n) 22)).alloc (.cells (numA m) 22)).alloc (.cells #[.int .u8 0, .int .u8 0, .int .u8 0, .int .u8 0, .int .u8 0, .int .u8 0, .int .u8 0, .int .u8 0, .int .u8 0, .int .u8 0, .int .u8 0, .int .u8 0, .int .u8 0, .int .u8 0, .int .u8 0, .int .u8 0, .int .u8 0, .int .u8 0, .int .u8 0, .int .u8 0, .int .u8 0, .int .u8 0, .int .u8 0, .int .u8 0, .int .u8 0, .int .u8 0, .int .u8 0, .int .u8 0, .int .u8 0, .int .u8 0, .int .u8 0, .int .u8 0] 22)).heap.size (((w.alloc (.cells (numA n) 22)).alloc (.cells (numA m) 22)).alloc (.cells #[.int .u8 0, .int .u8 0, .int .u8 0, .int .u8 0, .int .u8 0, .int .u8 0, .int .u8 0, .int .u8 0, .int .u8 0, .int .u8 0, .int .u8 0, .int .u8 0, .int .u8 0, .int .u8 0, .int .u8 0, .int .u8 0, .int .u8 0, .int .u8 0, .int .u8 0, .int .u8 0, .int .u8 0, .int .u8 0, .int .u8 0, .int .u8 0, .int .u8 0, .int .u8 0, .int .u8 0, .int .u8 0, .int .u8 0, .int .u8 0, .int .u8 0, .int .u8 0] 22)) w2 := fun k w' hb => (load_at _ k w' rfl).mono fun e w2 hh => ⟨hh.1, hb.trans (hh.2.mono hb.size)⟩
  obtain ⟨q, hq⟩ : ∃ q, q = 57896044618658097711785492504343953926634992332820282019728792003956564819949 - m % 57896044618658097711785492504343953926634992332820282019728792003956564819949 := ⟨_, rfl⟩
  have hqv : (n + (57896044618658097711785492504343953926634992332820282019728792003956564819949 - m % 57896044618658097711785492504343953926634992332820282019728792003956564819949)) % 57896044618658097711785492504343953926634992332820282019728792003956564819949 = v := hv.symm
  have C1 : ∀ w', Below (((w.alloc (.cells (numA n) 22)).alloc (.cells (numA m) 22)).alloc (.cells #[.int .u8 0, .int .u8 0, .int .u8 0, .int .u8 0, .int .u8 0, .int .u8 0, .int .u8 0, .int .u8 0, .int .u8 0, .int .u8 0, .int .u8 0, .int .u8 0, .int .u8 0, .int .u8 0, .int .u8 0, .int .u8 0, .int .u8 0, .int .u8 0, .int .u8 0, .int .u8 0, .int .u8 0, .int .u8 0, .int .u8 0, .int .u8 0, .int .u8 0, .int .u8 0, .int .u8 0, .int .u8 0, .int .u8 0, .int .u8 0, .int .u8 0, .int .u8 0] 22)).heap.size (((w.alloc (.cells (numA n) 22)).alloc (.cells (numA m) 22)).alloc (.cells #[.int .u8 0, .int .u8 0, .int .u8 0, .int .u8 0, .int .u8 0, .int .u8 0, .int .u8 0, .int .u8 0, .int .u8 0, .int .u8 0, .int .u8 0, .int .u8 0, .int .u8 0, .int .u8 0, .int .u8 0, .int .u8 0, .int .u8 0, .int .u8 0, .int .u8 0, .int .u8 0, .int .u8 0, .int .u8 0, .int .u8 0, .int .u8 0, .int .u8 0, .int .u8 0, .int .u8 0, .int .u8 0, .int .u8 0, .int .u8 0, .int .u8 0, .int .u8 0] 22)) w' → Calls Tryd.prog 64 [L m].toArray w' fun e w2 => e = .returned (L q) ∧ Below (((w.alloc (.cells (numA n) 22)).alloc (.cells (numA m) 22)).alloc (.cells #[.int .u8 0, .int .u8 0, .int .u8 0, .int .u8 0, .int .u8 0, .int .u8 0, .int .u8 0, .int .u8 0, .int .u8 0, .int .u8 0, .int .u8 0, .int .u8 0, .int .u8 0, .int .u8 0, .int .u8 0, .int .u8 0, .int .u8 0, .int .u8 0, .int .u8 0, .int .u8 0, .int .u8 0, .int .u8 0, .int .u8 0, .int .u8 0, .int .u8 0, .int .u8 0, .int .u8 0, .int .u8 0, .int .u8 0, .int .u8 0, .int .u8 0, .int .u8 0] 22)).heap.size (((w.alloc (.cells (numA n) 22)).alloc (.cells (numA m) 22)).alloc (.cells #[.int .u8 0, .int .u8 0, .int .u8 0, .int .u8 0, .int .u8 0, .int .u8 0, .int .u8 0, .int .u8 0, .int .u8 0, .int .u8 0, .int .u8 0, .int .u8 0, .int .u8 0, .int .u8 0, .int .u8 0, .int .u8 0, .int .u8 0, .int .u8 0, .int .u8 0, .int .u8 0, .int .u8 0, .int .u8 0, .int .u8 0, .int .u8 0, .int .u8 0, .int .u8 0, .int .u8 0, .int .u8 0, .int .u8 0, .int .u8 0, .int .u8 0, .int .u8 0] 22)) w2 := fun w' hb => by
    rw [hq]
    exact (negative_det m w' hm (PrimeAt.below (PrimeAt.below hp QB.out) hb)).mono fun e w2 hh => ⟨hh.1, hb.trans (hh.2.mono hb.size)⟩
  have C2 : ∀ w', Below (((w.alloc (.cells (numA n) 22)).alloc (.cells (numA m) 22)).alloc (.cells #[.int .u8 0, .int .u8 0, .int .u8 0, .int .u8 0, .int .u8 0, .int .u8 0, .int .u8 0, .int .u8 0, .int .u8 0, .int .u8 0, .int .u8 0, .int .u8 0, .int .u8 0, .int .u8 0, .int .u8 0, .int .u8 0, .int .u8 0, .int .u8 0, .int .u8 0, .int .u8 0, .int .u8 0, .int .u8 0, .int .u8 0, .int .u8 0, .int .u8 0, .int .u8 0, .int .u8 0, .int .u8 0, .int .u8 0, .int .u8 0, .int .u8 0, .int .u8 0] 22)).heap.size (((w.alloc (.cells (numA n) 22)).alloc (.cells (numA m) 22)).alloc (.cells #[.int .u8 0, .int .u8 0, .int .u8 0, .int .u8 0, .int .u8 0, .int .u8 0, .int .u8 0, .int .u8 0, .int .u8 0, .int .u8 0, .int .u8 0, .int .u8 0, .int .u8 0, .int .u8 0, .int .u8 0, .int .u8 0, .int .u8 0, .int .u8 0, .int .u8 0, .int .u8 0, .int .u8 0, .int .u8 0, .int .u8 0, .int .u8 0, .int .u8 0, .int .u8 0, .int .u8 0, .int .u8 0, .int .u8 0, .int .u8 0, .int .u8 0, .int .u8 0] 22)) w' → Calls Tryd.prog 63 [L n, L q].toArray w' fun e w2 => e = .returned (L v) ∧ Below (((w.alloc (.cells (numA n) 22)).alloc (.cells (numA m) 22)).alloc (.cells #[.int .u8 0, .int .u8 0, .int .u8 0, .int .u8 0, .int .u8 0, .int .u8 0, .int .u8 0, .int .u8 0, .int .u8 0, .int .u8 0, .int .u8 0, .int .u8 0, .int .u8 0, .int .u8 0, .int .u8 0, .int .u8 0, .int .u8 0, .int .u8 0, .int .u8 0, .int .u8 0, .int .u8 0, .int .u8 0, .int .u8 0, .int .u8 0, .int .u8 0, .int .u8 0, .int .u8 0, .int .u8 0, .int .u8 0, .int .u8 0, .int .u8 0, .int .u8 0] 22)).heap.size (((w.alloc (.cells (numA n) 22)).alloc (.cells (numA m) 22)).alloc (.cells #[.int .u8 0, .int .u8 0, .int .u8 0, .int .u8 0, .int .u8 0, .int .u8 0, .int .u8 0, .int .u8 0, .int .u8 0, .int .u8 0, .int .u8 0, .int .u8 0, .int .u8 0, .int .u8 0, .int .u8 0, .int .u8 0, .int .u8 0, .int .u8 0, .int .u8 0, .int .u8 0, .int .u8 0, .int .u8 0, .int .u8 0, .int .u8 0, .int .u8 0, .int .u8 0, .int .u8 0, .int .u8 0, .int .u8 0, .int .u8 0, .int .u8 0, .int .u8 0] 22)) w2 := fun w' hb => by
    rw [← hqv, ← hq]
    exact (sum_det n q w' hn (by omega)).mono fun e w2 hh => ⟨hh.1, hb.trans (hh.2.mono hb.size)⟩
  clear hq hqv
  have C3 : ∀ w', Below (((w.alloc (.cells (numA n) 22)).alloc (.cells (numA m) 22)).alloc (.cells #[.int .u8 0, .int .u8 0, .int .u8 0, .int .u8 0, .int .u8 0, .int .u8 0, .int .u8 0, .int .u8 0, .int .u8 0, .int .u8 0, .int .u8 0, .int .u8 0, .int .u8 0, .int .u8 0, .int .u8 0, .int .u8 0, .int .u8 0, .int .u8 0, .int .u8 0, .int .u8 0, .int .u8 0, .int .u8 0, .int .u8 0, .int .u8 0, .int .u8 0, .int .u8 0, .int .u8 0, .int .u8 0, .int .u8 0, .int .u8 0, .int .u8 0, .int .u8 0] 22)).heap.size (((w.alloc (.cells (numA n) 22)).alloc (.cells (numA m) 22)).alloc (.cells #[.int .u8 0, .int .u8 0, .int .u8 0, .int .u8 0, .int .u8 0, .int .u8 0, .int .u8 0, .int .u8 0, .int .u8 0, .int .u8 0, .int .u8 0, .int .u8 0, .int .u8 0, .int .u8 0, .int .u8 0, .int .u8 0, .int .u8 0, .int .u8 0, .int .u8 0, .int .u8 0, .int .u8 0, .int .u8 0, .int .u8 0, .int .u8 0, .int .u8 0, .int .u8 0, .int .u8 0, .int .u8 0, .int .u8 0, .int .u8 0, .int .u8 0, .int .u8 0] 22)) w' → Calls Tryd.prog 41 [L v].toArray w' fun e w2 => e = .returned (.agg (numA v)) ∧ Below (((w.alloc (.cells (numA n) 22)).alloc (.cells (numA m) 22)).alloc (.cells #[.int .u8 0, .int .u8 0, .int .u8 0, .int .u8 0, .int .u8 0, .int .u8 0, .int .u8 0, .int .u8 0, .int .u8 0, .int .u8 0, .int .u8 0, .int .u8 0, .int .u8 0, .int .u8 0, .int .u8 0, .int .u8 0, .int .u8 0, .int .u8 0, .int .u8 0, .int .u8 0, .int .u8 0, .int .u8 0, .int .u8 0, .int .u8 0, .int .u8 0, .int .u8 0, .int .u8 0, .int .u8 0, .int .u8 0, .int .u8 0, .int .u8 0, .int .u8 0] 22)).heap.size (((w.alloc (.cells (numA n) 22)).alloc (.cells (numA m) 22)).alloc (.cells #[.int .u8 0, .int .u8 0, .int .u8 0, .int .u8 0, .int .u8 0, .int .u8 0, .int .u8 0, .int .u8 0, .int .u8 0, .int .u8 0, .int .u8 0, .int .u8 0, .int .u8 0, .int .u8 0, .int .u8 0, .int .u8 0, .int .u8 0, .int .u8 0, .int .u8 0, .int .u8 0, .int .u8 0, .int .u8 0, .int .u8 0, .int .u8 0, .int .u8 0, .int .u8 0, .int .u8 0, .int .u8 0, .int .u8 0, .int .u8 0, .int .u8 0, .int .u8 0] 22)) w2 := fun w' hb => (store_det v w' hvl).mono fun e w2 hh => ⟨hh.1, hb.trans (hh.2.mono hb.size)⟩
  clear hn hm hv hvl hp
  have G0 : Hid ((((w.alloc (.cells (numA n) 22)).alloc (.cells (numA m) 22)).alloc (.cells #[.int .u8 0, .int .u8 0, .int .u8 0, .int .u8 0, .int .u8 0, .int .u8 0, .int .u8 0, .int .u8 0, .int .u8 0, .int .u8 0, .int .u8 0, .int .u8 0, .int .u8 0, .int .u8 0, .int .u8 0, .int .u8 0, .int .u8 0, .int .u8 0, .int .u8 0, .int .u8 0, .int .u8 0, .int .u8 0, .int .u8 0, .int .u8 0, .int .u8 0, .int .u8 0, .int .u8 0, .int .u8 0, .int .u8 0, .int .u8 0, .int .u8 0, .int .u8 0] 22)).heap[w.heap.size]? = some (.cells (numA n) 22 (0, 0))) := by show _ = _; rw [heap_alloc_old _ _ (by first | omega | (simp <;> omega))]; exact heap_alloc2_old _ _ _
  have G1 : Hid ((((w.alloc (.cells (numA n) 22)).alloc (.cells (numA m) 22)).alloc (.cells #[.int .u8 0, .int .u8 0, .int .u8 0, .int .u8 0, .int .u8 0, .int .u8 0, .int .u8 0, .int .u8 0, .int .u8 0, .int .u8 0, .int .u8 0, .int .u8 0, .int .u8 0, .int .u8 0, .int .u8 0, .int .u8 0, .int .u8 0, .int .u8 0, .int .u8 0, .int .u8 0, .int .u8 0, .int .u8 0, .int .u8 0, .int .u8 0, .int .u8 0, .int .u8 0, .int .u8 0, .int .u8 0, .int .u8 0, .int .u8 0, .int .u8 0, .int .u8 0] 22)).heap[w.heap.size + 1]? = some (.cells (numA m) 22 (0, 0))) := by show _ = _; rw [heap_alloc_old _ _ (by first | omega | (simp <;> omega))]; exact heap_alloc2_new _ _ _
  have G2 : Hid ((((w.alloc (.cells (numA n) 22)).alloc (.cells (numA m) 22)).alloc (.cells #[.int .u8 0, .int .u8 0, .int .u8 0, .int .u8 0, .int .u8 0, .int .u8 0, .int .u8 0, .int .u8 0, .int .u8 0, .int .u8 0, .int .u8 0, .int .u8 0, .int .u8 0, .int .u8 0, .int .u8 0, .int .u8 0, .int .u8 0, .int .u8 0, .int .u8 0, .int .u8 0, .int .u8 0, .int .u8 0, .int .u8 0, .int .u8 0, .int .u8 0, .int .u8 0, .int .u8 0, .int .u8 0, .int .u8 0, .int .u8 0, .int .u8 0, .int .u8 0] 22)).heap[w.heap.size + 1 + 1]? = some (.cells #[.int .u8 0, .int .u8 0, .int .u8 0, .int .u8 0, .int .u8 0, .int .u8 0, .int .u8 0, .int .u8 0, .int .u8 0, .int .u8 0, .int .u8 0, .int .u8 0, .int .u8 0, .int .u8 0, .int .u8 0, .int .u8 0, .int .u8 0, .int .u8 0, .int .u8 0, .int .u8 0, .int .u8 0, .int .u8 0, .int .u8 0, .int .u8 0, .int .u8 0, .int .u8 0, .int .u8 0, .int .u8 0, .int .u8 0, .int .u8 0, .int .u8 0, .int .u8 0] 22 (0, 0))) := alloc_top _ _ _ (by simp)
  have LT : Hid (w.heap.size + 1 + 1 < (((w.alloc (.cells (numA n) 22)).alloc (.cells (numA m) 22)).alloc (.cells #[.int .u8 0, .int .u8 0, .int .u8 0, .int .u8 0, .int .u8 0, .int .u8 0, .int .u8 0, .int .u8 0, .int .u8 0, .int .u8 0, .int .u8 0, .int .u8 0, .int .u8 0, .int .u8 0, .int .u8 0, .int .u8 0, .int .u8 0, .int .u8 0, .int .u8 0, .int .u8 0, .int .u8 0, .int .u8 0, .int .u8 0, .int .u8 0, .int .u8 0, .int .u8 0, .int .u8 0, .int .u8 0, .int .u8 0, .int .u8 0, .int .u8 0, .int .u8 0] 22)).heap.size) := by show _ < _; simp
  have D0 := hide C0
  have D2 := hide C2
  have D3 := hide C3
  have D1 := hide C1
  clear C0 C2 C3 C1
  go_enter Tryd.func39, Tryd.ntmps39
  go_wp2_with fail
  have C0 := D0.out
  have C2 := D2.out
  have C3 := D3.out
  have C1 := D1.out
  refine wp_region_quiet_cut (C := fun w' => Below (((w.alloc (.cells (numA n) 22)).alloc (.cells (numA m) 22)).alloc (.cells #[.int .u8 0, .int .u8 0, .int .u8 0, .int .u8 0, .int .u8 0, .int .u8 0, .int .u8 0, .int .u8 0, .int .u8 0, .int .u8 0, .int .u8 0, .int .u8 0, .int .u8 0, .int .u8 0, .int .u8 0, .int .u8 0, .int .u8 0, .int .u8 0, .int .u8 0, .int .u8 0, .int .u8 0, .int .u8 0, .int .u8 0, .int .u8 0, .int .u8 0, .int .u8 0, .int .u8 0, .int .u8 0, .int .u8 0, .int .u8 0, .int .u8 0, .int .u8 0] 22)).heap.size (((w.alloc (.cells (numA n) 22)).alloc (.cells (numA m) 22)).alloc (.cells #[.int .u8 0, .int .u8 0, .int .u8 0, .int .u8 0, .int .u8 0, .int .u8 0, .int .u8 0, .int .u8 0, .int .u8 0, .int .u8 0, .int .u8 0, .int .u8 0, .int .u8 0, .int .u8 0, .int .u8 0, .int .u8 0, .int .u8 0, .int .u8 0, .int .u8 0, .int .u8 0, .int .u8 0, .int .u8 0, .int .u8 0, .int .u8 0, .int .u8 0, .int .u8 0, .int .u8 0, .int .u8 0, .int .u8 0, .int .u8 0, .int .u8 0, .int .u8 0] 22)) w') 7 (by kernel_rfl) (by kernel_rfl) (by kernel_rfl) (by kernel_rfl) (by kernel_rfl) (by kernel_rfl) ⟨rfl, rfl, rfl, Nat.le_refl _, fun _ _ => rfl⟩ ?_
  dsimp only [List.take_succ_cons, List.take_zero, List.drop_succ_cons, List.drop_zero]
  refine q_load rfl 22 _ w.heap.size 22 (numA n) (0, 0) _ rfl (by kernel_rfl) (fun w' hb => (hb.block _ (by have := LT.out; omega)).trans G0.out) Tryd.underlying22 rfl (by rw [numA_size]; kernel_rfl) ?_
  refine q_call rfl 43 Tryd.f43 _ _ _ [.agg (numA n)] (L n) rfl (by kernel_rfl) Tryd.func43 (by kernel_rfl) rfl (C0 n) ?_
  refine q_load rfl 22 _ (w.heap.size + 1) 22 (numA m) (0, 0) _ rfl (by kernel_rfl) (fun w' hb => (hb.block _ (by have := LT.out; omega)).trans G1.out) Tryd.underlying22 rfl (by rw [numA_size]; kernel_rfl) ?_
  refine q_call rfl 43 Tryd.f43 _ _ _ [.agg (numA m)] (L m) rfl (by kernel_rfl) Tryd.func43 (by kernel_rfl) rfl (C0 m) ?_
  refine q_call rfl 64 Tryd.f64 _ _ _ [L m] (L q) rfl (by kernel_rfl) Tryd.func64 (by kernel_rfl) rfl C1 ?_
  refine q_call rfl 63 Tryd.f63 _ _ _ [L n, L q] (L v) rfl (by kernel_rfl) Tryd.func63 (by kernel_rfl) rfl C2 ?_
  refine q_call rfl 41 Tryd.f41 _ _ _ [L v] (.agg (numA v)) rfl (by kernel_rfl) Tryd.func41 (by kernel_rfl) rfl C3 ?_
  refine wpQuiet_nil ?_
  intro w1 hb1
  simp only [Act.put, List.setIfInBounds_toArray, List.set_cons_succ, List.set_cons_zero]
  have Q1 : Hid (Below w.heap.size w w1) := QB.out.trans (hb1.mono (by have := LT.out; omega))
  have G3 : Hid _ := (hb1.block _ LT.out).trans G2.out
  clear hb1 C0 C2 C3
  refine wpList_store_row rfl 22 _ _ rfl (w.heap.size + 1 + 1) (numA v) (by kernel_rfl) (by kernel_rfl) 22 _ G3.out ?hs ?hs2 (numA_one _) ?_
  case hs => rw [numA_size]; kernel_rfl
  case hs2 => rw [numA_size]; rfl
  go_wp2
  refine bodyPost_ret (v := .agg (numA v)) ?_ rfl ⟨rfl, ?_⟩
  · exact results_cell_row Tryd.results39 _ _ _ 22 (numA v) (0, 0) _ rfl (setRow_heap _ _ _ _ _ _ G3.out) Tryd.underlying22 rfl (by rw [numA_size]; kernel_rfl)
  · exact below_setRow Q1.out (by omega)

end Go.Proofs.YtkibojjbghopkaaDoor
/-
  Whether a number is nought, and the number with all bits.
-/
namespace Go.Proofs.YtkibojjbghopkaaDoor
open Go.RowKit
set_option linter.unusedSimpArgs false
set_option linter.unusedVariables false

section
variable {P : Program} {ops : Array Oper} {Q : Exit → Act → World → Prop} {a : Act} {o : Oper} {rest : List Oper} {w : World}
theorem l_val (hg : o.guard = none) (v : Value) (hrun : (execOp a.eval o).run P w = .ok (.value v) w) (h : wpList P ops Q rest (a.put o.dst v) w) : wpList P ops Q (o :: rest) a w :=
  wpList_plain hg fun K hK => by
    unfold Oper.wp
    rw [hrun]
    exact hK _ _ h
end

theorem eqG : Tryd.prog.eqGuardType Tryd.prog.depth 22 = false := by kernel_rfl
theorem sz5 (w : World) : (sizeOf 5).run Tryd.prog w = .ok 1 w := by kernel_rfl
theorem ag5 (w : World) : (isAgg 5).run Tryd.prog w = .ok false w := by kernel_rfl

set_option maxHeartbeats 1000000 in
theorem Zero_any (n : Nat) (w : World) (hn : n < 115792089237316195423570985008687907853269984665640564039457584007913129639936) :
    Calls Tryd.prog 11 #[.agg (numA n)] w fun e w' => e = .returned (.bool (decide (n % 57896044618658097711785492504343953926634992332820282019728792003956564819949 = 0))) ∧ Below w.heap.size w w' := by
  have hvl : n % 57896044618658097711785492504343953926634992332820282019728792003956564819949 < 115792089237316195423570985008687907853269984665640564039457584007913129639936 := Nat.lt_trans (Nat.mod_lt _ (by omega)) (by omega)
  have R0 : ∀ w', Calls Tryd.prog 25 [.agg (numA n)].toArray w' fun e w2 => e = .returned (.agg (numA (n % 57896044618658097711785492504343953926634992332820282019728792003956564819949))) ∧ Below w'.heap.size w' w2 := fun w' => Reduce_any n w' hn
  generalize hv : n % 57896044618658097711785492504343953926634992332820282019728792003956564819949 = v at hvl R0 ⊢
  clear hv hn
  have HV := hide hvl
  have R := hide R0
  clear hvl R0
  have G0 := hide (heap_alloc_new w (.cells (numA n) 22))
  have QB : Hid (Below w.heap.size w (w.alloc (.cells (numA n) 22))) := by show Below _ _ _; (repeat (first | with_reducible exact Below.refl _ _ | with_reducible assumption | with_reducible refine Below.drew ?_ | (with_reducible refine Below.alloc ?_ ?hB _; (case hB => first | omega | (simp <;> omega))) | (with_reducible refine Below.setCell ?_ ?hB _; (case hB => first | omega | (simp <;> omega)))))
  go_enter Tryd.func11, Tryd.ntmps11
  go_wp2_with (refine wpList_load_row rfl 22 _ rfl _ rfl 22 (numA n) (0, 0) _ G0.out Tryd.underlying22 rfl ?hs ?_; (case hs => rw [numA_size]; kernel_rfl))
  refine (R.out _).mono ?_
  rintro e w1 ⟨rfl, hb1⟩
  have Q1 : Hid (Below w.heap.size w w1) := QB.out.trans (hb1.mono (by simp))
  clear hb1
  go_wp2_with (refine l_val rfl (.bool (decide (v = 0))) (run_eql_num (t := 22) (e := 5) v 0 rfl (by kernel_rfl) (by kernel_rfl) HV.out (by decide) Tryd.underlying22 Tryd.underlying5 sz5 ag5 eqG _) ?_; simp only [Act.put, List.setIfInBounds_toArray, List.set_cons_succ, List.set_cons_zero])
  go_ret
  exact ⟨rfl, Q1.out⟩

end Go.Proofs.YtkibojjbghopkaaDoor
/-
  The answers that the document fixes: they are as they must be.
-/
namespace Go.Proofs.YtkibojjbghopkaaDoor
open Go.RowKit
set_option linter.unusedSimpArgs false
set_option linter.unusedVariables false

theorem l_build {ops : Array Oper} {Q : Exit → Act → World → Prop} {a : Act} {o : Oper} {rest : List Oper} {w : World} (hg : o.guard = none) (k : Nat) (K : Int) (hK : K = k) (ho : o.op = .build 22 #[(0, .const (.int .u8 K))]) (hrun : ∀ w, (Instr.build 22 #[(0, .int .u8 (k : Int))]).run Tryd.prog w = .ok (.agg (numA k)) w) (h : wpList Tryd.prog ops Q rest (a.put o.dst (.agg (numA k))) w) : wpList Tryd.prog ops Q (o :: rest) a w :=
  l_val hg _ (by unfold execOp; subst hK; simp [ho, Act.eval, hrun]) h
theorem b1 (w : World) : (Instr.build 22 #[(0, .int .u8 ((1 : Nat) : Int))]).run Tryd.prog w = .ok (.agg (numA 1)) w := by kernel_rfl
theorem b2 (w : World) : (Instr.build 22 #[(0, .int .u8 ((2 : Nat) : Int))]).run Tryd.prog w = .ok (.agg (numA 2)) w := by kernel_rfl

end Go.Proofs.YtkibojjbghopkaaDoor
