/-
  General pieces, joined: W10 W11 W12 W13 Num S1 Alloc.
-/
import Derived.Test.YtjkdonjcngmjeaaDoorG04
import Derived.Test.YtjkdonjcngmjeaaDoorG03
import Derived.Deep.RegionWith
import Derived.Test.YtjkdonjcngmjeaaDoorG01
import Derived.Below
/-
  What the calls of package limb answer, on numbers of 32 bytes: products.
-/
namespace Go.Proofs.YtjkdonjcngmjeaaDoor
open Go.RowKit
set_option linter.unusedSimpArgs false
set_option linter.unusedVariables false

set_option maxHeartbeats 1000000 in
theorem Mul_any (n m : Nat) (w : World) (hn : n < 115792089237316195423570985008687907853269984665640564039457584007913129639936) (hm : m < 115792089237316195423570985008687907853269984665640564039457584007913129639936) :
    Calls Tryd.prog 82 #[.agg (numA n), .agg (numA m)] w fun e w' => e = .returned (.agg (numA (n * m % 57896044618658097711785492504343953926634992332820282019728792003956564819949))) ∧ Below w.heap.size w w' := by
  have hvl : n * m % 57896044618658097711785492504343953926634992332820282019728792003956564819949 < 115792089237316195423570985008687907853269984665640564039457584007913129639936 := Nat.lt_trans (Nat.mod_lt _ (by omega)) (by omega)
  generalize hv : n * m % 57896044618658097711785492504343953926634992332820282019728792003956564819949 = v at hvl ⊢
  replace hv := hv.symm
  have QB : Hid (Below w.heap.size w (((w.alloc (.cells (numA n) 22)).alloc (.cells (numA m) 22)).alloc (.cells #[.int .u8 0, .int .u8 0, .int .u8 0, .int .u8 0, .int .u8 0, .int .u8 0, .int .u8 0, .int .u8 0, .int .u8 0, .int .u8 0, .int .u8 0, .int .u8 0, .int .u8 0, .int .u8 0, .int .u8 0, .int .u8 0, .int .u8 0, .int .u8 0, .int .u8 0, .int .u8 0, .int .u8 0, .int .u8 0, .int .u8 0, .int .u8 0, .int .u8 0, .int .u8 0, .int .u8 0, .int .u8 0, .int .u8 0, .int .u8 0, .int .u8 0, .int .u8 0] 22))) := by show Below _ _ _; (repeat (first | with_reducible exact Below.refl _ _ | with_reducible assumption | with_reducible refine Below.drew ?_ | (with_reducible refine Below.alloc ?_ ?hB _; (case hB => first | omega | (simp <;> omega))) | (with_reducible refine Below.setCell ?_ ?hB _; (case hB => first | omega | (simp <;> omega)))))
  have C0 : ∀ k w', Below (((w.alloc (.cells (numA n) 22)).alloc (.cells (numA m) 22)).alloc (.cells #[.int .u8 0, .int .u8 0, .int .u8 0, .int .u8 0, .int .u8 0, .int .u8 0, .int .u8 0, .int .u8 0, .int .u8 0, .int .u8 0, .int .u8 0, .int .u8 0, .int .u8 0, .int .u8 0, .int .u8 0, .int .u8 0, .int .u8 0, .int .u8 0, .int .u8 0, .int .u8 0, .int .u8 0, .int .u8 0, .int .u8 0, .int .u8 0, .int .u8 0, .int .u8 0, .int .u8 0, .int .u8 0, .int .u8 0, .int .u8 0, .int .u8 0, .int .u8 0] 22)).heap.size (((w.alloc (.cells (numA n) 22)).alloc (.cells (numA m) 22)).alloc (.cells #[.int .u8 0, .int .u8 0, .int .u8 0, .int .u8 0, .int .u8 0, .int .u8 0, .int .u8 0, .int .u8 0, .int .u8 0, .int .u8 0, .int .u8 0, .int .u8 0, .int .u8 0, .int .u8 0, .int .u8 0, .int .u8 0, .int .u8 0, .int .u8 0, .int .u8 0, .int .u8 0, .int .u8 0, .int .u8 0, .int .u8 0, .int .u8 0, .int .u8 0, .int .u8 0, .int .u8 0, .int .u8 0, .int .u8 0, .int .u8 0, .int .u8 0, .int .u8 0] 22)) w' → Calls Tryd.prog 94 [.agg (numA k)].toArray w' fun e w2 => e = .returned (L k) ∧ Below (((w.alloc (.cells (numA n) 22)).alloc (.cells (numA m) 22)).alloc (.cells #[.int .u8 0, .int .u8 0, .int .u8 0, .int .u8 0, .int .u8 0, .int .u8 0, .int .u8 0, .int .u8 0, .int .u8 0, .int .u8 0, .int .u8 0, .int .u8 0, .int .u8 0, .int .u8 0, .int .u8 0, .int .u8 0, .int .u8 0, .int .u8 0, .int .u8 0, .int .u8 0, .int .u8 0, .int .u8 0, .int .u8 0, .int .u8 0, .int .u8 0, .int .u8 0, .int .u8 0, .int .u8 0, .int .u8 0, .int .u8 0, .int .u8 0, .int .u8 0] 22)).heap.size (((w.alloc (.cells (numA n) 22)).alloc (.cells (numA m) 22)).alloc (.cells #[.int .u8 0, .int .u8 0, .int .u8 0, .int .u8 0, .int .u8 0, .int .u8 0, .int .u8 0, .int .u8 0, .int .u8 0, .int .u8 0, .int .u8 0, .int .u8 0, .int .u8 0, .int .u8 0, .int .u8 0, .int .u8 0, .int .u8 0, .int .u8 0, .int .u8 0, .int .u8 0, .int .u8 0, .int .u8 0, .int .u8 0, .int .u8 0, .int .u8 0, .int .u8 0, .int .u8 0, .int .u8 0, .int .u8 0, .int .u8 0, .int .u8 0, .int .u8 0] 22)) w2 := fun k w' hb => (load_at _ k w' rfl).mono fun e w2 hh => ⟨hh.1, hb.trans (hh.2.mono hb.size)⟩
  have C2 : ∀ w', Below (((w.alloc (.cells (numA n) 22)).alloc (.cells (numA m) 22)).alloc (.cells #[.int .u8 0, .int .u8 0, .int .u8 0, .int .u8 0, .int .u8 0, .int .u8 0, .int .u8 0, .int .u8 0, .int .u8 0, .int .u8 0, .int .u8 0, .int .u8 0, .int .u8 0, .int .u8 0, .int .u8 0, .int .u8 0, .int .u8 0, .int .u8 0, .int .u8 0, .int .u8 0, .int .u8 0, .int .u8 0, .int .u8 0, .int .u8 0, .int .u8 0, .int .u8 0, .int .u8 0, .int .u8 0, .int .u8 0, .int .u8 0, .int .u8 0, .int .u8 0] 22)).heap.size (((w.alloc (.cells (numA n) 22)).alloc (.cells (numA m) 22)).alloc (.cells #[.int .u8 0, .int .u8 0, .int .u8 0, .int .u8 0, .int .u8 0, .int .u8 0, .int .u8 0, .int .u8 0, .int .u8 0, .int .u8 0, .int .u8 0, .int .u8 0, .int .u8 0, .int .u8 0, .int .u8 0, .int .u8 0, .int .u8 0, .int .u8 0, .int .u8 0, .int .u8 0, .int .u8 0, .int .u8 0, .int .u8 0, .int .u8 0, .int .u8 0, .int .u8 0, .int .u8 0, .int .u8 0, .int .u8 0, .int .u8 0, .int .u8 0, .int .u8 0] 22)) w' → Calls Tryd.prog 93 [L n, L m].toArray w' fun e w2 => e = .returned (L v) ∧ Below (((w.alloc (.cells (numA n) 22)).alloc (.cells (numA m) 22)).alloc (.cells #[.int .u8 0, .int .u8 0, .int .u8 0, .int .u8 0, .int .u8 0, .int .u8 0, .int .u8 0, .int .u8 0, .int .u8 0, .int .u8 0, .int .u8 0, .int .u8 0, .int .u8 0, .int .u8 0, .int .u8 0, .int .u8 0, .int .u8 0, .int .u8 0, .int .u8 0, .int .u8 0, .int .u8 0, .int .u8 0, .int .u8 0, .int .u8 0, .int .u8 0, .int .u8 0, .int .u8 0, .int .u8 0, .int .u8 0, .int .u8 0, .int .u8 0, .int .u8 0] 22)).heap.size (((w.alloc (.cells (numA n) 22)).alloc (.cells (numA m) 22)).alloc (.cells #[.int .u8 0, .int .u8 0, .int .u8 0, .int .u8 0, .int .u8 0, .int .u8 0, .int .u8 0, .int .u8 0, .int .u8 0, .int .u8 0, .int .u8 0, .int .u8 0, .int .u8 0, .int .u8 0, .int .u8 0, .int .u8 0, .int .u8 0, .int .u8 0, .int .u8 0, .int .u8 0, .int .u8 0, .int .u8 0, .int .u8 0, .int .u8 0, .int .u8 0, .int .u8 0, .int .u8 0, .int .u8 0, .int .u8 0, .int .u8 0, .int .u8 0, .int .u8 0] 22)) w2 := fun w' hb => by
    rw [hv]
    exact (product_det n m w' hn hm).mono fun e w2 hh => ⟨hh.1, hb.trans (hh.2.mono hb.size)⟩
  have C3 : ∀ w', Below (((w.alloc (.cells (numA n) 22)).alloc (.cells (numA m) 22)).alloc (.cells #[.int .u8 0, .int .u8 0, .int .u8 0, .int .u8 0, .int .u8 0, .int .u8 0, .int .u8 0, .int .u8 0, .int .u8 0, .int .u8 0, .int .u8 0, .int .u8 0, .int .u8 0, .int .u8 0, .int .u8 0, .int .u8 0, .int .u8 0, .int .u8 0, .int .u8 0, .int .u8 0, .int .u8 0, .int .u8 0, .int .u8 0, .int .u8 0, .int .u8 0, .int .u8 0, .int .u8 0, .int .u8 0, .int .u8 0, .int .u8 0, .int .u8 0, .int .u8 0] 22)).heap.size (((w.alloc (.cells (numA n) 22)).alloc (.cells (numA m) 22)).alloc (.cells #[.int .u8 0, .int .u8 0, .int .u8 0, .int .u8 0, .int .u8 0, .int .u8 0, .int .u8 0, .int .u8 0, .int .u8 0, .int .u8 0, .int .u8 0, .int .u8 0, .int .u8 0, .int .u8 0, .int .u8 0, .int .u8 0, .int .u8 0, .int .u8 0, .int .u8 0, .int .u8 0, .int .u8 0, .int .u8 0, .int .u8 0, .int .u8 0, .int .u8 0, .int .u8 0, .int .u8 0, .int .u8 0, .int .u8 0, .int .u8 0, .int .u8 0, .int .u8 0] 22)) w' → Calls Tryd.prog 92 [L v].toArray w' fun e w2 => e = .returned (.agg (numA v)) ∧ Below (((w.alloc (.cells (numA n) 22)).alloc (.cells (numA m) 22)).alloc (.cells #[.int .u8 0, .int .u8 0, .int .u8 0, .int .u8 0, .int .u8 0, .int .u8 0, .int .u8 0, .int .u8 0, .int .u8 0, .int .u8 0, .int .u8 0, .int .u8 0, .int .u8 0, .int .u8 0, .int .u8 0, .int .u8 0, .int .u8 0, .int .u8 0, .int .u8 0, .int .u8 0, .int .u8 0, .int .u8 0, .int .u8 0, .int .u8 0, .int .u8 0, .int .u8 0, .int .u8 0, .int .u8 0, .int .u8 0, .int .u8 0, .int .u8 0, .int .u8 0] 22)).heap.size (((w.alloc (.cells (numA n) 22)).alloc (.cells (numA m) 22)).alloc (.cells #[.int .u8 0, .int .u8 0, .int .u8 0, .int .u8 0, .int .u8 0, .int .u8 0, .int .u8 0, .int .u8 0, .int .u8 0, .int .u8 0, .int .u8 0, .int .u8 0, .int .u8 0, .int .u8 0, .int .u8 0, .int .u8 0, .int .u8 0, .int .u8 0, .int .u8 0, .int .u8 0, .int .u8 0, .int .u8 0, .int .u8 0, .int .u8 0, .int .u8 0, .int .u8 0, .int .u8 0, .int .u8 0, .int .u8 0, .int .u8 0, .int .u8 0, .int .u8 0] 22)) w2 := fun w' hb => (store_det v w' hvl).mono fun e w2 hh => ⟨hh.1, hb.trans (hh.2.mono hb.size)⟩
  clear hn hm hv hvl
  have G0 : Hid ((((w.alloc (.cells (numA n) 22)).alloc (.cells (numA m) 22)).alloc (.cells #[.int .u8 0, .int .u8 0, .int .u8 0, .int .u8 0, .int .u8 0, .int .u8 0, .int .u8 0, .int .u8 0, .int .u8 0, .int .u8 0, .int .u8 0, .int .u8 0, .int .u8 0, .int .u8 0, .int .u8 0, .int .u8 0, .int .u8 0, .int .u8 0, .int .u8 0, .int .u8 0, .int .u8 0, .int .u8 0, .int .u8 0, .int .u8 0, .int .u8 0, .int .u8 0, .int .u8 0, .int .u8 0, .int .u8 0, .int .u8 0, .int .u8 0, .int .u8 0] 22)).heap[w.heap.size]? = some (.cells (numA n) 22 (0, 0))) := by show _ = _; rw [heap_alloc_old _ _ (by first | omega | (simp <;> omega))]; exact heap_alloc2_old _ _ _
  have G1 : Hid ((((w.alloc (.cells (numA n) 22)).alloc (.cells (numA m) 22)).alloc (.cells #[.int .u8 0, .int .u8 0, .int .u8 0, .int .u8 0, .int .u8 0, .int .u8 0, .int .u8 0, .int .u8 0, .int .u8 0, .int .u8 0, .int .u8 0, .int .u8 0, .int .u8 0, .int .u8 0, .int .u8 0, .int .u8 0, .int .u8 0, .int .u8 0, .int .u8 0, .int .u8 0, .int .u8 0, .int .u8 0, .int .u8 0, .int .u8 0, .int .u8 0, .int .u8 0, .int .u8 0, .int .u8 0, .int .u8 0, .int .u8 0, .int .u8 0, .int .u8 0] 22)).heap[w.heap.size + 1]? = some (.cells (numA m) 22 (0, 0))) := by show _ = _; rw [heap_alloc_old _ _ (by first | omega | (simp <;> omega))]; exact heap_alloc2_new _ _ _
  have G2 : Hid ((((w.alloc (.cells (numA n) 22)).alloc (.cells (numA m) 22)).alloc (.cells #[.int .u8 0, .int .u8 0, .int .u8 0, .int .u8 0, .int .u8 0, .int .u8 0, .int .u8 0, .int .u8 0, .int .u8 0, .int .u8 0, .int .u8 0, .int .u8 0, .int .u8 0, .int .u8 0, .int .u8 0, .int .u8 0, .int .u8 0, .int .u8 0, .int .u8 0, .int .u8 0, .int .u8 0, .int .u8 0, .int .u8 0, .int .u8 0, .int .u8 0, .int .u8 0, .int .u8 0, .int .u8 0, .int .u8 0, .int .u8 0, .int .u8 0, .int .u8 0] 22)).heap[w.heap.size + 1 + 1]? = some (.cells #[.int .u8 0, .int .u8 0, .int .u8 0, .int .u8 0, .int .u8 0, .int .u8 0, .int .u8 0, .int .u8 0, .int .u8 0, .int .u8 0, .int .u8 0, .int .u8 0, .int .u8 0, .int .u8 0, .int .u8 0, .int .u8 0, .int .u8 0, .int .u8 0, .int .u8 0, .int .u8 0, .int .u8 0, .int .u8 0, .int .u8 0, .int .u8 0, .int .u8 0, .int .u8 0, .int .u8 0, .int .u8 0, .int .u8 0, .int .u8 0, .int .u8 0, .int .u8 0] 22 (0, 0))) := alloc_top _ _ _ (by simp)
  have LT : Hid (w.heap.size + 1 + 1 < (((w.alloc (.cells (numA n) 22)).alloc (.cells (numA m) 22)).alloc (.cells #[.int .u8 0, .int .u8 0, .int .u8 0, .int .u8 0, .int .u8 0, .int .u8 0, .int .u8 0, .int .u8 0, .int .u8 0, .int .u8 0, .int .u8 0, .int .u8 0, .int .u8 0, .int .u8 0, .int .u8 0, .int .u8 0, .int .u8 0, .int .u8 0, .int .u8 0, .int .u8 0, .int .u8 0, .int .u8 0, .int .u8 0, .int .u8 0, .int .u8 0, .int .u8 0, .int .u8 0, .int .u8 0, .int .u8 0, .int .u8 0, .int .u8 0, .int .u8 0] 22)).heap.size) := by show _ < _; simp
  have D0 := hide C0
  have D2 := hide C2
  have D3 := hide C3
  skip
  clear C0 C2 C3
  go_enter Tryd.func82, Tryd.ntmps82
  go_wp2_with fail
  have C0 := D0.out
  have C2 := D2.out
  have C3 := D3.out
  skip
  refine wp_region_quiet_cut (C := fun w' => Below (((w.alloc (.cells (numA n) 22)).alloc (.cells (numA m) 22)).alloc (.cells #[.int .u8 0, .int .u8 0, .int .u8 0, .int .u8 0, .int .u8 0, .int .u8 0, .int .u8 0, .int .u8 0, .int .u8 0, .int .u8 0, .int .u8 0, .int .u8 0, .int .u8 0, .int .u8 0, .int .u8 0, .int .u8 0, .int .u8 0, .int .u8 0, .int .u8 0, .int .u8 0, .int .u8 0, .int .u8 0, .int .u8 0, .int .u8 0, .int .u8 0, .int .u8 0, .int .u8 0, .int .u8 0, .int .u8 0, .int .u8 0, .int .u8 0, .int .u8 0] 22)).heap.size (((w.alloc (.cells (numA n) 22)).alloc (.cells (numA m) 22)).alloc (.cells #[.int .u8 0, .int .u8 0, .int .u8 0, .int .u8 0, .int .u8 0, .int .u8 0, .int .u8 0, .int .u8 0, .int .u8 0, .int .u8 0, .int .u8 0, .int .u8 0, .int .u8 0, .int .u8 0, .int .u8 0, .int .u8 0, .int .u8 0, .int .u8 0, .int .u8 0, .int .u8 0, .int .u8 0, .int .u8 0, .int .u8 0, .int .u8 0, .int .u8 0, .int .u8 0, .int .u8 0, .int .u8 0, .int .u8 0, .int .u8 0, .int .u8 0, .int .u8 0] 22)) w') 6 (by kernel_rfl) (by kernel_rfl) (by kernel_rfl) (by kernel_rfl) (by kernel_rfl) (by kernel_rfl) ⟨rfl, rfl, rfl, Nat.le_refl _, fun _ _ => rfl⟩ ?_
  dsimp only [List.take_succ_cons, List.take_zero, List.drop_succ_cons, List.drop_zero]
  refine q_load rfl 22 _ w.heap.size 22 (numA n) (0, 0) _ rfl (by kernel_rfl) (fun w' hb => (hb.block _ (by have := LT.out; omega)).trans G0.out) Tryd.underlying22 rfl (by rw [numA_size]; kernel_rfl) ?_
  refine q_call rfl 94 Tryd.f94 _ _ _ [.agg (numA n)] (L n) rfl (by kernel_rfl) Tryd.func94 (by kernel_rfl) rfl (C0 n) ?_
  refine q_load rfl 22 _ (w.heap.size + 1) 22 (numA m) (0, 0) _ rfl (by kernel_rfl) (fun w' hb => (hb.block _ (by have := LT.out; omega)).trans G1.out) Tryd.underlying22 rfl (by rw [numA_size]; kernel_rfl) ?_
  refine q_call rfl 94 Tryd.f94 _ _ _ [.agg (numA m)] (L m) rfl (by kernel_rfl) Tryd.func94 (by kernel_rfl) rfl (C0 m) ?_
  refine q_call rfl 93 Tryd.f93 _ _ _ [L n, L m] (L v) rfl (by kernel_rfl) Tryd.func93 (by kernel_rfl) rfl C2 ?_
  refine q_call rfl 92 Tryd.f92 _ _ _ [L v] (.agg (numA v)) rfl (by kernel_rfl) Tryd.func92 (by kernel_rfl) rfl C3 ?_
  refine wpQuiet_nil ?_
  intro w1 hb1
  simp only [Act.put, List.setIfInBounds_toArray, List.set_cons_succ, List.set_cons_zero]
  have Q1 : Hid (Below w.heap.size w w1) := QB.out.trans (hb1.mono (by have := LT.out; omega))
  have G3 : Hid _ := (hb1.block _ LT.out).trans G2.out
  clear hb1 C0 C2 C3
  refine wpList_store_row rfl 22 _ _ rfl (w.heap.size + 1 + 1) (numA v) (by kernel_rfl) (by kernel_rfl) 22 _ G3.out ?hs ?hs2 (numA_one _) ?_
  case hs => rw [numA_size]; kernel_rfl
  case hs2 => rw [numA_size]; rfl
  go_wp2
  refine bodyPost_ret (v := .agg (numA v)) ?_ rfl ⟨rfl, ?_⟩
  · exact results_cell_row Tryd.results82 _ _ _ 22 (numA v) (0, 0) _ rfl (setRow_heap _ _ _ _ _ _ G3.out) Tryd.underlying22 rfl (by rw [numA_size]; kernel_rfl)
  · exact below_setRow Q1.out (by omega)

end Go.Proofs.YtjkdonjcngmjeaaDoor
/-
  What the calls of package limb answer, on numbers of 32 bytes: differences.
-/
namespace Go.Proofs.YtjkdonjcngmjeaaDoor
open Go.RowKit
set_option linter.unusedSimpArgs false
set_option linter.unusedVariables false

end Go.Proofs.YtjkdonjcngmjeaaDoor
/-
  Whether a number is nought, and the number with all bits.
-/
namespace Go.Proofs.YtjkdonjcngmjeaaDoor
open Go.RowKit
set_option linter.unusedSimpArgs false
set_option linter.unusedVariables false

section
variable {P : Program} {ops : Array Oper} {Q : Exit → Act → World → Prop} {a : Act} {o : Oper} {rest : List Oper} {w : World}
theorem l_val (hg : o.guard = none) (v : Value) (hrun : (execOp a.eval o).run P w = .ok (.value v) w) (h : wpList P ops Q rest (a.put o.dst v) w) : wpList P ops Q (o :: rest) a w :=
  wpList_plain hg fun K hK => by
    unfold Oper.wp
    rw [hrun]
    exact hK _ _ h
end

theorem sz5 (w : World) : (sizeOf 5).run Tryd.prog w = .ok 1 w := by kernel_rfl
theorem ag5 (w : World) : (isAgg 5).run Tryd.prog w = .ok false w := by kernel_rfl

end Go.Proofs.YtjkdonjcngmjeaaDoor
/-
  The answers that the document fixes: they are as they must be.
-/
namespace Go.Proofs.YtjkdonjcngmjeaaDoor
open Go.RowKit
set_option linter.unusedSimpArgs false
set_option linter.unusedVariables false

theorem l_build {ops : Array Oper} {Q : Exit → Act → World → Prop} {a : Act} {o : Oper} {rest : List Oper} {w : World} (hg : o.guard = none) (k : Nat) (K : Int) (hK : K = k) (ho : o.op = .build 22 #[(0, .const (.int .u8 K))]) (hrun : ∀ w, (Instr.build 22 #[(0, .int .u8 (k : Int))]).run Tryd.prog w = .ok (.agg (numA k)) w) (h : wpList Tryd.prog ops Q rest (a.put o.dst (.agg (numA k))) w) : wpList Tryd.prog ops Q (o :: rest) a w :=
  l_val hg _ (by unfold execOp; subst hK; simp [ho, Act.eval, hrun]) h
theorem b1 (w : World) : (Instr.build 22 #[(0, .int .u8 ((1 : Nat) : Int))]).run Tryd.prog w = .ok (.agg (numA 1)) w := by kernel_rfl
theorem b2 (w : World) : (Instr.build 22 #[(0, .int .u8 ((2 : Nat) : Int))]).run Tryd.prog w = .ok (.agg (numA 2)) w := by kernel_rfl

end Go.Proofs.YtjkdonjcngmjeaaDoor
/-
  Whole numbers of 32 bytes that are read from a block and written to one; the world behind goes by a name of its own.
-/
namespace Go.Proofs.YtjkdonjcngmjeaaDoor
open Go.RowKit
set_option linter.unusedSimpArgs false
set_option linter.unusedVariables false

/-- Block g holds the number n. -/
def At (w : World) (g n : Nat) : Prop := w.heap[g]? = some (.cells (numA n) 22 (0, 0))
/-- Block g has room for a number. -/
def Room (w : World) (g : Nat) : Prop := ∃ cs : Array Value, cs.size = 32 ∧ w.heap[g]? = some (.cells cs 22 (0, 0))
theorem At.room {w : World} {g n : Nat} (h : At w g n) : Room w g := ⟨_, numA_size n, h⟩
theorem At.lt {w : World} {g n : Nat} (h : At w g n) : g < w.heap.size := (Array.getElem?_eq_some_iff.1 h).1
theorem Room.lt {w : World} {g : Nat} (h : Room w g) : g < w.heap.size := by obtain ⟨_, _, h⟩ := h; exact (Array.getElem?_eq_some_iff.1 h).1
theorem At.below {w w' : World} {g n B : Nat} (h : At w g n) (hb : Below B w w') (hB : g < B) : At w' g n := (hb.block _ hB).trans h
theorem Room.below {w w' : World} {g B : Nat} (h : Room w g) (hb : Below B w w') (hB : g < B) : Room w' g := by obtain ⟨cs, h1, h2⟩ := h; exact ⟨cs, h1, (hb.block _ hB).trans h2⟩
theorem At.under {w w' : World} {g n : Nat} (h : At w g n) (hb : Below w.heap.size w w') : At w' g n := h.below hb h.lt
theorem Room.under {w w' : World} {g : Nat} (h : Room w g) (hb : Below w.heap.size w w') : Room w' g := h.below hb h.lt
theorem room_new (w : World) : Room (w.alloc (.cells #[.int .u8 0, .int .u8 0, .int .u8 0, .int .u8 0, .int .u8 0, .int .u8 0, .int .u8 0, .int .u8 0, .int .u8 0, .int .u8 0, .int .u8 0, .int .u8 0, .int .u8 0, .int .u8 0, .int .u8 0, .int .u8 0, .int .u8 0, .int .u8 0, .int .u8 0, .int .u8 0, .int .u8 0, .int .u8 0, .int .u8 0, .int .u8 0, .int .u8 0, .int .u8 0, .int .u8 0, .int .u8 0, .int .u8 0, .int .u8 0, .int .u8 0, .int .u8 0] 22)) w.heap.size := ⟨_, rfl, heap_new _ _⟩
theorem room_top (w : World) (k : Nat) (h : k = w.heap.size) : Room (w.alloc (.cells #[.int .u8 0, .int .u8 0, .int .u8 0, .int .u8 0, .int .u8 0, .int .u8 0, .int .u8 0, .int .u8 0, .int .u8 0, .int .u8 0, .int .u8 0, .int .u8 0, .int .u8 0, .int .u8 0, .int .u8 0, .int .u8 0, .int .u8 0, .int .u8 0, .int .u8 0, .int .u8 0, .int .u8 0, .int .u8 0, .int .u8 0, .int .u8 0, .int .u8 0, .int .u8 0, .int .u8 0, .int .u8 0, .int .u8 0, .int .u8 0, .int .u8 0, .int .u8 0] 22)) k := by subst h; exact room_new w
theorem At.alloc {w : World} {g n : Nat} (h : At w g n) (o : Obj) : At (w.alloc o) g n := (Below.heap_alloc w o g h.lt).trans h
theorem Room.alloc {w : World} {g : Nat} (h : Room w g) (o : Obj) : Room (w.alloc o) g := by obtain ⟨cs, h1, h2⟩ := h; exact ⟨cs, h1, (Below.heap_alloc w o g (Array.getElem?_eq_some_iff.1 h2).1).trans h2⟩
theorem at_new (w : World) (n : Nat) : At (w.alloc (.cells (numA n) 22)) w.heap.size n := heap_new _ _

/-- The world behind a store to block g alone. -/
structure Put (w w' : World) (g : Nat) : Prop where
  grown : w.grownBy w' (some g)
  size : w'.heap.size = w.heap.size
theorem Put.below {w w' : World} {g B : Nat} (h : Put w w' g) (hB : B ≤ g) : Below B w w' := ⟨h.grown.os, h.grown.tape, h.grown.output, by rw [h.size]; exact Nat.le_refl _, fun k hk => by
  by_cases hk2 : k < w.heap.size
  · exact h.grown.block k hk2 (fun e => by cases e; omega)
  · rw [Array.getElem?_eq_none (by rw [h.size]; omega), Array.getElem?_eq_none (by omega)]⟩
theorem Put.at {w w' : World} {g k n : Nat} (h : Put w w' g) (hk : At w k n) (hne : k ≠ g) : At w' k n := (h.grown.block k hk.lt (fun e => by cases e; exact hne rfl)).trans hk
theorem Put.room {w w' : World} {g k : Nat} (h : Put w w' g) (hk : Room w k) (hne : k ≠ g) : Room w' k := by obtain ⟨cs, h1, h2⟩ := hk; exact ⟨cs, h1, (h.grown.block k (Array.getElem?_eq_some_iff.1 h2).1 (fun e => by cases e; exact hne rfl)).trans h2⟩

theorem wpList_get {ops : Array Oper} {rest : List Oper} {o : Oper} {a : Act} {w : World} {Q : Exit → Act → World → Prop} (hgd : o.guard = none) (x : Operand) (ho : o.op = .load 22 x)
    (g n : Nat) (hx : a.eval x = .pointer (some ⟨g, 0, none⟩)) (hg : At w g n) (h : wpList Tryd.prog ops Q rest (a.put o.dst (.agg (numA n))) w) : wpList Tryd.prog ops Q (o :: rest) a w :=
  wpList_load_row hgd 22 x ho g hx 22 (numA n) (0, 0) _ hg Tryd.underlying22 rfl (by rw [numA_size]; kernel_rfl) h

theorem wpList_put {ops : Array Oper} {rest : List Oper} {o : Oper} {a : Act} {w : World} {Q : Exit → Act → World → Prop} (hgd : o.guard = none) (x y : Operand) (ho : o.op = .store 22 x y)
    (g n : Nat) (hx : a.eval x = .pointer (some ⟨g, 0, none⟩)) (hy : a.eval y = .agg (numA n)) (hg : Room w g)
    (h : ∀ w', At w' g n → Put w w' g → wpList Tryd.prog ops Q rest (a.put o.dst undef) w') : wpList Tryd.prog ops Q (o :: rest) a w := by
  obtain ⟨cs, hs, hc⟩ := hg
  refine wpList_store_row hgd 22 x y ho g (numA n) hx hy 22 cs hc (by rw [numA_size]; kernel_rfl) (by rw [numA_size, hs]) (numA_one n) (h _ (setRow_heap _ _ _ _ _ _ hc) ⟨⟨rfl, rfl, rfl, by simp, fun k _ hk => setRow_other _ _ _ _ (fun e => hk (by rw [e]))⟩, by simp⟩)

/-- A result of 32 bytes that lies in a cell. -/
theorem ret_num {f : Func} {p : Tmp} {Q : Ending → World → Prop} (h : f.results = #[.cell p 22]) (tmps : Array Value) (d : List (Value × Array Value)) (w : World) (g n : Nat) (hp : tmps.getD p undef = .pointer (some ⟨g, 0, none⟩)) (hg : At w g n) : (results f tmps).run Tryd.prog w = .ok (.agg (numA n)) w :=
  results_cell_row h tmps w g 22 (numA n) (0, 0) _ hp hg Tryd.underlying22 rfl (by rw [numA_size]; kernel_rfl)
end Go.Proofs.YtjkdonjcngmjeaaDoor
/-
  What limb.Swap answers.
-/
namespace Go.Proofs.YtjkdonjcngmjeaaDoor
open Go.RowKit
set_option linter.unusedSimpArgs false
set_option linter.unusedVariables false

theorem ret_two_num {f : Func} {p q : Tmp} (h : f.results = #[.cell p 22, .cell q 22]) (tmps : Array Value) (w : World) (g k n m : Nat) (hp : tmps.getD p undef = .pointer (some ⟨g, 0, none⟩)) (hq : tmps.getD q undef = .pointer (some ⟨k, 0, none⟩)) (hg : At w g n) (hk : At w k m) : (results f tmps).run Tryd.prog w = .ok (.tuple #[.agg (numA n), .agg (numA m)]) w := by
  have hp' : tmps[p]?.getD undef = .pointer (some ⟨g, 0, none⟩) := by simpa using hp
  have hq' : tmps[q]?.getD undef = .pointer (some ⟨k, 0, none⟩) := by simpa using hq
  simp [results, h, hp', hq', asAddr, run_loadVar_row w g 22 22 (numA n) (0, 0) _ hg Tryd.underlying22 rfl (by rw [numA_size]; kernel_rfl), run_loadVar_row w k 22 22 (numA m) (0, 0) _ hk Tryd.underlying22 rfl (by rw [numA_size]; kernel_rfl)]

/-- One operation of a region whose order is drawn: a number is read. -/
theorem ar_get {md : Region.Mode} {ops : Array Oper} {Q : Exit → Act → World → Prop} {fuel : Nat} {listed : Array Bool} {a : Act} {w : World} {i : Nat} {o : Oper} {rs : List Nat} (ho : ops[i]? = some o) (hw : Region.wanted o (yielded ops a.tmps) = true)
    (x : Operand) (hop : o.op = .load 22 x) (g n : Nat) (hx : a.eval x = .pointer (some ⟨g, 0, none⟩)) (hg : At w g n)
    (h : wpAny Tryd.prog md ops Q fuel (listed.setIfInBounds i true) (a.put o.dst (.agg (numA n))) w) (hs : AllReady Tryd.prog md ops Q fuel listed a w rs) : AllReady Tryd.prog md ops Q fuel listed a w (i :: rs) :=
  AllReady.cons ho (fun K hK => by
    rw [if_pos hw]
    exact wp_load_row 22 x hop g hx 22 (numA n) (0, 0) _ hg Tryd.underlying22 rfl (by rw [numA_size]; kernel_rfl) (hK _ _ h)) hs

/-- The same: a number is written. -/
theorem ar_put {md : Region.Mode} {ops : Array Oper} {Q : Exit → Act → World → Prop} {fuel : Nat} {listed : Array Bool} {a : Act} {w : World} {i : Nat} {o : Oper} {rs : List Nat} (ho : ops[i]? = some o) (hw : Region.wanted o (yielded ops a.tmps) = true)
    (x y : Operand) (hop : o.op = .store 22 x y) (g n : Nat) (hx : a.eval x = .pointer (some ⟨g, 0, none⟩)) (hy : a.eval y = .agg (numA n)) (hg : Room w g)
    (h : ∀ w', At w' g n → Put w w' g → wpAny Tryd.prog md ops Q fuel (listed.setIfInBounds i true) (a.put o.dst undef) w') (hs : AllReady Tryd.prog md ops Q fuel listed a w rs) : AllReady Tryd.prog md ops Q fuel listed a w (i :: rs) :=
  AllReady.cons ho (fun K hK => by
    rw [if_pos hw]
    obtain ⟨cs, hz, hc⟩ := hg
    exact wp_store_row 22 x y hop g (numA n) hx hy 22 cs hc (by rw [numA_size]; kernel_rfl) (by rw [numA_size, hz]) (numA_one n) (hK _ _ (h _ (setRow_heap _ _ _ _ _ _ hc) ⟨⟨rfl, rfl, rfl, by simp, fun k _ hk => setRow_other _ _ _ _ (fun e => hk (by rw [e]))⟩, by simp⟩))) hs

theorem four_alloc (w : World) (a b : Nat) (W : World) (hW : (((w.alloc (.cells (numA a) 22)).alloc (.cells (numA b) 22)).alloc (.cells #[.int .u8 0, .int .u8 0, .int .u8 0, .int .u8 0, .int .u8 0, .int .u8 0, .int .u8 0, .int .u8 0, .int .u8 0, .int .u8 0, .int .u8 0, .int .u8 0, .int .u8 0, .int .u8 0, .int .u8 0, .int .u8 0, .int .u8 0, .int .u8 0, .int .u8 0, .int .u8 0, .int .u8 0, .int .u8 0, .int .u8 0, .int .u8 0, .int .u8 0, .int .u8 0, .int .u8 0, .int .u8 0, .int .u8 0, .int .u8 0, .int .u8 0, .int .u8 0] 22)).alloc (.cells #[.int .u8 0, .int .u8 0, .int .u8 0, .int .u8 0, .int .u8 0, .int .u8 0, .int .u8 0, .int .u8 0, .int .u8 0, .int .u8 0, .int .u8 0, .int .u8 0, .int .u8 0, .int .u8 0, .int .u8 0, .int .u8 0, .int .u8 0, .int .u8 0, .int .u8 0, .int .u8 0, .int .u8 0, .int .u8 0, .int .u8 0, .int .u8 0, .int .u8 0, .int .u8 0, .int .u8 0, .int .u8 0, .int .u8 0, .int .u8 0, .int .u8 0, .int .u8 0] 22) = W) :
    At W w.heap.size a ∧ At W (w.heap.size + 1) b ∧ Room W (w.heap.size + 1 + 1) ∧ Room W (w.heap.size + 1 + 1 + 1) ∧ Below w.heap.size w W := by
  subst hW
  refine ⟨(((at_new w a).alloc _).alloc _).alloc _, ?_, (room_top _ _ (by simp)).alloc _, room_top _ _ (by simp), ?_⟩
  · have h := at_new (w.alloc (.cells (numA a) 22)) b
    rw [show (w.alloc (.cells (numA a) 22)).heap.size = w.heap.size + 1 from by simp] at h
    exact (h.alloc _).alloc _
  · exact ((((Below.refl _ _).alloc (Nat.le_refl _) _).alloc (by simp) _).alloc (by simp; omega) _).alloc (by simp; omega) _

set_option maxHeartbeats 1000000 in
theorem Swap_yes (a b : Nat) (w : World) :
    Calls Tryd.prog 87 #[.bool true, .agg (numA a), .agg (numA b)] w fun e w' => e = .returned (.tuple #[.agg (numA b), .agg (numA a)]) ∧ Below w.heap.size w w' := by
  go_enter Tryd.func87, Tryd.ntmps87
  go_wp2_with fail
  generalize hW : (((w.alloc (.cells (numA a) 22)).alloc (.cells (numA b) 22)).alloc (.cells #[.int .u8 0, .int .u8 0, .int .u8 0, .int .u8 0, .int .u8 0, .int .u8 0, .int .u8 0, .int .u8 0, .int .u8 0, .int .u8 0, .int .u8 0, .int .u8 0, .int .u8 0, .int .u8 0, .int .u8 0, .int .u8 0, .int .u8 0, .int .u8 0, .int .u8 0, .int .u8 0, .int .u8 0, .int .u8 0, .int .u8 0, .int .u8 0, .int .u8 0, .int .u8 0, .int .u8 0, .int .u8 0, .int .u8 0, .int .u8 0, .int .u8 0, .int .u8 0] 22)).alloc (.cells #[.int .u8 0, .int .u8 0, .int .u8 0, .int .u8 0, .int .u8 0, .int .u8 0, .int .u8 0, .int .u8 0, .int .u8 0, .int .u8 0, .int .u8 0, .int .u8 0, .int .u8 0, .int .u8 0, .int .u8 0, .int .u8 0, .int .u8 0, .int .u8 0, .int .u8 0, .int .u8 0, .int .u8 0, .int .u8 0, .int .u8 0, .int .u8 0, .int .u8 0, .int .u8 0, .int .u8 0, .int .u8 0, .int .u8 0, .int .u8 0, .int .u8 0, .int .u8 0] 22) = W
  obtain ⟨Aa, Ab, R1, R2, QB⟩ := four_alloc w a b W hW
  clear hW
  refine wp_region_any (by kernel_rfl) ?_
  refine wpAny_ready (rs := [0, 1]) (by kernel_rfl) (by simp) ?_
  refine ar_get rfl rfl (.tmp 5) rfl _ b rfl (by exact Ab) ?_ ?_
  · refine wpAny_ready (rs := [1, 2]) (by kernel_rfl) (by simp) ?_
    refine ar_get rfl rfl (.tmp 4) rfl _ a rfl (by exact Aa) ?_ ?_
    · refine wpAny_ready (rs := [2]) (by kernel_rfl) (by simp) (ar_put rfl rfl (.tmp 6) (.tmp 9) rfl _ b rfl rfl (by exact R1) (fun w1 A1 P1 => ?_) AllReady.nil)
      refine wpAny_ready (rs := [3]) (by kernel_rfl) (by simp) (ar_put rfl rfl (.tmp 7) (.tmp 10) rfl _ a rfl rfl (P1.room (k := w.heap.size + 1 + 1 + 1) (by exact R2) (by omega)) (fun w2 A2 P2 => ?_) AllReady.nil)
      have A1' := P2.at A1 (by omega)
      have QC : Below w.heap.size w w2 := QB.drew.trans ((P1.below (B := w.heap.size) (by omega)).trans (P2.below (B := w.heap.size) (by omega)))
      refine wpAny_done (by kernel_rfl) ?_ _
      clear P1 P2
      go_wp2
      exact bodyPost_ret (v := .tuple #[.agg (numA b), .agg (numA a)]) (ret_two_num Tryd.results87 _ _ _ _ b a rfl rfl A1' A2) rfl ⟨rfl, QC⟩
    · refine ar_put rfl rfl (.tmp 6) (.tmp 9) rfl _ b rfl rfl (by exact R1) (fun w1 A1 P1 => ?_) AllReady.nil
      refine wpAny_ready (rs := [1]) (by kernel_rfl) (by simp) (ar_get rfl rfl (.tmp 4) rfl _ a rfl (P1.at (k := w.heap.size) (by exact Aa) (by omega)) ?_ AllReady.nil)
      refine wpAny_ready (rs := [3]) (by kernel_rfl) (by simp) (ar_put rfl rfl (.tmp 7) (.tmp 10) rfl _ a rfl rfl (P1.room (k := w.heap.size + 1 + 1 + 1) (by exact R2) (by omega)) (fun w2 A2 P2 => ?_) AllReady.nil)
      have A1' := P2.at A1 (by omega)
      have QC : Below w.heap.size w w2 := QB.drew.trans ((P1.below (B := w.heap.size) (by omega)).trans (P2.below (B := w.heap.size) (by omega)))
      refine wpAny_done (by kernel_rfl) ?_ _
      clear P1 P2
      go_wp2
      exact bodyPost_ret (v := .tuple #[.agg (numA b), .agg (numA a)]) (ret_two_num Tryd.results87 _ _ _ _ b a rfl rfl A1' A2) rfl ⟨rfl, QC⟩
  · refine ar_get rfl rfl (.tmp 4) rfl _ a rfl (by exact Aa) ?_ AllReady.nil
    refine wpAny_ready (rs := [0]) (by kernel_rfl) (by simp) (ar_get rfl rfl (.tmp 5) rfl _ b rfl (by exact Ab) ?_ AllReady.nil)
    refine wpAny_ready (rs := [2]) (by kernel_rfl) (by simp) (ar_put rfl rfl (.tmp 6) (.tmp 9) rfl _ b rfl rfl (by exact R1) (fun w1 A1 P1 => ?_) AllReady.nil)
    refine wpAny_ready (rs := [3]) (by kernel_rfl) (by simp) (ar_put rfl rfl (.tmp 7) (.tmp 10) rfl _ a rfl rfl (P1.room (k := w.heap.size + 1 + 1 + 1) (by exact R2) (by omega)) (fun w2 A2 P2 => ?_) AllReady.nil)
    have A1' := P2.at A1 (by omega)
    have QC : Below w.heap.size w w2 := QB.drew.trans ((P1.below (B := w.heap.size) (by omega)).trans (P2.below (B := w.heap.size) (by omega)))
    refine wpAny_done (by kernel_rfl) ?_ _
    clear P1 P2
    go_wp2
    exact bodyPost_ret (v := .tuple #[.agg (numA b), .agg (numA a)]) (ret_two_num Tryd.results87 _ _ _ _ b a rfl rfl A1' A2) rfl ⟨rfl, QC⟩

set_option maxHeartbeats 1000000 in
theorem Swap_no (a b : Nat) (w : World) :
    Calls Tryd.prog 87 #[.bool false, .agg (numA a), .agg (numA b)] w fun e w' => e = .returned (.tuple #[.agg (numA a), .agg (numA b)]) ∧ Below w.heap.size w w' := by
  go_enter Tryd.func87, Tryd.ntmps87
  go_wp2_with fail
  generalize hW : (((w.alloc (.cells (numA a) 22)).alloc (.cells (numA b) 22)).alloc (.cells #[.int .u8 0, .int .u8 0, .int .u8 0, .int .u8 0, .int .u8 0, .int .u8 0, .int .u8 0, .int .u8 0, .int .u8 0, .int .u8 0, .int .u8 0, .int .u8 0, .int .u8 0, .int .u8 0, .int .u8 0, .int .u8 0, .int .u8 0, .int .u8 0, .int .u8 0, .int .u8 0, .int .u8 0, .int .u8 0, .int .u8 0, .int .u8 0, .int .u8 0, .int .u8 0, .int .u8 0, .int .u8 0, .int .u8 0, .int .u8 0, .int .u8 0, .int .u8 0] 22)).alloc (.cells #[.int .u8 0, .int .u8 0, .int .u8 0, .int .u8 0, .int .u8 0, .int .u8 0, .int .u8 0, .int .u8 0, .int .u8 0, .int .u8 0, .int .u8 0, .int .u8 0, .int .u8 0, .int .u8 0, .int .u8 0, .int .u8 0, .int .u8 0, .int .u8 0, .int .u8 0, .int .u8 0, .int .u8 0, .int .u8 0, .int .u8 0, .int .u8 0, .int .u8 0, .int .u8 0, .int .u8 0, .int .u8 0, .int .u8 0, .int .u8 0, .int .u8 0, .int .u8 0] 22) = W
  obtain ⟨Aa, Ab, R1, R2, QB⟩ := four_alloc w a b W hW
  clear hW
  refine wp_region_any (by kernel_rfl) ?_
  refine wpAny_ready (rs := [0, 1]) (by kernel_rfl) (by simp) ?_
  refine ar_get rfl rfl (.tmp 4) rfl _ a rfl (by exact Aa) ?_ ?_
  · refine wpAny_ready (rs := [1, 2]) (by kernel_rfl) (by simp) ?_
    refine ar_get rfl rfl (.tmp 5) rfl _ b rfl (by exact Ab) ?_ ?_
    · refine wpAny_ready (rs := [2]) (by kernel_rfl) (by simp) (ar_put rfl rfl (.tmp 6) (.tmp 11) rfl _ a rfl rfl (by exact R1) (fun w1 A1 P1 => ?_) AllReady.nil)
      refine wpAny_ready (rs := [3]) (by kernel_rfl) (by simp) (ar_put rfl rfl (.tmp 7) (.tmp 12) rfl _ b rfl rfl (P1.room (k := w.heap.size + 1 + 1 + 1) (by exact R2) (by omega)) (fun w2 A2 P2 => ?_) AllReady.nil)
      have A1' := P2.at A1 (by omega)
      have QC : Below w.heap.size w w2 := QB.drew.trans ((P1.below (B := w.heap.size) (by omega)).trans (P2.below (B := w.heap.size) (by omega)))
      refine wpAny_done (by kernel_rfl) ?_ _
      clear P1 P2
      go_wp2
      exact bodyPost_ret (v := .tuple #[.agg (numA a), .agg (numA b)]) (ret_two_num Tryd.results87 _ _ _ _ a b rfl rfl A1' A2) rfl ⟨rfl, QC⟩
    · refine ar_put rfl rfl (.tmp 6) (.tmp 11) rfl _ a rfl rfl (by exact R1) (fun w1 A1 P1 => ?_) AllReady.nil
      refine wpAny_ready (rs := [1]) (by kernel_rfl) (by simp) (ar_get rfl rfl (.tmp 5) rfl _ b rfl (P1.at (k := w.heap.size + 1) (by exact Ab) (by omega)) ?_ AllReady.nil)
      refine wpAny_ready (rs := [3]) (by kernel_rfl) (by simp) (ar_put rfl rfl (.tmp 7) (.tmp 12) rfl _ b rfl rfl (P1.room (k := w.heap.size + 1 + 1 + 1) (by exact R2) (by omega)) (fun w2 A2 P2 => ?_) AllReady.nil)
      have A1' := P2.at A1 (by omega)
      have QC : Below w.heap.size w w2 := QB.drew.trans ((P1.below (B := w.heap.size) (by omega)).trans (P2.below (B := w.heap.size) (by omega)))
      refine wpAny_done (by kernel_rfl) ?_ _
      clear P1 P2
      go_wp2
      exact bodyPost_ret (v := .tuple #[.agg (numA a), .agg (numA b)]) (ret_two_num Tryd.results87 _ _ _ _ a b rfl rfl A1' A2) rfl ⟨rfl, QC⟩
  · refine ar_get rfl rfl (.tmp 5) rfl _ b rfl (by exact Ab) ?_ AllReady.nil
    refine wpAny_ready (rs := [0]) (by kernel_rfl) (by simp) (ar_get rfl rfl (.tmp 4) rfl _ a rfl (by exact Aa) ?_ AllReady.nil)
    refine wpAny_ready (rs := [2]) (by kernel_rfl) (by simp) (ar_put rfl rfl (.tmp 6) (.tmp 11) rfl _ a rfl rfl (by exact R1) (fun w1 A1 P1 => ?_) AllReady.nil)
    refine wpAny_ready (rs := [3]) (by kernel_rfl) (by simp) (ar_put rfl rfl (.tmp 7) (.tmp 12) rfl _ b rfl rfl (P1.room (k := w.heap.size + 1 + 1 + 1) (by exact R2) (by omega)) (fun w2 A2 P2 => ?_) AllReady.nil)
    have A1' := P2.at A1 (by omega)
    have QC : Below w.heap.size w w2 := QB.drew.trans ((P1.below (B := w.heap.size) (by omega)).trans (P2.below (B := w.heap.size) (by omega)))
    refine wpAny_done (by kernel_rfl) ?_ _
    clear P1 P2
    go_wp2
    exact bodyPost_ret (v := .tuple #[.agg (numA a), .agg (numA b)]) (ret_two_num Tryd.results87 _ _ _ _ a b rfl rfl A1' A2) rfl ⟨rfl, QC⟩
end Go.Proofs.YtjkdonjcngmjeaaDoor
/-
  A region that draws its order and makes one block besides: its first operations only read, or call what makes memory alone; then comes an operation that makes a block, whenever it likes; the last ones wait for all of these.
-/
namespace Go.Proofs.YtjkdonjcngmjeaaDoor
open Go Go.RowKit
set_option linter.unusedVariables false
set_option linter.unusedSimpArgs false

section
variable {P : Program} {Q : Exit → Act → World → Prop} {h t : List Oper} {al : Oper} {A : Act}

def dstsApart (h : List Oper) (n : Nat) : Bool := h.zipIdx.all fun (o, i) => h.zipIdx.all fun (o', j) => decide (i = j) || (match o.dst, o'.dst with | some d, some d' => decide (d ≠ d') | _, _ => true)
def dstsIn (h : List Oper) (n : Nat) : Bool := h.all fun o => match o.dst with | some d => decide (d < n) | none => true

theorem dst_ne (hb : dstsApart h 0 = true) {i j : Nat} {o o' : Oper} (hi : h[i]? = some o) (hj : h[j]? = some o') (hij : i ≠ j) {d : Nat} (hd : o.dst = some d) : o'.dst ≠ some d := by
  have h1 := List.all_eq_true.1 hb (o, i) (by rw [List.mem_zipIdx_iff_getElem?]; exact hi)
  have h2 := List.all_eq_true.1 h1 (o', j) (by rw [List.mem_zipIdx_iff_getElem?]; exact hj)
  intro h3
  simp [hij, hd, h3] at h2

/-- What the region makes, seen from the operation: a block behind all others, a pointer to it. -/
def Makes (P : Program) (al : Oper) (o : Obj) : Prop := ∀ (a : Act) (w : World), (execOp a.eval al).run P w = .ok (.value (.pointer (some ⟨w.heap.size, 0, none⟩))) (w.alloc o)

theorem size_put (a : Act) (d : Option Tmp) (v : Value) : (a.put d v).tmps.size = a.tmps.size := by
  cases d <;> simp [Act.put]

theorem gdp {listed : Array Bool} {m j : Nat} (b d : Bool) (hj : j < listed.size) : (listed.push b ++ Array.replicate m false).getD j d = listed.getD j d := by
  rw [getD_app d (by simp; omega)]
  have : ¬ j = listed.size := by omega
  simp [Array.getElem?_push, this]
theorem setp {listed : Array Bool} {m i : Nat} (b : Bool) (hi : i < listed.size) : (listed.push b ++ Array.replicate m false).setIfInBounds i true = (listed.setIfInBounds i true).push b ++ Array.replicate m false := by
  rw [set_app (by simp; omega)]
  congr 1
  apply Array.ext_getElem?
  intro k
  rw [Array.getElem?_setIfInBounds, Array.getElem?_push, Array.getElem?_push, Array.getElem?_setIfInBounds]
  have h1 : (listed.setIfInBounds i true).size = listed.size := by simp
  rw [h1]
  by_cases hik : i = k
  · subst hik
    rw [if_pos rfl, if_pos (by simp; omega), if_neg (by omega), if_pos rfl, if_pos hi]
  · rw [if_neg hik]
    by_cases hk : k = listed.size
    · rw [if_pos hk, if_pos hk]
    · rw [if_neg hk, if_neg hk, if_neg hik]
end
end Go.Proofs.YtjkdonjcngmjeaaDoor
