/-
  The answers that the document fixes: they are as they must be.
-/
import Derived.Test.YtanfjkmkfcekmaaDoorW10
import Derived.Test.YtanfjkmkfcekmaaDoorW11
import Derived.Test.YtanfjkmkfcekmaaDoorW12
import Derived.Test.YtanfjkmkfcekmaaDoorPow
namespace Go.Proofs.YtanfjkmkfcekmaaDoor
open Go.RowKit
set_option linter.unusedSimpArgs false
set_option linter.unusedVariables false

theorem l_build {ops : Array Oper} {Q : Exit → Act → World → Prop} {a : Act} {o : Oper} {rest : List Oper} {w : World} (hg : o.guard = none) (k : Nat) (K : Int) (hK : K = k) (ho : o.op = .build 22 #[(0, .const (.int .u8 K))]) (hrun : ∀ w, (Instr.build 22 #[(0, .int .u8 (k : Int))]).run Tryd.prog w = .ok (.agg (numA k)) w) (h : wpList Tryd.prog ops Q rest (a.put o.dst (.agg (numA k))) w) : wpList Tryd.prog ops Q (o :: rest) a w :=
  l_val hg _ (by unfold execOp; subst hK; simp [ho, Act.eval, hrun]) h
theorem b1 (w : World) : (Instr.build 22 #[(0, .int .u8 ((1 : Nat) : Int))]).run Tryd.prog w = .ok (.agg (numA 1)) w := by kernel_rfl
theorem b2 (w : World) : (Instr.build 22 #[(0, .int .u8 ((2 : Nat) : Int))]).run Tryd.prog w = .ok (.agg (numA 2)) w := by kernel_rfl

theorem two_rows (w : World) (A B : Array Value) :
    ((((w.alloc (.cells #[.int .u8 0, .int .u8 0, .int .u8 0, .int .u8 0, .int .u8 0, .int .u8 0, .int .u8 0, .int .u8 0, .int .u8 0, .int .u8 0, .int .u8 0, .int .u8 0, .int .u8 0, .int .u8 0, .int .u8 0, .int .u8 0, .int .u8 0, .int .u8 0, .int .u8 0, .int .u8 0, .int .u8 0, .int .u8 0, .int .u8 0, .int .u8 0, .int .u8 0, .int .u8 0, .int .u8 0, .int .u8 0, .int .u8 0, .int .u8 0, .int .u8 0, .int .u8 0] 22)).alloc (.cells #[.int .u8 0, .int .u8 0, .int .u8 0, .int .u8 0, .int .u8 0, .int .u8 0, .int .u8 0, .int .u8 0, .int .u8 0, .int .u8 0, .int .u8 0, .int .u8 0, .int .u8 0, .int .u8 0, .int .u8 0, .int .u8 0, .int .u8 0, .int .u8 0, .int .u8 0, .int .u8 0, .int .u8 0, .int .u8 0, .int .u8 0, .int .u8 0, .int .u8 0, .int .u8 0, .int .u8 0, .int .u8 0, .int .u8 0, .int .u8 0, .int .u8 0, .int .u8 0] 22)).setRow w.heap.size A).setRow (w.heap.size + 1) B).heap[w.heap.size]? = some (.cells A 22 (0, 0)) ∧
    ((((w.alloc (.cells #[.int .u8 0, .int .u8 0, .int .u8 0, .int .u8 0, .int .u8 0, .int .u8 0, .int .u8 0, .int .u8 0, .int .u8 0, .int .u8 0, .int .u8 0, .int .u8 0, .int .u8 0, .int .u8 0, .int .u8 0, .int .u8 0, .int .u8 0, .int .u8 0, .int .u8 0, .int .u8 0, .int .u8 0, .int .u8 0, .int .u8 0, .int .u8 0, .int .u8 0, .int .u8 0, .int .u8 0, .int .u8 0, .int .u8 0, .int .u8 0, .int .u8 0, .int .u8 0] 22)).alloc (.cells #[.int .u8 0, .int .u8 0, .int .u8 0, .int .u8 0, .int .u8 0, .int .u8 0, .int .u8 0, .int .u8 0, .int .u8 0, .int .u8 0, .int .u8 0, .int .u8 0, .int .u8 0, .int .u8 0, .int .u8 0, .int .u8 0, .int .u8 0, .int .u8 0, .int .u8 0, .int .u8 0, .int .u8 0, .int .u8 0, .int .u8 0, .int .u8 0, .int .u8 0, .int .u8 0, .int .u8 0, .int .u8 0, .int .u8 0, .int .u8 0, .int .u8 0, .int .u8 0] 22)).setRow w.heap.size A).setRow (w.heap.size + 1) B).heap[w.heap.size + 1]? = some (.cells B 22 (0, 0)) ∧
    Below w.heap.size w ((((w.alloc (.cells #[.int .u8 0, .int .u8 0, .int .u8 0, .int .u8 0, .int .u8 0, .int .u8 0, .int .u8 0, .int .u8 0, .int .u8 0, .int .u8 0, .int .u8 0, .int .u8 0, .int .u8 0, .int .u8 0, .int .u8 0, .int .u8 0, .int .u8 0, .int .u8 0, .int .u8 0, .int .u8 0, .int .u8 0, .int .u8 0, .int .u8 0, .int .u8 0, .int .u8 0, .int .u8 0, .int .u8 0, .int .u8 0, .int .u8 0, .int .u8 0, .int .u8 0, .int .u8 0] 22)).alloc (.cells #[.int .u8 0, .int .u8 0, .int .u8 0, .int .u8 0, .int .u8 0, .int .u8 0, .int .u8 0, .int .u8 0, .int .u8 0, .int .u8 0, .int .u8 0, .int .u8 0, .int .u8 0, .int .u8 0, .int .u8 0, .int .u8 0, .int .u8 0, .int .u8 0, .int .u8 0, .int .u8 0, .int .u8 0, .int .u8 0, .int .u8 0, .int .u8 0, .int .u8 0, .int .u8 0, .int .u8 0, .int .u8 0, .int .u8 0, .int .u8 0, .int .u8 0, .int .u8 0] 22)).setRow w.heap.size A).setRow (w.heap.size + 1) B) ∧
    ((((w.alloc (.cells #[.int .u8 0, .int .u8 0, .int .u8 0, .int .u8 0, .int .u8 0, .int .u8 0, .int .u8 0, .int .u8 0, .int .u8 0, .int .u8 0, .int .u8 0, .int .u8 0, .int .u8 0, .int .u8 0, .int .u8 0, .int .u8 0, .int .u8 0, .int .u8 0, .int .u8 0, .int .u8 0, .int .u8 0, .int .u8 0, .int .u8 0, .int .u8 0, .int .u8 0, .int .u8 0, .int .u8 0, .int .u8 0, .int .u8 0, .int .u8 0, .int .u8 0, .int .u8 0] 22)).alloc (.cells #[.int .u8 0, .int .u8 0, .int .u8 0, .int .u8 0, .int .u8 0, .int .u8 0, .int .u8 0, .int .u8 0, .int .u8 0, .int .u8 0, .int .u8 0, .int .u8 0, .int .u8 0, .int .u8 0, .int .u8 0, .int .u8 0, .int .u8 0, .int .u8 0, .int .u8 0, .int .u8 0, .int .u8 0, .int .u8 0, .int .u8 0, .int .u8 0, .int .u8 0, .int .u8 0, .int .u8 0, .int .u8 0, .int .u8 0, .int .u8 0, .int .u8 0, .int .u8 0] 22)).setRow w.heap.size A).setRow (w.heap.size + 1) B).heap.size = w.heap.size + 2 := by
  refine ⟨?_, ?_, ?_, ?_⟩
  · rw [setRow_other _ _ _ _ (by omega)]
    exact setRow_heap _ _ _ _ _ _ (heap_alloc2_old w _ _)
  · exact setRow_heap _ _ _ _ _ _ ((setRow_other _ _ _ _ (by omega)).trans (heap_alloc2_new w _ _))
  · exact below_setRow (below_setRow (((Below.refl _ _).alloc (Nat.le_refl _) _).alloc (by simp) _) (by omega)) (by omega)
  · simp

set_option maxHeartbeats 4000000 in
theorem alive_any (w : World) (hp : PrimeAt w) :
    Calls Tryd.prog 9 #[] w fun e w' => e = .returned (.bool true) ∧ Below w.heap.size w w' := by
  have HP := hide hp
  clear hp
  go_enter Tryd.func9, Tryd.ntmps9
  go_wp2_with (first | (refine l_build rfl 1 1 rfl rfl b1 ?_; simp only [Act.put, List.setIfInBounds_toArray, List.set_cons_succ, List.set_cons_zero]) | (refine l_build rfl 2 2 rfl rfl b2 ?_; simp only [Act.put, List.setIfInBounds_toArray, List.set_cons_succ, List.set_cons_zero]) | (refine wpList_store_row rfl 22 _ _ rfl w.heap.size (numA 1) rfl rfl 22 #[.int .u8 0, .int .u8 0, .int .u8 0, .int .u8 0, .int .u8 0, .int .u8 0, .int .u8 0, .int .u8 0, .int .u8 0, .int .u8 0, .int .u8 0, .int .u8 0, .int .u8 0, .int .u8 0, .int .u8 0, .int .u8 0, .int .u8 0, .int .u8 0, .int .u8 0, .int .u8 0, .int .u8 0, .int .u8 0, .int .u8 0, .int .u8 0, .int .u8 0, .int .u8 0, .int .u8 0, .int .u8 0, .int .u8 0, .int .u8 0, .int .u8 0, .int .u8 0] ?hg (by rw [numA_size]; kernel_rfl) (by rw [numA_size]; rfl) (numA_one _) ?_; (case hg => rw [heap_alloc_old _ _ (by simp)]; exact alloc_top _ _ _ rfl)) | (refine wpList_store_row rfl 22 _ _ rfl (w.heap.size + 1) (numA 2) rfl rfl 22 #[.int .u8 0, .int .u8 0, .int .u8 0, .int .u8 0, .int .u8 0, .int .u8 0, .int .u8 0, .int .u8 0, .int .u8 0, .int .u8 0, .int .u8 0, .int .u8 0, .int .u8 0, .int .u8 0, .int .u8 0, .int .u8 0, .int .u8 0, .int .u8 0, .int .u8 0, .int .u8 0, .int .u8 0, .int .u8 0, .int .u8 0, .int .u8 0, .int .u8 0, .int .u8 0, .int .u8 0, .int .u8 0, .int .u8 0, .int .u8 0, .int .u8 0, .int .u8 0] ?hg (by rw [numA_size]; kernel_rfl) (by rw [numA_size]; rfl) (numA_one _) ?_; (case hg => rw [setRow_other _ _ _ _ (by omega)]; exact alloc_top _ _ _ (by simp))) | (refine wpList_load_row rfl 22 _ rfl (w.heap.size + 1) rfl 22 (numA 2) (0, 0) _ (two_rows w (numA 1) (numA 2)).2.1 Tryd.underlying22 rfl (by rw [numA_size]; kernel_rfl) ?_))
  obtain ⟨x, hx⟩ : ∃ x : Nat, x = 2 := ⟨_, rfl⟩
  obtain ⟨h, eh⟩ : ∃ h, h = invOf x := ⟨_, rfl⟩
  have lh : h < 115792089237316195423570985008687907853269984665640564039457584007913129639936 := by rw [eh]; exact invOf_lt _
  have HH : Hid (2 * h % 57896044618658097711785492504343953926634992332820282019728792003956564819949 = 1) := by rw [eh]; exact inv_two x hx
  have TR := two_rows w (numA 1) (numA 2)
  have hc := Inv_any x _ (by omega) (PrimeAt.below HP.out TR.2.2.1)
  rw [← eh, hx] at hc
  refine hc.mono ?_
  clear hc eh hx x
  rintro e w1 ⟨rfl, hb1⟩
  have L1 := hb1.size
  rw [TR.2.2.2] at L1
  have F1' := hide ((hb1.block w.heap.size (by rw [TR.2.2.2]; omega)).trans TR.1)
  have F2' := hide ((hb1.block (w.heap.size + 1) (by rw [TR.2.2.2]; omega)).trans TR.2.1)
  have Q1 := hide (TR.2.2.1.trans (hb1.mono (by rw [TR.2.2.2]; omega)))
  clear hb1 TR
  have LH := hide lh
  have LL1 := hide L1
  clear lh L1
  go_wp2_with (refine wpList_store_row rfl 22 _ _ rfl w1.heap.size (numA h) rfl rfl 22 #[.int .u8 0, .int .u8 0, .int .u8 0, .int .u8 0, .int .u8 0, .int .u8 0, .int .u8 0, .int .u8 0, .int .u8 0, .int .u8 0, .int .u8 0, .int .u8 0, .int .u8 0, .int .u8 0, .int .u8 0, .int .u8 0, .int .u8 0, .int .u8 0, .int .u8 0, .int .u8 0, .int .u8 0, .int .u8 0, .int .u8 0, .int .u8 0, .int .u8 0, .int .u8 0, .int .u8 0, .int .u8 0, .int .u8 0, .int .u8 0, .int .u8 0, .int .u8 0] (alloc_top _ _ _ rfl) (by rw [numA_size]; kernel_rfl) (by rw [numA_size]; rfl) (numA_one _) ?_)
  generalize hW : (w1.alloc (.cells #[.int .u8 0, .int .u8 0, .int .u8 0, .int .u8 0, .int .u8 0, .int .u8 0, .int .u8 0, .int .u8 0, .int .u8 0, .int .u8 0, .int .u8 0, .int .u8 0, .int .u8 0, .int .u8 0, .int .u8 0, .int .u8 0, .int .u8 0, .int .u8 0, .int .u8 0, .int .u8 0, .int .u8 0, .int .u8 0, .int .u8 0, .int .u8 0, .int .u8 0, .int .u8 0, .int .u8 0, .int .u8 0, .int .u8 0, .int .u8 0, .int .u8 0, .int .u8 0] 22)).setRow w1.heap.size (numA h) = W2
  have hsz : W2.heap.size = w1.heap.size + 1 := by rw [← hW]; simp
  have QW : Below w.heap.size w W2 := by
    rw [← hW]
    exact below_setRow (Q1.out.alloc (by have := LL1.out; omega) _) (by have := LL1.out; omega)
  have HPW : PrimeAt W2 := PrimeAt.below HP.out QW
  have F1 : ∀ w', Below W2.heap.size W2 w' → w'.heap[w.heap.size]? = some (.cells (numA 1) 22 (0, 0)) := fun w' hb => by
    rw [hb.block _ (by have := LL1.out; omega), ← hW, setRow_other _ _ _ _ (by have := LL1.out; omega), heap_alloc_old _ _ (by have := LL1.out; omega)]; exact F1'.out
  have F2 : ∀ w', Below W2.heap.size W2 w' → w'.heap[w.heap.size + 1]? = some (.cells (numA 2) 22 (0, 0)) := fun w' hb => by
    rw [hb.block _ (by have := LL1.out; omega), ← hW, setRow_other _ _ _ _ (by have := LL1.out; omega), heap_alloc_old _ _ (by have := LL1.out; omega)]; exact F2'.out
  have F3 : ∀ w', Below W2.heap.size W2 w' → w'.heap[w1.heap.size]? = some (.cells (numA h) 22 (0, 0)) := fun w' hb => by
    rw [hb.block _ (by omega), ← hW]; exact setRow_heap _ _ _ _ _ _ (alloc_top _ _ _ rfl)
  have lh := LH.out
  have l0 : 0 < 115792089237316195423570985008687907853269984665640564039457584007913129639936 := by decide
  have l1 : 1 < 115792089237316195423570985008687907853269984665640564039457584007913129639936 := by decide
  have l2 : 2 < 115792089237316195423570985008687907853269984665640564039457584007913129639936 := by decide
  have l37 : 37 < 115792089237316195423570985008687907853269984665640564039457584007913129639936 := by decide
  obtain ⟨v1, ev1⟩ : ∃ v1, v1 = 115792089237316195423570985008687907853269984665640564039457584007913129639935 := ⟨_, rfl⟩
  have lv1 : v1 < 115792089237316195423570985008687907853269984665640564039457584007913129639936 := by rw [ev1]; decide
  have Cv1 : ∀ w', Below W2.heap.size W2 w' → Calls Tryd.prog 29 [].toArray w' fun e w2 => e = .returned (.agg (numA v1)) ∧ Below W2.heap.size W2 w2 := fun w' hb => by rw [ev1]; exact (top_any  w' ).mono fun e w2 hh => ⟨hh.1, hb.trans (hh.2.mono hb.size)⟩
  obtain ⟨v2, ev2⟩ : ∃ v2, v2 = v1 % 57896044618658097711785492504343953926634992332820282019728792003956564819949 := ⟨_, rfl⟩
  have lv2 : v2 < 115792089237316195423570985008687907853269984665640564039457584007913129639936 := by rw [ev2]; exact Nat.lt_trans (Nat.mod_lt _ (by decide)) (by decide)
  have Cv2 : ∀ w', Below W2.heap.size W2 w' → Calls Tryd.prog 11 [.agg (numA v1)].toArray w' fun e w2 => e = .returned (.agg (numA v2)) ∧ Below W2.heap.size W2 w2 := fun w' hb => by rw [ev2]; exact (Reduce_any v1 w' lv1).mono fun e w2 hh => ⟨hh.1, hb.trans (hh.2.mono hb.size)⟩
  obtain ⟨v3, ev3⟩ : ∃ v3, v3 = (1 + 1) % 57896044618658097711785492504343953926634992332820282019728792003956564819949 := ⟨_, rfl⟩
  have lv3 : v3 < 115792089237316195423570985008687907853269984665640564039457584007913129639936 := by rw [ev3]; exact Nat.lt_trans (Nat.mod_lt _ (by decide)) (by decide)
  have Cv3 : ∀ w', Below W2.heap.size W2 w' → Calls Tryd.prog 13 [.agg (numA 1), .agg (numA 1)].toArray w' fun e w2 => e = .returned (.agg (numA v3)) ∧ Below W2.heap.size W2 w2 := fun w' hb => by rw [ev3]; exact (Add_any 1 1 w' l1 l1).mono fun e w2 hh => ⟨hh.1, hb.trans (hh.2.mono hb.size)⟩
  obtain ⟨v4, ev4⟩ : ∃ v4, v4 = (2 + (57896044618658097711785492504343953926634992332820282019728792003956564819949 - 1 % 57896044618658097711785492504343953926634992332820282019728792003956564819949)) % 57896044618658097711785492504343953926634992332820282019728792003956564819949 := ⟨_, rfl⟩
  have lv4 : v4 < 115792089237316195423570985008687907853269984665640564039457584007913129639936 := by rw [ev4]; exact Nat.lt_trans (Nat.mod_lt _ (by decide)) (by decide)
  have Cv4 : ∀ w', Below W2.heap.size W2 w' → Calls Tryd.prog 15 [.agg (numA 2), .agg (numA 1)].toArray w' fun e w2 => e = .returned (.agg (numA v4)) ∧ Below W2.heap.size W2 w2 := fun w' hb => by rw [ev4]; exact (Sub_any 2 1 w' l2 l1 (PrimeAt.below HPW hb)).mono fun e w2 hh => ⟨hh.1, hb.trans (hh.2.mono hb.size)⟩
  obtain ⟨v5, ev5⟩ : ∃ v5, v5 = 2 * h % 57896044618658097711785492504343953926634992332820282019728792003956564819949 := ⟨_, rfl⟩
  have lv5 : v5 < 115792089237316195423570985008687907853269984665640564039457584007913129639936 := by rw [ev5]; exact Nat.lt_trans (Nat.mod_lt _ (by decide)) (by decide)
  have Cv5 : ∀ w', Below W2.heap.size W2 w' → Calls Tryd.prog 17 [.agg (numA 2), .agg (numA h)].toArray w' fun e w2 => e = .returned (.agg (numA v5)) ∧ Below W2.heap.size W2 w2 := fun w' hb => by rw [ev5]; exact (Mul_any 2 h w' l2 lh).mono fun e w2 hh => ⟨hh.1, hb.trans (hh.2.mono hb.size)⟩
  obtain ⟨v6, ev6⟩ : ∃ v6, v6 = decide (0 % 57896044618658097711785492504343953926634992332820282019728792003956564819949 = 0) := ⟨_, rfl⟩
  have Cv6 : ∀ w', Below W2.heap.size W2 w' → Calls Tryd.prog 19 [.agg (numA 0)].toArray w' fun e w2 => e = .returned (.bool v6) ∧ Below W2.heap.size W2 w2 := fun w' hb => by rw [ev6]; exact (Zero_any 0 w' l0).mono fun e w2 hh => ⟨hh.1, hb.trans (hh.2.mono hb.size)⟩
  obtain ⟨v7, ev7⟩ : ∃ v7, v7 = decide (1 % 57896044618658097711785492504343953926634992332820282019728792003956564819949 = 0) := ⟨_, rfl⟩
  have Cv7 : ∀ w', Below W2.heap.size W2 w' → Calls Tryd.prog 19 [.agg (numA 1)].toArray w' fun e w2 => e = .returned (.bool v7) ∧ Below W2.heap.size W2 w2 := fun w' hb => by rw [ev7]; exact (Zero_any 1 w' l1).mono fun e w2 hh => ⟨hh.1, hb.trans (hh.2.mono hb.size)⟩
  have zv6 : v6 = true := ev6
  have zv7 : v7 = false := ev7
  refine wp_region_quiet (C := fun w' => Below W2.heap.size W2 w') (by kernel_rfl) (by kernel_rfl) ⟨rfl, rfl, rfl, Nat.le_refl _, fun _ _ => rfl⟩ ?_
  refine q_call (by kernel_rfl) 29 Tryd.f29 _ _ _ [] (.agg (numA v1)) rfl (by kernel_rfl) Tryd.func29 (by kernel_rfl) rfl Cv1 ?_
  simp only [Act.put, List.setIfInBounds_toArray, List.set_cons_succ, List.set_cons_zero]
  refine q_call (by kernel_rfl) 11 Tryd.f11 _ _ _ [.agg (numA v1)] (.agg (numA v2)) rfl (by kernel_rfl) Tryd.func11 (by kernel_rfl) rfl Cv2 ?_
  simp only [Act.put, List.setIfInBounds_toArray, List.set_cons_succ, List.set_cons_zero]
  refine q_val (by kernel_rfl) (.agg (numA 37)) (fun w' => by kernel_rfl) ?_
  simp only [Act.put, List.setIfInBounds_toArray, List.set_cons_succ, List.set_cons_zero]
  refine q_val (by kernel_rfl) (.bool true) (fun w' => (run_eql_num (t := 22) (e := 5) v2 37 rfl (by kernel_rfl) (by kernel_rfl) lv2 l37 Tryd.underlying22 Tryd.underlying5 sz5 ag5 eqG w').trans (by rw [show decide (v2 = 37) = true from decide_eq_true (by rw [ev2, ev1])])) ?_
  simp only [Act.put, List.setIfInBounds_toArray, List.set_cons_succ, List.set_cons_zero]
  refine q_val (by kernel_rfl) (.bool true) (fun w' => by kernel_rfl) ?_
  simp only [Act.put, List.setIfInBounds_toArray, List.set_cons_succ, List.set_cons_zero]
  refine q_load (by kernel_rfl) 22 _ (w.heap.size) 22 (numA 1) (0, 0) _ rfl (by kernel_rfl) F1 Tryd.underlying22 rfl (by rw [numA_size]; kernel_rfl) ?_
  simp only [Act.put, List.setIfInBounds_toArray, List.set_cons_succ, List.set_cons_zero]
  refine q_load (by kernel_rfl) 22 _ (w.heap.size) 22 (numA 1) (0, 0) _ rfl (by kernel_rfl) F1 Tryd.underlying22 rfl (by rw [numA_size]; kernel_rfl) ?_
  simp only [Act.put, List.setIfInBounds_toArray, List.set_cons_succ, List.set_cons_zero]
  refine q_call (by kernel_rfl) 13 Tryd.f13 _ _ _ [.agg (numA 1), .agg (numA 1)] (.agg (numA v3)) rfl (by kernel_rfl) Tryd.func13 (by kernel_rfl) rfl Cv3 ?_
  simp only [Act.put, List.setIfInBounds_toArray, List.set_cons_succ, List.set_cons_zero]
  refine q_load (by kernel_rfl) 22 _ (w.heap.size + 1) 22 (numA 2) (0, 0) _ rfl (by kernel_rfl) F2 Tryd.underlying22 rfl (by rw [numA_size]; kernel_rfl) ?_
  simp only [Act.put, List.setIfInBounds_toArray, List.set_cons_succ, List.set_cons_zero]
  refine q_val (by kernel_rfl) (.bool true) (fun w' => (run_eql_num (t := 22) (e := 5) v3 2 rfl (by kernel_rfl) (by kernel_rfl) lv3 l2 Tryd.underlying22 Tryd.underlying5 sz5 ag5 eqG w').trans (by rw [show decide (v3 = 2) = true from decide_eq_true ev3])) ?_
  simp only [Act.put, List.setIfInBounds_toArray, List.set_cons_succ, List.set_cons_zero]
  refine q_val (by kernel_rfl) (.bool true) (fun w' => by kernel_rfl) ?_
  simp only [Act.put, List.setIfInBounds_toArray, List.set_cons_succ, List.set_cons_zero]
  refine q_val (by kernel_rfl) (.bool true) (fun w' => by kernel_rfl) ?_
  simp only [Act.put, List.setIfInBounds_toArray, List.set_cons_succ, List.set_cons_zero]
  refine q_load (by kernel_rfl) 22 _ (w.heap.size + 1) 22 (numA 2) (0, 0) _ rfl (by kernel_rfl) F2 Tryd.underlying22 rfl (by rw [numA_size]; kernel_rfl) ?_
  simp only [Act.put, List.setIfInBounds_toArray, List.set_cons_succ, List.set_cons_zero]
  refine q_load (by kernel_rfl) 22 _ (w.heap.size) 22 (numA 1) (0, 0) _ rfl (by kernel_rfl) F1 Tryd.underlying22 rfl (by rw [numA_size]; kernel_rfl) ?_
  simp only [Act.put, List.setIfInBounds_toArray, List.set_cons_succ, List.set_cons_zero]
  refine q_call (by kernel_rfl) 15 Tryd.f15 _ _ _ [.agg (numA 2), .agg (numA 1)] (.agg (numA v4)) rfl (by kernel_rfl) Tryd.func15 (by kernel_rfl) rfl Cv4 ?_
  simp only [Act.put, List.setIfInBounds_toArray, List.set_cons_succ, List.set_cons_zero]
  refine q_load (by kernel_rfl) 22 _ (w.heap.size) 22 (numA 1) (0, 0) _ rfl (by kernel_rfl) F1 Tryd.underlying22 rfl (by rw [numA_size]; kernel_rfl) ?_
  simp only [Act.put, List.setIfInBounds_toArray, List.set_cons_succ, List.set_cons_zero]
  refine q_val (by kernel_rfl) (.bool true) (fun w' => (run_eql_num (t := 22) (e := 5) v4 1 rfl (by kernel_rfl) (by kernel_rfl) lv4 l1 Tryd.underlying22 Tryd.underlying5 sz5 ag5 eqG w').trans (by rw [show decide (v4 = 1) = true from decide_eq_true ev4])) ?_
  simp only [Act.put, List.setIfInBounds_toArray, List.set_cons_succ, List.set_cons_zero]
  refine q_val (by kernel_rfl) (.bool true) (fun w' => by kernel_rfl) ?_
  simp only [Act.put, List.setIfInBounds_toArray, List.set_cons_succ, List.set_cons_zero]
  refine q_val (by kernel_rfl) (.bool true) (fun w' => by kernel_rfl) ?_
  simp only [Act.put, List.setIfInBounds_toArray, List.set_cons_succ, List.set_cons_zero]
  refine q_load (by kernel_rfl) 22 _ (w.heap.size + 1) 22 (numA 2) (0, 0) _ rfl (by kernel_rfl) F2 Tryd.underlying22 rfl (by rw [numA_size]; kernel_rfl) ?_
  simp only [Act.put, List.setIfInBounds_toArray, List.set_cons_succ, List.set_cons_zero]
  refine q_load (by kernel_rfl) 22 _ (w1.heap.size) 22 (numA h) (0, 0) _ rfl (by kernel_rfl) F3 Tryd.underlying22 rfl (by rw [numA_size]; kernel_rfl) ?_
  simp only [Act.put, List.setIfInBounds_toArray, List.set_cons_succ, List.set_cons_zero]
  refine q_call (by kernel_rfl) 17 Tryd.f17 _ _ _ [.agg (numA 2), .agg (numA h)] (.agg (numA v5)) rfl (by kernel_rfl) Tryd.func17 (by kernel_rfl) rfl Cv5 ?_
  simp only [Act.put, List.setIfInBounds_toArray, List.set_cons_succ, List.set_cons_zero]
  refine q_load (by kernel_rfl) 22 _ (w.heap.size) 22 (numA 1) (0, 0) _ rfl (by kernel_rfl) F1 Tryd.underlying22 rfl (by rw [numA_size]; kernel_rfl) ?_
  simp only [Act.put, List.setIfInBounds_toArray, List.set_cons_succ, List.set_cons_zero]
  refine q_val (by kernel_rfl) (.bool true) (fun w' => (run_eql_num (t := 22) (e := 5) v5 1 rfl (by kernel_rfl) (by kernel_rfl) lv5 l1 Tryd.underlying22 Tryd.underlying5 sz5 ag5 eqG w').trans (by rw [show decide (v5 = 1) = true from decide_eq_true (by rw [ev5]; exact HH.out)])) ?_
  simp only [Act.put, List.setIfInBounds_toArray, List.set_cons_succ, List.set_cons_zero]
  refine q_val (by kernel_rfl) (.bool true) (fun w' => by kernel_rfl) ?_
  simp only [Act.put, List.setIfInBounds_toArray, List.set_cons_succ, List.set_cons_zero]
  refine q_val (by kernel_rfl) (.bool true) (fun w' => by kernel_rfl) ?_
  simp only [Act.put, List.setIfInBounds_toArray, List.set_cons_succ, List.set_cons_zero]
  refine q_val (by kernel_rfl) (.agg (numA 0)) (fun w' => by kernel_rfl) ?_
  simp only [Act.put, List.setIfInBounds_toArray, List.set_cons_succ, List.set_cons_zero]
  refine q_call (by kernel_rfl) 19 Tryd.f19 _ _ _ [.agg (numA 0)] (.bool true) rfl (by kernel_rfl) Tryd.func19 (by kernel_rfl) rfl (by rw [← zv6]; exact Cv6) ?_
  simp only [Act.put, List.setIfInBounds_toArray, List.set_cons_succ, List.set_cons_zero]
  refine q_val (by kernel_rfl) (.bool true) (fun w' => by kernel_rfl) ?_
  simp only [Act.put, List.setIfInBounds_toArray, List.set_cons_succ, List.set_cons_zero]
  refine q_val (by kernel_rfl) (.bool true) (fun w' => by kernel_rfl) ?_
  simp only [Act.put, List.setIfInBounds_toArray, List.set_cons_succ, List.set_cons_zero]
  refine q_load (by kernel_rfl) 22 _ (w.heap.size) 22 (numA 1) (0, 0) _ rfl (by kernel_rfl) F1 Tryd.underlying22 rfl (by rw [numA_size]; kernel_rfl) ?_
  simp only [Act.put, List.setIfInBounds_toArray, List.set_cons_succ, List.set_cons_zero]
  refine q_call (by kernel_rfl) 19 Tryd.f19 _ _ _ [.agg (numA 1)] (.bool false) rfl (by kernel_rfl) Tryd.func19 (by kernel_rfl) rfl (by rw [← zv7]; exact Cv7) ?_
  simp only [Act.put, List.setIfInBounds_toArray, List.set_cons_succ, List.set_cons_zero]
  refine q_val (by kernel_rfl) (.bool true) (fun w' => by kernel_rfl) ?_
  simp only [Act.put, List.setIfInBounds_toArray, List.set_cons_succ, List.set_cons_zero]
  refine q_val (by kernel_rfl) (.bool true) (fun w' => by kernel_rfl) ?_
  simp only [Act.put, List.setIfInBounds_toArray, List.set_cons_succ, List.set_cons_zero]
  refine q_val (by kernel_rfl) (.bool true) (fun w' => by kernel_rfl) ?_
  simp only [Act.put, List.setIfInBounds_toArray, List.set_cons_succ, List.set_cons_zero]
  refine wpQuiet_nil ?_
  intro w3 hb3
  have Q3 := hide (QW.trans (hb3.mono (by have := LL1.out; omega)))
  clear hb3
  go_wp2
  go_ret
  exact ⟨rfl, Q3.out⟩
end Go.Proofs.YtanfjkmkfcekmaaDoor
