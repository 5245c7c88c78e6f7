/-
  What LadderSmall answers: true, whatever the secret, the point and the choice are.
-/
import Derived.Test.YtjagicnkfmndeaaDoorSM
import Derived.Test.YtjagicnkfmndeaaDoorD8
import Derived.Test.YtjagicnkfmndeaaDoorL1
import Derived.Test.YtjagicnkfmndeaaDoorOpen
namespace Go.Proofs.YtjagicnkfmndeaaDoor
open Go Go.RowKit
set_option linter.unusedVariables false
set_option linter.unusedSimpArgs false

theorem quotL_ltp (l : List Nat) : quotL l < 57896044618658097711785492504343953926634992332820282019728792003956564819949 := by
  unfold quotL
  split
  · exact Nat.mod_lt _ (by decide)
  · decide
theorem XN_ltp (k u : Nat) : XN k u < 57896044618658097711785492504343953926634992332820282019728792003956564819949 := quotL_ltp _
theorem one_numA : (#[.int .u8 1, .int .u8 0, .int .u8 0, .int .u8 0, .int .u8 0, .int .u8 0, .int .u8 0, .int .u8 0, .int .u8 0, .int .u8 0, .int .u8 0, .int .u8 0, .int .u8 0, .int .u8 0, .int .u8 0, .int .u8 0, .int .u8 0, .int .u8 0, .int .u8 0, .int .u8 0, .int .u8 0, .int .u8 0, .int .u8 0, .int .u8 0, .int .u8 0, .int .u8 0, .int .u8 0, .int .u8 0, .int .u8 0, .int .u8 0, .int .u8 0, .int .u8 0] : Array Value) = numA 1 := by kernel_rfl

set_option maxHeartbeats 1000000 in
theorem small_0 (k u m : Nat) (w : World) (lk : k < 115792089237316195423570985008687907853269984665640564039457584007913129639936) (lu : u < 115792089237316195423570985008687907853269984665640564039457584007913129639936) (hm : m < 256) (hp : PrimeAt w) (h : m % 3 = 0) :
    Calls Tryd.prog 10 #[.agg (numA k), .agg (numA u), .int .u8 (m : Int)] w fun e w' => e = .returned (.bool true) ∧ Below w.heap.size w w' := by
  have LK : Kept _ := ⟨lk⟩
  have LU : Kept _ := ⟨lu⟩
  have HP : Kept _ := ⟨hp⟩
  obtain ⟨y, hy⟩ : ∃ y, y = XN k u := ⟨_, rfl⟩
  have EX : Kept (y = XN k u) := ⟨hy⟩
  have LY : Kept (y < 115792089237316195423570985008687907853269984665640564039457584007913129639936) := ⟨by rw [hy]; exact XN_lt _ _⟩
  have EY : Kept (y % 57896044618658097711785492504343953926634992332820282019728792003956564819949 = y) := ⟨by rw [hy]; exact Nat.mod_eq_of_lt (XN_ltp _ _)⟩
  clear lk lu hp hy
  have ZX : Kept (XN k 0 = 0) := ⟨small_nil k⟩
  have e1 : (((m : Int) % 3) == 1) = false := by rw [beq_eq_false_iff_ne]; omega
  have e2 : (((m : Int) % 3) == 2) = false := by rw [beq_eq_false_iff_ne]; omega
  go_enter Tryd.func10, Tryd.ntmps10
  go_wp2_with fail
  generalize hW : (w.alloc (.cells (numA k) 22)).alloc (.cells (numA u) 22) = W
  obtain ⟨Ak0, Au0, QB0⟩ := two_nums w k u W hW
  clear hW
  refine (alive2_any _ (PrimeAt.below HP.out QB0)).mono ?_
  rintro e w1 ⟨rfl, hb1⟩
  have Ak1 := Ak0.under hb1
  have Au1 := Au0.under hb1
  have QB1 := QB0.trans (hb1.mono QB0.size)
  clear Ak0 Au0 QB0 hb1
  have Ak2 := Ak1.alloc (.cells #[.int .u8 0, .int .u8 0, .int .u8 0, .int .u8 0, .int .u8 0, .int .u8 0, .int .u8 0, .int .u8 0, .int .u8 0, .int .u8 0, .int .u8 0, .int .u8 0, .int .u8 0, .int .u8 0, .int .u8 0, .int .u8 0, .int .u8 0, .int .u8 0, .int .u8 0, .int .u8 0, .int .u8 0, .int .u8 0, .int .u8 0, .int .u8 0, .int .u8 0, .int .u8 0, .int .u8 0, .int .u8 0, .int .u8 0, .int .u8 0, .int .u8 0, .int .u8 0] 22)
  have Au2 := Au1.alloc (.cells #[.int .u8 0, .int .u8 0, .int .u8 0, .int .u8 0, .int .u8 0, .int .u8 0, .int .u8 0, .int .u8 0, .int .u8 0, .int .u8 0, .int .u8 0, .int .u8 0, .int .u8 0, .int .u8 0, .int .u8 0, .int .u8 0, .int .u8 0, .int .u8 0, .int .u8 0, .int .u8 0, .int .u8 0, .int .u8 0, .int .u8 0, .int .u8 0, .int .u8 0, .int .u8 0, .int .u8 0, .int .u8 0, .int .u8 0, .int .u8 0, .int .u8 0, .int .u8 0] 22)
  have R2 := room_new w1
  have A0 : At (w1.alloc (.cells #[.int .u8 0, .int .u8 0, .int .u8 0, .int .u8 0, .int .u8 0, .int .u8 0, .int .u8 0, .int .u8 0, .int .u8 0, .int .u8 0, .int .u8 0, .int .u8 0, .int .u8 0, .int .u8 0, .int .u8 0, .int .u8 0, .int .u8 0, .int .u8 0, .int .u8 0, .int .u8 0, .int .u8 0, .int .u8 0, .int .u8 0, .int .u8 0, .int .u8 0, .int .u8 0, .int .u8 0, .int .u8 0, .int .u8 0, .int .u8 0, .int .u8 0, .int .u8 0] 22)) w1.heap.size 0 := by rw [zero_numA]; exact at_new w1 0
  have QB2 := QB1.alloc QB1.size (.cells #[.int .u8 0, .int .u8 0, .int .u8 0, .int .u8 0, .int .u8 0, .int .u8 0, .int .u8 0, .int .u8 0, .int .u8 0, .int .u8 0, .int .u8 0, .int .u8 0, .int .u8 0, .int .u8 0, .int .u8 0, .int .u8 0, .int .u8 0, .int .u8 0, .int .u8 0, .int .u8 0, .int .u8 0, .int .u8 0, .int .u8 0, .int .u8 0, .int .u8 0, .int .u8 0, .int .u8 0, .int .u8 0, .int .u8 0, .int .u8 0, .int .u8 0, .int .u8 0] 22)
  have hg7 : w.heap.size ≤ w1.heap.size := QB1.size
  have hk7 : w.heap.size ≠ w1.heap.size := Nat.ne_of_lt Ak1.lt
  have hu7 : w.heap.size + 1 ≠ w1.heap.size := Nat.ne_of_lt Au1.lt
  clear Ak1 Au1 QB1
  have Ak := Ak2
  have Au := Au2
  have As := A0
  have QBs := QB2
  clear Ak2 Au2 A0 QB2 R2
  go_wp2_with (first | (refine wpList_get rfl (.tmp 3) rfl _ k rfl Ak ?_) | (refine wpList_get rfl (.tmp 7) rfl _ 0 rfl As ?_))
  have hc := Shared_any k 0 (w1.alloc (.cells #[.int .u8 0, .int .u8 0, .int .u8 0, .int .u8 0, .int .u8 0, .int .u8 0, .int .u8 0, .int .u8 0, .int .u8 0, .int .u8 0, .int .u8 0, .int .u8 0, .int .u8 0, .int .u8 0, .int .u8 0, .int .u8 0, .int .u8 0, .int .u8 0, .int .u8 0, .int .u8 0, .int .u8 0, .int .u8 0, .int .u8 0, .int .u8 0, .int .u8 0, .int .u8 0, .int .u8 0, .int .u8 0, .int .u8 0, .int .u8 0, .int .u8 0, .int .u8 0] 22)) LK.out (by decide) (PrimeAt.below HP.out QBs)
  rw [ZX.out, show (!decide (0 % 57896044618658097711785492504343953926634992332820282019728792003956564819949 = 0)) = false from by decide] at hc
  refine hc.mono ?_
  clear hc
  rintro e w4 ⟨rfl, hb4⟩
  have Ak4 := Ak.under hb4
  have Au4 := Au.under hb4
  have QB4 := QBs.trans (hb4.mono QBs.size)
  clear Ak Au As QBs hb4
  go_wp2_with (first | (refine wpList_put rfl (.tmp 8) (.tmp 27) rfl _ 0 rfl rfl (room_top _ _ rfl) ?_))
  intro w5 F8 P5
  have Ak := P5.at (Ak4.alloc _) (Nat.ne_of_lt Ak4.lt)
  have Au := P5.at (Au4.alloc _) (Nat.ne_of_lt Au4.lt)
  have QB5 : Below w.heap.size w w5 := (QB4.alloc QB4.size _).trans (P5.below QB4.size)
  clear P5 Ak4 Au4 QB4
  generalize w4.heap.size = g8 at *
  go_wp2_with (first | (refine wpList_get rfl (.tmp 3) rfl _ k rfl Ak ?_) | (refine wpList_get rfl (.tmp 4) rfl _ u rfl Au ?_))
  have hc := X_any k u w5 LK.out LU.out (PrimeAt.below HP.out QB5)
  rw [← EX.out] at hc
  refine hc.mono ?_
  clear hc
  rintro e w6 ⟨rfl, hb6⟩
  have F86 := F8.under hb6
  have QB6 := QB5.trans (hb6.mono QB5.size)
  clear Ak Au F8 QB5 hb6
  go_wp2_with (first | (refine wpList_put rfl (.tmp 10) (.tmp 31) rfl _ y rfl rfl (room_top _ _ rfl) ?_))
  intro w7 F10 P7
  have F8 := P7.at (F86.alloc _) (Nat.ne_of_lt F86.lt)
  have QB7 : Below w.heap.size w w7 := (QB6.alloc QB6.size _).trans (P7.below QB6.size)
  have HQ : Kept _ := ⟨QB7⟩
  have HPW := PrimeAt.below HP.out QB7
  clear P7 F86 QB6 QB7
  generalize w6.heap.size = g10 at *
  go_wp2_with fail
  have ly := LY.out
  generalize w7 = wc at *
  obtain ⟨v1, ev1⟩ : ∃ v1, v1 = y % 57896044618658097711785492504343953926634992332820282019728792003956564819949 := ⟨_, rfl⟩
  have lv1 : v1 < 115792089237316195423570985008687907853269984665640564039457584007913129639936 := by rw [ev1]; exact Nat.lt_trans (Nat.mod_lt _ (by decide)) (by decide)
  have C_limb_Reduce_y : ∀ w', Below wc.heap.size wc w' → Calls Tryd.prog 15 [.agg (numA y)].toArray w' fun e w2 => e = .returned (.agg (numA v1)) ∧ Below wc.heap.size wc w2 := fun w' hb => by rw [ev1]; exact (Reduce_any y w' ly).mono fun e w2 hh => ⟨hh.1, hb.trans (hh.2.mono hb.size)⟩
  refine wp_region_quiet (C := fun w' => Below wc.heap.size wc w') (by kernel_rfl) (by kernel_rfl) (Below.drew (Below.refl _ _)) ?_
  refine q_load (by kernel_rfl) 22 _ (g8) 22 (numA 0) (0, 0) _ rfl (by kernel_rfl) (fun w' hb => At.under F8 hb) Tryd.underlying22 rfl (by rw [numA_size]; kernel_rfl) ?_
  simp only [Act.put, List.setIfInBounds_toArray, List.set_cons_succ, List.set_cons_zero]
  refine q_val (by kernel_rfl) (.agg (numA 0)) (fun w' => by kernel_rfl) ?_
  simp only [Act.put, List.setIfInBounds_toArray, List.set_cons_succ, List.set_cons_zero]
  refine q_val (by kernel_rfl) (.bool true) (fun w' => (run_eql_num (t := 22) (e := 5) 0 0 rfl (by kernel_rfl) (by kernel_rfl) (by decide) (by decide) Tryd.underlying22 Tryd.underlying5 sz5 ag5 eqG w').trans (by rw [show decide (0 = 0) = true from decide_eq_true rfl])) ?_
  simp only [Act.put, List.setIfInBounds_toArray, List.set_cons_succ, List.set_cons_zero]
  refine q_val (by kernel_rfl) (.bool true) (fun w' => by kernel_rfl) ?_
  simp only [Act.put, List.setIfInBounds_toArray, List.set_cons_succ, List.set_cons_zero]
  refine q_val (by kernel_rfl) (.bool false) (fun w' => by kernel_rfl) ?_
  simp only [Act.put, List.setIfInBounds_toArray, List.set_cons_succ, List.set_cons_zero]
  refine q_val (by kernel_rfl) (.bool true) (fun w' => by kernel_rfl) ?_
  simp only [Act.put, List.setIfInBounds_toArray, List.set_cons_succ, List.set_cons_zero]
  refine q_val (by kernel_rfl) (.bool true) (fun w' => by kernel_rfl) ?_
  simp only [Act.put, List.setIfInBounds_toArray, List.set_cons_succ, List.set_cons_zero]
  refine q_val (by kernel_rfl) (.bool true) (fun w' => by kernel_rfl) ?_
  simp only [Act.put, List.setIfInBounds_toArray, List.set_cons_succ, List.set_cons_zero]
  refine q_load (by kernel_rfl) 22 _ (g10) 22 (numA y) (0, 0) _ rfl (by kernel_rfl) (fun w' hb => At.under F10 hb) Tryd.underlying22 rfl (by rw [numA_size]; kernel_rfl) ?_
  simp only [Act.put, List.setIfInBounds_toArray, List.set_cons_succ, List.set_cons_zero]
  refine q_call (by kernel_rfl) 15 Tryd.f15 _ _ _ [.agg (numA y)] (.agg (numA v1)) rfl (by kernel_rfl) Tryd.func15 (by kernel_rfl) rfl C_limb_Reduce_y ?_
  simp only [Act.put, List.setIfInBounds_toArray, List.set_cons_succ, List.set_cons_zero]
  refine q_load (by kernel_rfl) 22 _ (g10) 22 (numA y) (0, 0) _ rfl (by kernel_rfl) (fun w' hb => At.under F10 hb) Tryd.underlying22 rfl (by rw [numA_size]; kernel_rfl) ?_
  simp only [Act.put, List.setIfInBounds_toArray, List.set_cons_succ, List.set_cons_zero]
  refine q_val (by kernel_rfl) (.bool true) (fun w' => (run_eql_num (t := 22) (e := 5) v1 y rfl (by kernel_rfl) (by kernel_rfl) lv1 ly Tryd.underlying22 Tryd.underlying5 sz5 ag5 eqG w').trans (by rw [show decide (v1 = y) = true from decide_eq_true (by rw [ev1]; exact EY.out)])) ?_
  simp only [Act.put, List.setIfInBounds_toArray, List.set_cons_succ, List.set_cons_zero]
  refine q_val (by kernel_rfl) (.bool true) (fun w' => by kernel_rfl) ?_
  simp only [Act.put, List.setIfInBounds_toArray, List.set_cons_succ, List.set_cons_zero]
  refine q_val (by kernel_rfl) (.bool true) (fun w' => by kernel_rfl) ?_
  simp only [Act.put, List.setIfInBounds_toArray, List.set_cons_succ, List.set_cons_zero]
  refine wpQuiet_nil ?_
  intro w9 h9
  have H9 : Kept _ := ⟨h9⟩
  clear h9 F8 F10 HPW ly C_limb_Reduce_y ev1 lv1
  go_wp2_with fail
  go_ret
  exact ⟨rfl, HQ.out.trans (Below.mono H9.out HQ.out.size)⟩

set_option maxHeartbeats 1000000 in
theorem small_1 (k u m : Nat) (w : World) (lk : k < 115792089237316195423570985008687907853269984665640564039457584007913129639936) (lu : u < 115792089237316195423570985008687907853269984665640564039457584007913129639936) (hm : m < 256) (hp : PrimeAt w) (h : m % 3 = 1) :
    Calls Tryd.prog 10 #[.agg (numA k), .agg (numA u), .int .u8 (m : Int)] w fun e w' => e = .returned (.bool true) ∧ Below w.heap.size w w' := by
  have LK : Kept _ := ⟨lk⟩
  have LU : Kept _ := ⟨lu⟩
  have HP : Kept _ := ⟨hp⟩
  obtain ⟨y, hy⟩ : ∃ y, y = XN k u := ⟨_, rfl⟩
  have EX : Kept (y = XN k u) := ⟨hy⟩
  have LY : Kept (y < 115792089237316195423570985008687907853269984665640564039457584007913129639936) := ⟨by rw [hy]; exact XN_lt _ _⟩
  have EY : Kept (y % 57896044618658097711785492504343953926634992332820282019728792003956564819949 = y) := ⟨by rw [hy]; exact Nat.mod_eq_of_lt (XN_ltp _ _)⟩
  clear lk lu hp hy
  have ZX : Kept (XN k 1 = 0) := ⟨small_one k 1 (by kernel_rfl) phi_one⟩
  have e1 : (((m : Int) % 3) == 1) = true := by rw [beq_iff_eq]; omega
  go_enter Tryd.func10, Tryd.ntmps10
  go_wp2_with fail
  generalize hW : (w.alloc (.cells (numA k) 22)).alloc (.cells (numA u) 22) = W
  obtain ⟨Ak0, Au0, QB0⟩ := two_nums w k u W hW
  clear hW
  refine (alive2_any _ (PrimeAt.below HP.out QB0)).mono ?_
  rintro e w1 ⟨rfl, hb1⟩
  have Ak1 := Ak0.under hb1
  have Au1 := Au0.under hb1
  have QB1 := QB0.trans (hb1.mono QB0.size)
  clear Ak0 Au0 QB0 hb1
  have Ak2 := Ak1.alloc (.cells #[.int .u8 0, .int .u8 0, .int .u8 0, .int .u8 0, .int .u8 0, .int .u8 0, .int .u8 0, .int .u8 0, .int .u8 0, .int .u8 0, .int .u8 0, .int .u8 0, .int .u8 0, .int .u8 0, .int .u8 0, .int .u8 0, .int .u8 0, .int .u8 0, .int .u8 0, .int .u8 0, .int .u8 0, .int .u8 0, .int .u8 0, .int .u8 0, .int .u8 0, .int .u8 0, .int .u8 0, .int .u8 0, .int .u8 0, .int .u8 0, .int .u8 0, .int .u8 0] 22)
  have Au2 := Au1.alloc (.cells #[.int .u8 0, .int .u8 0, .int .u8 0, .int .u8 0, .int .u8 0, .int .u8 0, .int .u8 0, .int .u8 0, .int .u8 0, .int .u8 0, .int .u8 0, .int .u8 0, .int .u8 0, .int .u8 0, .int .u8 0, .int .u8 0, .int .u8 0, .int .u8 0, .int .u8 0, .int .u8 0, .int .u8 0, .int .u8 0, .int .u8 0, .int .u8 0, .int .u8 0, .int .u8 0, .int .u8 0, .int .u8 0, .int .u8 0, .int .u8 0, .int .u8 0, .int .u8 0] 22)
  have R2 := room_new w1
  have A0 : At (w1.alloc (.cells #[.int .u8 0, .int .u8 0, .int .u8 0, .int .u8 0, .int .u8 0, .int .u8 0, .int .u8 0, .int .u8 0, .int .u8 0, .int .u8 0, .int .u8 0, .int .u8 0, .int .u8 0, .int .u8 0, .int .u8 0, .int .u8 0, .int .u8 0, .int .u8 0, .int .u8 0, .int .u8 0, .int .u8 0, .int .u8 0, .int .u8 0, .int .u8 0, .int .u8 0, .int .u8 0, .int .u8 0, .int .u8 0, .int .u8 0, .int .u8 0, .int .u8 0, .int .u8 0] 22)) w1.heap.size 0 := by rw [zero_numA]; exact at_new w1 0
  have QB2 := QB1.alloc QB1.size (.cells #[.int .u8 0, .int .u8 0, .int .u8 0, .int .u8 0, .int .u8 0, .int .u8 0, .int .u8 0, .int .u8 0, .int .u8 0, .int .u8 0, .int .u8 0, .int .u8 0, .int .u8 0, .int .u8 0, .int .u8 0, .int .u8 0, .int .u8 0, .int .u8 0, .int .u8 0, .int .u8 0, .int .u8 0, .int .u8 0, .int .u8 0, .int .u8 0, .int .u8 0, .int .u8 0, .int .u8 0, .int .u8 0, .int .u8 0, .int .u8 0, .int .u8 0, .int .u8 0] 22)
  have hg7 : w.heap.size ≤ w1.heap.size := QB1.size
  have hk7 : w.heap.size ≠ w1.heap.size := Nat.ne_of_lt Ak1.lt
  have hu7 : w.heap.size + 1 ≠ w1.heap.size := Nat.ne_of_lt Au1.lt
  clear Ak1 Au1 QB1
  go_wp2_with (first | (refine wpList_setbyte rfl (.tmp 17) (.const (.int .u8 1)) rfl _ 0 1 rfl rfl #[.int .u8 0, .int .u8 0, .int .u8 0, .int .u8 0, .int .u8 0, .int .u8 0, .int .u8 0, .int .u8 0, .int .u8 0, .int .u8 0, .int .u8 0, .int .u8 0, .int .u8 0, .int .u8 0, .int .u8 0, .int .u8 0, .int .u8 0, .int .u8 0, .int .u8 0, .int .u8 0, .int .u8 0, .int .u8 0, .int .u8 0, .int .u8 0, .int .u8 0, .int .u8 0, .int .u8 0, .int .u8 0, .int .u8 0, .int .u8 0, .int .u8 0, .int .u8 0] (heap_new w1 _) (by decide) ?_))
  intro ws As' P2
  rw [one_numA] at As'
  have As : At ws w1.heap.size 1 := As'
  have Ak := P2.at Ak2 hk7
  have Au := P2.at Au2 hu7
  have QBs : Below w.heap.size w ws := QB2.trans (P2.below hg7)
  clear Ak2 Au2 A0 QB2 R2 P2 As'
  go_wp2_with (first | (refine wpList_get rfl (.tmp 3) rfl _ k rfl Ak ?_) | (refine wpList_get rfl (.tmp 7) rfl _ 1 rfl As ?_))
  have hc := Shared_any k 1 (ws) LK.out (by decide) (PrimeAt.below HP.out QBs)
  rw [ZX.out, show (!decide (0 % 57896044618658097711785492504343953926634992332820282019728792003956564819949 = 0)) = false from by decide] at hc
  refine hc.mono ?_
  clear hc
  rintro e w4 ⟨rfl, hb4⟩
  have Ak4 := Ak.under hb4
  have Au4 := Au.under hb4
  have QB4 := QBs.trans (hb4.mono QBs.size)
  clear Ak Au As QBs hb4
  go_wp2_with (first | (refine wpList_put rfl (.tmp 8) (.tmp 27) rfl _ 0 rfl rfl (room_top _ _ rfl) ?_))
  intro w5 F8 P5
  have Ak := P5.at (Ak4.alloc _) (Nat.ne_of_lt Ak4.lt)
  have Au := P5.at (Au4.alloc _) (Nat.ne_of_lt Au4.lt)
  have QB5 : Below w.heap.size w w5 := (QB4.alloc QB4.size _).trans (P5.below QB4.size)
  clear P5 Ak4 Au4 QB4
  generalize w4.heap.size = g8 at *
  go_wp2_with (first | (refine wpList_get rfl (.tmp 3) rfl _ k rfl Ak ?_) | (refine wpList_get rfl (.tmp 4) rfl _ u rfl Au ?_))
  have hc := X_any k u w5 LK.out LU.out (PrimeAt.below HP.out QB5)
  rw [← EX.out] at hc
  refine hc.mono ?_
  clear hc
  rintro e w6 ⟨rfl, hb6⟩
  have F86 := F8.under hb6
  have QB6 := QB5.trans (hb6.mono QB5.size)
  clear Ak Au F8 QB5 hb6
  go_wp2_with (first | (refine wpList_put rfl (.tmp 10) (.tmp 31) rfl _ y rfl rfl (room_top _ _ rfl) ?_))
  intro w7 F10 P7
  have F8 := P7.at (F86.alloc _) (Nat.ne_of_lt F86.lt)
  have QB7 : Below w.heap.size w w7 := (QB6.alloc QB6.size _).trans (P7.below QB6.size)
  have HQ : Kept _ := ⟨QB7⟩
  have HPW := PrimeAt.below HP.out QB7
  clear P7 F86 QB6 QB7
  generalize w6.heap.size = g10 at *
  go_wp2_with fail
  have ly := LY.out
  generalize w7 = wc at *
  obtain ⟨v1, ev1⟩ : ∃ v1, v1 = y % 57896044618658097711785492504343953926634992332820282019728792003956564819949 := ⟨_, rfl⟩
  have lv1 : v1 < 115792089237316195423570985008687907853269984665640564039457584007913129639936 := by rw [ev1]; exact Nat.lt_trans (Nat.mod_lt _ (by decide)) (by decide)
  have C_limb_Reduce_y : ∀ w', Below wc.heap.size wc w' → Calls Tryd.prog 15 [.agg (numA y)].toArray w' fun e w2 => e = .returned (.agg (numA v1)) ∧ Below wc.heap.size wc w2 := fun w' hb => by rw [ev1]; exact (Reduce_any y w' ly).mono fun e w2 hh => ⟨hh.1, hb.trans (hh.2.mono hb.size)⟩
  refine wp_region_quiet (C := fun w' => Below wc.heap.size wc w') (by kernel_rfl) (by kernel_rfl) (Below.drew (Below.refl _ _)) ?_
  refine q_load (by kernel_rfl) 22 _ (g8) 22 (numA 0) (0, 0) _ rfl (by kernel_rfl) (fun w' hb => At.under F8 hb) Tryd.underlying22 rfl (by rw [numA_size]; kernel_rfl) ?_
  simp only [Act.put, List.setIfInBounds_toArray, List.set_cons_succ, List.set_cons_zero]
  refine q_val (by kernel_rfl) (.agg (numA 0)) (fun w' => by kernel_rfl) ?_
  simp only [Act.put, List.setIfInBounds_toArray, List.set_cons_succ, List.set_cons_zero]
  refine q_val (by kernel_rfl) (.bool true) (fun w' => (run_eql_num (t := 22) (e := 5) 0 0 rfl (by kernel_rfl) (by kernel_rfl) (by decide) (by decide) Tryd.underlying22 Tryd.underlying5 sz5 ag5 eqG w').trans (by rw [show decide (0 = 0) = true from decide_eq_true rfl])) ?_
  simp only [Act.put, List.setIfInBounds_toArray, List.set_cons_succ, List.set_cons_zero]
  refine q_val (by kernel_rfl) (.bool true) (fun w' => by kernel_rfl) ?_
  simp only [Act.put, List.setIfInBounds_toArray, List.set_cons_succ, List.set_cons_zero]
  refine q_val (by kernel_rfl) (.bool false) (fun w' => by kernel_rfl) ?_
  simp only [Act.put, List.setIfInBounds_toArray, List.set_cons_succ, List.set_cons_zero]
  refine q_val (by kernel_rfl) (.bool true) (fun w' => by kernel_rfl) ?_
  simp only [Act.put, List.setIfInBounds_toArray, List.set_cons_succ, List.set_cons_zero]
  refine q_val (by kernel_rfl) (.bool true) (fun w' => by kernel_rfl) ?_
  simp only [Act.put, List.setIfInBounds_toArray, List.set_cons_succ, List.set_cons_zero]
  refine q_val (by kernel_rfl) (.bool true) (fun w' => by kernel_rfl) ?_
  simp only [Act.put, List.setIfInBounds_toArray, List.set_cons_succ, List.set_cons_zero]
  refine q_load (by kernel_rfl) 22 _ (g10) 22 (numA y) (0, 0) _ rfl (by kernel_rfl) (fun w' hb => At.under F10 hb) Tryd.underlying22 rfl (by rw [numA_size]; kernel_rfl) ?_
  simp only [Act.put, List.setIfInBounds_toArray, List.set_cons_succ, List.set_cons_zero]
  refine q_call (by kernel_rfl) 15 Tryd.f15 _ _ _ [.agg (numA y)] (.agg (numA v1)) rfl (by kernel_rfl) Tryd.func15 (by kernel_rfl) rfl C_limb_Reduce_y ?_
  simp only [Act.put, List.setIfInBounds_toArray, List.set_cons_succ, List.set_cons_zero]
  refine q_load (by kernel_rfl) 22 _ (g10) 22 (numA y) (0, 0) _ rfl (by kernel_rfl) (fun w' hb => At.under F10 hb) Tryd.underlying22 rfl (by rw [numA_size]; kernel_rfl) ?_
  simp only [Act.put, List.setIfInBounds_toArray, List.set_cons_succ, List.set_cons_zero]
  refine q_val (by kernel_rfl) (.bool true) (fun w' => (run_eql_num (t := 22) (e := 5) v1 y rfl (by kernel_rfl) (by kernel_rfl) lv1 ly Tryd.underlying22 Tryd.underlying5 sz5 ag5 eqG w').trans (by rw [show decide (v1 = y) = true from decide_eq_true (by rw [ev1]; exact EY.out)])) ?_
  simp only [Act.put, List.setIfInBounds_toArray, List.set_cons_succ, List.set_cons_zero]
  refine q_val (by kernel_rfl) (.bool true) (fun w' => by kernel_rfl) ?_
  simp only [Act.put, List.setIfInBounds_toArray, List.set_cons_succ, List.set_cons_zero]
  refine q_val (by kernel_rfl) (.bool true) (fun w' => by kernel_rfl) ?_
  simp only [Act.put, List.setIfInBounds_toArray, List.set_cons_succ, List.set_cons_zero]
  refine wpQuiet_nil ?_
  intro w9 h9
  have H9 : Kept _ := ⟨h9⟩
  clear h9 F8 F10 HPW ly C_limb_Reduce_y ev1 lv1
  go_wp2_with fail
  go_ret
  exact ⟨rfl, HQ.out.trans (Below.mono H9.out HQ.out.size)⟩

set_option maxHeartbeats 1000000 in
theorem small_2 (k u m : Nat) (w : World) (lk : k < 115792089237316195423570985008687907853269984665640564039457584007913129639936) (lu : u < 115792089237316195423570985008687907853269984665640564039457584007913129639936) (hm : m < 256) (hp : PrimeAt w) (h : m % 3 = 2) :
    Calls Tryd.prog 10 #[.agg (numA k), .agg (numA u), .int .u8 (m : Int)] w fun e w' => e = .returned (.bool true) ∧ Below w.heap.size w w' := by
  have LK : Kept _ := ⟨lk⟩
  have LU : Kept _ := ⟨lu⟩
  have HP : Kept _ := ⟨hp⟩
  obtain ⟨y, hy⟩ : ∃ y, y = XN k u := ⟨_, rfl⟩
  have EX : Kept (y = XN k u) := ⟨hy⟩
  have LY : Kept (y < 115792089237316195423570985008687907853269984665640564039457584007913129639936) := ⟨by rw [hy]; exact XN_lt _ _⟩
  have EY : Kept (y % 57896044618658097711785492504343953926634992332820282019728792003956564819949 = y) := ⟨by rw [hy]; exact Nat.mod_eq_of_lt (XN_ltp _ _)⟩
  clear lk lu hp hy
  have ZX : Kept (XN k 57896044618658097711785492504343953926634992332820282019728792003956564819948 = 0) := ⟨small_one k 57896044618658097711785492504343953926634992332820282019728792003956564819948 (by kernel_rfl) phi_opp⟩
  have e1 : (((m : Int) % 3) == 1) = false := by rw [beq_eq_false_iff_ne]; omega
  have e2 : (((m : Int) % 3) == 2) = true := by rw [beq_iff_eq]; omega
  go_enter Tryd.func10, Tryd.ntmps10
  go_wp2_with fail
  generalize hW : (w.alloc (.cells (numA k) 22)).alloc (.cells (numA u) 22) = W
  obtain ⟨Ak0, Au0, QB0⟩ := two_nums w k u W hW
  clear hW
  refine (alive2_any _ (PrimeAt.below HP.out QB0)).mono ?_
  rintro e w1 ⟨rfl, hb1⟩
  have Ak1 := Ak0.under hb1
  have Au1 := Au0.under hb1
  have QB1 := QB0.trans (hb1.mono QB0.size)
  clear Ak0 Au0 QB0 hb1
  have Ak2 := Ak1.alloc (.cells #[.int .u8 0, .int .u8 0, .int .u8 0, .int .u8 0, .int .u8 0, .int .u8 0, .int .u8 0, .int .u8 0, .int .u8 0, .int .u8 0, .int .u8 0, .int .u8 0, .int .u8 0, .int .u8 0, .int .u8 0, .int .u8 0, .int .u8 0, .int .u8 0, .int .u8 0, .int .u8 0, .int .u8 0, .int .u8 0, .int .u8 0, .int .u8 0, .int .u8 0, .int .u8 0, .int .u8 0, .int .u8 0, .int .u8 0, .int .u8 0, .int .u8 0, .int .u8 0] 22)
  have Au2 := Au1.alloc (.cells #[.int .u8 0, .int .u8 0, .int .u8 0, .int .u8 0, .int .u8 0, .int .u8 0, .int .u8 0, .int .u8 0, .int .u8 0, .int .u8 0, .int .u8 0, .int .u8 0, .int .u8 0, .int .u8 0, .int .u8 0, .int .u8 0, .int .u8 0, .int .u8 0, .int .u8 0, .int .u8 0, .int .u8 0, .int .u8 0, .int .u8 0, .int .u8 0, .int .u8 0, .int .u8 0, .int .u8 0, .int .u8 0, .int .u8 0, .int .u8 0, .int .u8 0, .int .u8 0] 22)
  have R2 := room_new w1
  have A0 : At (w1.alloc (.cells #[.int .u8 0, .int .u8 0, .int .u8 0, .int .u8 0, .int .u8 0, .int .u8 0, .int .u8 0, .int .u8 0, .int .u8 0, .int .u8 0, .int .u8 0, .int .u8 0, .int .u8 0, .int .u8 0, .int .u8 0, .int .u8 0, .int .u8 0, .int .u8 0, .int .u8 0, .int .u8 0, .int .u8 0, .int .u8 0, .int .u8 0, .int .u8 0, .int .u8 0, .int .u8 0, .int .u8 0, .int .u8 0, .int .u8 0, .int .u8 0, .int .u8 0, .int .u8 0] 22)) w1.heap.size 0 := by rw [zero_numA]; exact at_new w1 0
  have QB2 := QB1.alloc QB1.size (.cells #[.int .u8 0, .int .u8 0, .int .u8 0, .int .u8 0, .int .u8 0, .int .u8 0, .int .u8 0, .int .u8 0, .int .u8 0, .int .u8 0, .int .u8 0, .int .u8 0, .int .u8 0, .int .u8 0, .int .u8 0, .int .u8 0, .int .u8 0, .int .u8 0, .int .u8 0, .int .u8 0, .int .u8 0, .int .u8 0, .int .u8 0, .int .u8 0, .int .u8 0, .int .u8 0, .int .u8 0, .int .u8 0, .int .u8 0, .int .u8 0, .int .u8 0, .int .u8 0] 22)
  have hg7 : w.heap.size ≤ w1.heap.size := QB1.size
  have hk7 : w.heap.size ≠ w1.heap.size := Nat.ne_of_lt Ak1.lt
  have hu7 : w.heap.size + 1 ≠ w1.heap.size := Nat.ne_of_lt Au1.lt
  clear Ak1 Au1 QB1
  go_wp2_with (first | (refine l_build0 rfl rfl ?_; simp only [Act.put, List.setIfInBounds_toArray, List.set_cons_succ, List.set_cons_zero]) | (refine l_build rfl 1 1 rfl rfl b1 ?_; simp only [Act.put, List.setIfInBounds_toArray, List.set_cons_succ, List.set_cons_zero]))
  have hc := Sub_any 0 1 (w1.alloc (.cells #[.int .u8 0, .int .u8 0, .int .u8 0, .int .u8 0, .int .u8 0, .int .u8 0, .int .u8 0, .int .u8 0, .int .u8 0, .int .u8 0, .int .u8 0, .int .u8 0, .int .u8 0, .int .u8 0, .int .u8 0, .int .u8 0, .int .u8 0, .int .u8 0, .int .u8 0, .int .u8 0, .int .u8 0, .int .u8 0, .int .u8 0, .int .u8 0, .int .u8 0, .int .u8 0, .int .u8 0, .int .u8 0, .int .u8 0, .int .u8 0, .int .u8 0, .int .u8 0] 22)) (by decide) (by decide) (PrimeAt.below HP.out QB2)
  rw [show (0 + (57896044618658097711785492504343953926634992332820282019728792003956564819949 - 1 % 57896044618658097711785492504343953926634992332820282019728792003956564819949)) % 57896044618658097711785492504343953926634992332820282019728792003956564819949 = 57896044618658097711785492504343953926634992332820282019728792003956564819948 from by decide] at hc
  refine hc.mono ?_
  clear hc
  rintro e w2 ⟨rfl, hb2⟩
  have Ak3 := Ak2.under hb2
  have Au3 := Au2.under hb2
  have R3 := R2.under hb2
  have QB3 := QB2.trans (hb2.mono QB2.size)
  clear Ak2 Au2 A0 QB2 R2 hb2
  go_wp2_with (first | (refine wpList_put rfl (.tmp 7) (.tmp 22) rfl _ 57896044618658097711785492504343953926634992332820282019728792003956564819948 rfl rfl R3 ?_))
  intro ws As P3
  have Ak := P3.at Ak3 hk7
  have Au := P3.at Au3 hu7
  have QBs : Below w.heap.size w ws := QB3.trans (P3.below hg7)
  clear Ak3 Au3 QB3 R3 P3
  go_wp2_with (first | (refine wpList_get rfl (.tmp 3) rfl _ k rfl Ak ?_) | (refine wpList_get rfl (.tmp 7) rfl _ 57896044618658097711785492504343953926634992332820282019728792003956564819948 rfl As ?_))
  have hc := Shared_any k 57896044618658097711785492504343953926634992332820282019728792003956564819948 (ws) LK.out (by decide) (PrimeAt.below HP.out QBs)
  rw [ZX.out, show (!decide (0 % 57896044618658097711785492504343953926634992332820282019728792003956564819949 = 0)) = false from by decide] at hc
  refine hc.mono ?_
  clear hc
  rintro e w4 ⟨rfl, hb4⟩
  have Ak4 := Ak.under hb4
  have Au4 := Au.under hb4
  have QB4 := QBs.trans (hb4.mono QBs.size)
  clear Ak Au As QBs hb4
  go_wp2_with (first | (refine wpList_put rfl (.tmp 8) (.tmp 27) rfl _ 0 rfl rfl (room_top _ _ rfl) ?_))
  intro w5 F8 P5
  have Ak := P5.at (Ak4.alloc _) (Nat.ne_of_lt Ak4.lt)
  have Au := P5.at (Au4.alloc _) (Nat.ne_of_lt Au4.lt)
  have QB5 : Below w.heap.size w w5 := (QB4.alloc QB4.size _).trans (P5.below QB4.size)
  clear P5 Ak4 Au4 QB4
  generalize w4.heap.size = g8 at *
  go_wp2_with (first | (refine wpList_get rfl (.tmp 3) rfl _ k rfl Ak ?_) | (refine wpList_get rfl (.tmp 4) rfl _ u rfl Au ?_))
  have hc := X_any k u w5 LK.out LU.out (PrimeAt.below HP.out QB5)
  rw [← EX.out] at hc
  refine hc.mono ?_
  clear hc
  rintro e w6 ⟨rfl, hb6⟩
  have F86 := F8.under hb6
  have QB6 := QB5.trans (hb6.mono QB5.size)
  clear Ak Au F8 QB5 hb6
  go_wp2_with (first | (refine wpList_put rfl (.tmp 10) (.tmp 31) rfl _ y rfl rfl (room_top _ _ rfl) ?_))
  intro w7 F10 P7
  have F8 := P7.at (F86.alloc _) (Nat.ne_of_lt F86.lt)
  have QB7 : Below w.heap.size w w7 := (QB6.alloc QB6.size _).trans (P7.below QB6.size)
  have HQ : Kept _ := ⟨QB7⟩
  have HPW := PrimeAt.below HP.out QB7
  clear P7 F86 QB6 QB7
  generalize w6.heap.size = g10 at *
  go_wp2_with fail
  have ly := LY.out
  generalize w7 = wc at *
  obtain ⟨v1, ev1⟩ : ∃ v1, v1 = y % 57896044618658097711785492504343953926634992332820282019728792003956564819949 := ⟨_, rfl⟩
  have lv1 : v1 < 115792089237316195423570985008687907853269984665640564039457584007913129639936 := by rw [ev1]; exact Nat.lt_trans (Nat.mod_lt _ (by decide)) (by decide)
  have C_limb_Reduce_y : ∀ w', Below wc.heap.size wc w' → Calls Tryd.prog 15 [.agg (numA y)].toArray w' fun e w2 => e = .returned (.agg (numA v1)) ∧ Below wc.heap.size wc w2 := fun w' hb => by rw [ev1]; exact (Reduce_any y w' ly).mono fun e w2 hh => ⟨hh.1, hb.trans (hh.2.mono hb.size)⟩
  refine wp_region_quiet (C := fun w' => Below wc.heap.size wc w') (by kernel_rfl) (by kernel_rfl) (Below.drew (Below.refl _ _)) ?_
  refine q_load (by kernel_rfl) 22 _ (g8) 22 (numA 0) (0, 0) _ rfl (by kernel_rfl) (fun w' hb => At.under F8 hb) Tryd.underlying22 rfl (by rw [numA_size]; kernel_rfl) ?_
  simp only [Act.put, List.setIfInBounds_toArray, List.set_cons_succ, List.set_cons_zero]
  refine q_val (by kernel_rfl) (.agg (numA 0)) (fun w' => by kernel_rfl) ?_
  simp only [Act.put, List.setIfInBounds_toArray, List.set_cons_succ, List.set_cons_zero]
  refine q_val (by kernel_rfl) (.bool true) (fun w' => (run_eql_num (t := 22) (e := 5) 0 0 rfl (by kernel_rfl) (by kernel_rfl) (by decide) (by decide) Tryd.underlying22 Tryd.underlying5 sz5 ag5 eqG w').trans (by rw [show decide (0 = 0) = true from decide_eq_true rfl])) ?_
  simp only [Act.put, List.setIfInBounds_toArray, List.set_cons_succ, List.set_cons_zero]
  refine q_val (by kernel_rfl) (.bool true) (fun w' => by kernel_rfl) ?_
  simp only [Act.put, List.setIfInBounds_toArray, List.set_cons_succ, List.set_cons_zero]
  refine q_val (by kernel_rfl) (.bool false) (fun w' => by kernel_rfl) ?_
  simp only [Act.put, List.setIfInBounds_toArray, List.set_cons_succ, List.set_cons_zero]
  refine q_val (by kernel_rfl) (.bool true) (fun w' => by kernel_rfl) ?_
  simp only [Act.put, List.setIfInBounds_toArray, List.set_cons_succ, List.set_cons_zero]
  refine q_val (by kernel_rfl) (.bool true) (fun w' => by kernel_rfl) ?_
  simp only [Act.put, List.setIfInBounds_toArray, List.set_cons_succ, List.set_cons_zero]
  refine q_val (by kernel_rfl) (.bool true) (fun w' => by kernel_rfl) ?_
  simp only [Act.put, List.setIfInBounds_toArray, List.set_cons_succ, List.set_cons_zero]
  refine q_load (by kernel_rfl) 22 _ (g10) 22 (numA y) (0, 0) _ rfl (by kernel_rfl) (fun w' hb => At.under F10 hb) Tryd.underlying22 rfl (by rw [numA_size]; kernel_rfl) ?_
  simp only [Act.put, List.setIfInBounds_toArray, List.set_cons_succ, List.set_cons_zero]
  refine q_call (by kernel_rfl) 15 Tryd.f15 _ _ _ [.agg (numA y)] (.agg (numA v1)) rfl (by kernel_rfl) Tryd.func15 (by kernel_rfl) rfl C_limb_Reduce_y ?_
  simp only [Act.put, List.setIfInBounds_toArray, List.set_cons_succ, List.set_cons_zero]
  refine q_load (by kernel_rfl) 22 _ (g10) 22 (numA y) (0, 0) _ rfl (by kernel_rfl) (fun w' hb => At.under F10 hb) Tryd.underlying22 rfl (by rw [numA_size]; kernel_rfl) ?_
  simp only [Act.put, List.setIfInBounds_toArray, List.set_cons_succ, List.set_cons_zero]
  refine q_val (by kernel_rfl) (.bool true) (fun w' => (run_eql_num (t := 22) (e := 5) v1 y rfl (by kernel_rfl) (by kernel_rfl) lv1 ly Tryd.underlying22 Tryd.underlying5 sz5 ag5 eqG w').trans (by rw [show decide (v1 = y) = true from decide_eq_true (by rw [ev1]; exact EY.out)])) ?_
  simp only [Act.put, List.setIfInBounds_toArray, List.set_cons_succ, List.set_cons_zero]
  refine q_val (by kernel_rfl) (.bool true) (fun w' => by kernel_rfl) ?_
  simp only [Act.put, List.setIfInBounds_toArray, List.set_cons_succ, List.set_cons_zero]
  refine q_val (by kernel_rfl) (.bool true) (fun w' => by kernel_rfl) ?_
  simp only [Act.put, List.setIfInBounds_toArray, List.set_cons_succ, List.set_cons_zero]
  refine wpQuiet_nil ?_
  intro w9 h9
  have H9 : Kept _ := ⟨h9⟩
  clear h9 F8 F10 HPW ly C_limb_Reduce_y ev1 lv1
  go_wp2_with fail
  go_ret
  exact ⟨rfl, HQ.out.trans (Below.mono H9.out HQ.out.size)⟩

theorem small_any (k u : Nat) (n : Int) (w : World) (lk : k < 115792089237316195423570985008687907853269984665640564039457584007913129639936) (lu : u < 115792089237316195423570985008687907853269984665640564039457584007913129639936) (hn : (Lit.int .u8 n).wf = true) (hp : PrimeAt w) :
    Calls Tryd.prog 10 #[.agg (numA k), .agg (numA u), .int .u8 n] w fun e w' => e = .returned (.bool true) ∧ Below w.heap.size w w' := by
  have hb := bounds_u8 hn
  obtain ⟨m, rfl⟩ := Int.eq_ofNat_of_zero_le hb.1
  rcases (show m % 3 = 0 ∨ m % 3 = 1 ∨ m % 3 = 2 by omega) with h | h | h
  · exact small_0 k u m w lk lu (by omega) hp h
  · exact small_1 k u m w lk lu (by omega) hp h
  · exact small_2 k u m w lk lu (by omega) hp h
end Go.Proofs.YtjagicnkfmndeaaDoor
