/-
  What LadderReduced answers: true, whatever the secret and the point are.
-/
import Derived.Test.YtjagicnkfmndeaaDoorD8
import Derived.Test.YtjagicnkfmndeaaDoorL1
namespace Go.Proofs.YtjagicnkfmndeaaDoor
open Go Go.RowKit
set_option linter.unusedVariables false
set_option linter.unusedSimpArgs false

theorem lowN_eq (n : Nat) (hn : n < 115792089237316195423570985008687907853269984665640564039457584007913129639936) : lowN n = n % 57896044618658097711785492504343953926634992332820282019728792003956564819968 := by unfold lowN comp; omega
theorem XN_same (k u v : Nat) (h : lowN u % 57896044618658097711785492504343953926634992332820282019728792003956564819949 = lowN v % 57896044618658097711785492504343953926634992332820282019728792003956564819949) : XN k u = XN k v := by rw [XN_eq, XN_eq, h]
theorem XN_red (k u : Nat) (hu : u < 115792089237316195423570985008687907853269984665640564039457584007913129639936) : XN k u = XN k (lowN u % 57896044618658097711785492504343953926634992332820282019728792003956564819949) := XN_same k u _ (by
  have h1 : lowN u % 57896044618658097711785492504343953926634992332820282019728792003956564819949 < 57896044618658097711785492504343953926634992332820282019728792003956564819949 := Nat.mod_lt _ (by decide)
  rw [lowN_eq (lowN u % 57896044618658097711785492504343953926634992332820282019728792003956564819949) (by omega), Nat.mod_eq_of_lt (a := lowN u % 57896044618658097711785492504343953926634992332820282019728792003956564819949) (b := 57896044618658097711785492504343953926634992332820282019728792003956564819968) (by omega), Nat.mod_mod])
theorem XN_low (k u : Nat) (hu : u < 115792089237316195423570985008687907853269984665640564039457584007913129639936) : XN k (lowN u) = XN k u := XN_same k _ u (by
  have h1 : lowN u < 57896044618658097711785492504343953926634992332820282019728792003956564819968 := by rw [lowN_eq u hu]; exact Nat.mod_lt _ (by decide)
  rw [lowN_eq (lowN u) (by omega), Nat.mod_eq_of_lt h1])
theorem byte_127 : ∀ x : Fin 256, bits .and .u8 (x.val : Int) 127 = ((x.val % 128 : Nat) : Int) := by decide +kernel

set_option maxHeartbeats 1000000 in
theorem reduced_any (k u : Nat) (w : World) (lk : k < 115792089237316195423570985008687907853269984665640564039457584007913129639936) (lu : u < 115792089237316195423570985008687907853269984665640564039457584007913129639936) (hp : PrimeAt w) :
    Calls Tryd.prog 12 #[.agg (numA k), .agg (numA u)] w fun e w' => e = .returned (.bool true) ∧ Below w.heap.size w w' := by
  have LK : Kept _ := ⟨lk⟩
  have LU : Kept _ := ⟨lu⟩
  have HP : Kept _ := ⟨hp⟩
  obtain ⟨q, hq⟩ : ∃ q, q = lowN u := ⟨_, rfl⟩
  have EQ : Kept (q = lowN u) := ⟨hq⟩
  have LQ : Kept (q < 115792089237316195423570985008687907853269984665640564039457584007913129639936) := ⟨by rw [hq]; exact lowN_lt u⟩
  obtain ⟨y, hy⟩ : ∃ y, y = u / 452312848583266388373324160190187140051835877600158453279131187530910662656 % 256 := ⟨_, rfl⟩
  have g31 : (numA u)[31]? = some (.int .u8 (y : Int)) := by rw [numA_get u 31 (by decide), hy, show (256 : Nat) ^ 31 = 452312848583266388373324160190187140051835877600158453279131187530910662656 from by decide]
  have b31 := byte_127 ⟨y, by omega⟩
  simp only at b31
  have KF : Kept ((numA u).setIfInBounds 31 (.int .u8 ((y % 128 : Nat) : Int)) = numA q) := ⟨by
    rw [numA_top u _ lu (by omega), hq]
    unfold lowN
    congr 2; omega⟩
  have B31 : Kept _ := ⟨b31⟩
  clear lk lu hp hq hy b31
  go_enter Tryd.func12, Tryd.ntmps12
  go_wp2_with fail
  generalize hW : (w.alloc (.cells (numA k) 22)).alloc (.cells (numA u) 22) = W
  obtain ⟨Ak, Au, QB⟩ := two_nums w k u W hW
  clear hW
  refine (alive2_any _ (PrimeAt.below HP.out QB)).mono ?_
  rintro e w1 ⟨rfl, hb1⟩
  have Ak1 := Ak.under hb1
  have Au1 := Au.under hb1
  have QB1 := QB.trans (hb1.mono QB.size)
  clear Ak Au QB hb1
  go_wp2_with (first | (refine wpList_get rfl (.tmp 3) rfl _ u rfl Au1 ?_) | (refine wpList_put rfl (.tmp 5) (.tmp 8) rfl _ u rfl rfl (room_top _ _ rfl) ?_))
  intro w2 A2 P2
  have Ak2 := P2.at (Ak1.alloc _) (Nat.ne_of_lt Ak1.lt)
  have Au2 := P2.at (Au1.alloc _) (Nat.ne_of_lt Au1.lt)
  have QB2 : Below w.heap.size w w2 := (QB1.alloc QB1.size _).trans (P2.below QB1.size)
  have hg1 : w.heap.size ≤ w1.heap.size := QB1.size
  have hg2 : w.heap.size ≠ w1.heap.size := Nat.ne_of_lt Ak1.lt
  have hg3 : w.heap.size + 1 ≠ w1.heap.size := Nat.ne_of_lt Au1.lt
  clear P2 Ak1 Au1 QB1
  generalize w1.heap.size = g5 at *
  go_wp2_with (first | (refine wpList_byte rfl (.tmp 9) rfl _ 31 rfl (numA u) _ A2 g31 ?_) | (refine wpList_setbyte rfl (.tmp 12) (.tmp 11) rfl _ 31 _ rfl rfl (numA u) A2 (by rw [numA_size]; decide) ?_))
  intro w3 A3 P3
  rw [B31.out, KF.out] at A3
  have Fk := P3.at Ak2 hg2
  have Fu := P3.at Au2 hg3
  have Fq : At w3 g5 q := A3
  have QB3 : Below w.heap.size w w3 := QB2.trans (P3.below hg1)
  have HQ : Kept _ := ⟨QB3⟩
  have HPW := PrimeAt.below HP.out QB3
  clear P3 A2 A3 Ak2 Au2 QB2 QB3 g31 B31 KF
  go_wp2_with fail
  have lk := LK.out
  have lu := LU.out
  have lq := LQ.out
  generalize w3 = wc at *
  obtain ⟨v1, ev1⟩ : ∃ v1, v1 = XN k u := ⟨_, rfl⟩
  have lv1 : v1 < 115792089237316195423570985008687907853269984665640564039457584007913129639936 := by rw [ev1]; exact XN_lt _ _
  obtain ⟨v2, ev2⟩ : ∃ v2, v2 = q % 57896044618658097711785492504343953926634992332820282019728792003956564819949 := ⟨_, rfl⟩
  have lv2 : v2 < 115792089237316195423570985008687907853269984665640564039457584007913129639936 := by rw [ev2]; exact Nat.lt_trans (Nat.mod_lt _ (by decide)) (by decide)
  obtain ⟨v3, ev3⟩ : ∃ v3, v3 = XN k v2 := ⟨_, rfl⟩
  have lv3 : v3 < 115792089237316195423570985008687907853269984665640564039457584007913129639936 := by rw [ev3]; exact XN_lt _ _
  obtain ⟨v4, ev4⟩ : ∃ v4, v4 = XN k q := ⟨_, rfl⟩
  have lv4 : v4 < 115792089237316195423570985008687907853269984665640564039457584007913129639936 := by rw [ev4]; exact XN_lt _ _
  have C_ladder_X_k_u : ∀ w', Below wc.heap.size wc w' → Calls Tryd.prog 29 [.agg (numA k), .agg (numA u)].toArray w' fun e w2 => e = .returned (.agg (numA v1)) ∧ Below wc.heap.size wc w2 := fun w' hb => by rw [ev1]; exact (X_any k u w' lk lu (PrimeAt.below HPW hb)).mono fun e w2 hh => ⟨hh.1, hb.trans (hh.2.mono hb.size)⟩
  have C_limb_Reduce_q : ∀ w', Below wc.heap.size wc w' → Calls Tryd.prog 15 [.agg (numA q)].toArray w' fun e w2 => e = .returned (.agg (numA v2)) ∧ Below wc.heap.size wc w2 := fun w' hb => by rw [ev2]; exact (Reduce_any q w' lq).mono fun e w2 hh => ⟨hh.1, hb.trans (hh.2.mono hb.size)⟩
  have C_ladder_X_k_v2 : ∀ w', Below wc.heap.size wc w' → Calls Tryd.prog 29 [.agg (numA k), .agg (numA v2)].toArray w' fun e w2 => e = .returned (.agg (numA v3)) ∧ Below wc.heap.size wc w2 := fun w' hb => by rw [ev3]; exact (X_any k v2 w' lk lv2 (PrimeAt.below HPW hb)).mono fun e w2 hh => ⟨hh.1, hb.trans (hh.2.mono hb.size)⟩
  have C_ladder_X_k_q : ∀ w', Below wc.heap.size wc w' → Calls Tryd.prog 29 [.agg (numA k), .agg (numA q)].toArray w' fun e w2 => e = .returned (.agg (numA v4)) ∧ Below wc.heap.size wc w2 := fun w' hb => by rw [ev4]; exact (X_any k q w' lk lq (PrimeAt.below HPW hb)).mono fun e w2 hh => ⟨hh.1, hb.trans (hh.2.mono hb.size)⟩
  refine wp_region_quiet (C := fun w' => Below wc.heap.size wc w') (by kernel_rfl) (by kernel_rfl) (Below.drew (Below.refl _ _)) ?_
  refine q_load (by kernel_rfl) 22 _ (w.heap.size) 22 (numA k) (0, 0) _ rfl (by kernel_rfl) (fun w' hb => At.under Fk hb) Tryd.underlying22 rfl (by rw [numA_size]; kernel_rfl) ?_
  simp only [Act.put, List.setIfInBounds_toArray, List.set_cons_succ, List.set_cons_zero]
  refine q_load (by kernel_rfl) 22 _ (w.heap.size + 1) 22 (numA u) (0, 0) _ rfl (by kernel_rfl) (fun w' hb => At.under Fu hb) Tryd.underlying22 rfl (by rw [numA_size]; kernel_rfl) ?_
  simp only [Act.put, List.setIfInBounds_toArray, List.set_cons_succ, List.set_cons_zero]
  refine q_call (by kernel_rfl) 29 Tryd.f29 _ _ _ [.agg (numA k), .agg (numA u)] (.agg (numA v1)) rfl (by kernel_rfl) Tryd.func29 (by kernel_rfl) rfl C_ladder_X_k_u ?_
  simp only [Act.put, List.setIfInBounds_toArray, List.set_cons_succ, List.set_cons_zero]
  refine q_load (by kernel_rfl) 22 _ (w.heap.size) 22 (numA k) (0, 0) _ rfl (by kernel_rfl) (fun w' hb => At.under Fk hb) Tryd.underlying22 rfl (by rw [numA_size]; kernel_rfl) ?_
  simp only [Act.put, List.setIfInBounds_toArray, List.set_cons_succ, List.set_cons_zero]
  refine q_load (by kernel_rfl) 22 _ (g5) 22 (numA q) (0, 0) _ rfl (by kernel_rfl) (fun w' hb => At.under Fq hb) Tryd.underlying22 rfl (by rw [numA_size]; kernel_rfl) ?_
  simp only [Act.put, List.setIfInBounds_toArray, List.set_cons_succ, List.set_cons_zero]
  refine q_call (by kernel_rfl) 15 Tryd.f15 _ _ _ [.agg (numA q)] (.agg (numA v2)) rfl (by kernel_rfl) Tryd.func15 (by kernel_rfl) rfl C_limb_Reduce_q ?_
  simp only [Act.put, List.setIfInBounds_toArray, List.set_cons_succ, List.set_cons_zero]
  refine q_call (by kernel_rfl) 29 Tryd.f29 _ _ _ [.agg (numA k), .agg (numA v2)] (.agg (numA v3)) rfl (by kernel_rfl) Tryd.func29 (by kernel_rfl) rfl C_ladder_X_k_v2 ?_
  simp only [Act.put, List.setIfInBounds_toArray, List.set_cons_succ, List.set_cons_zero]
  refine q_val (by kernel_rfl) (.bool true) (fun w' => (run_eql_num (t := 22) (e := 5) v1 v3 rfl (by kernel_rfl) (by kernel_rfl) lv1 lv3 Tryd.underlying22 Tryd.underlying5 sz5 ag5 eqG w').trans (by rw [show decide (v1 = v3) = true from decide_eq_true (by rw [ev1, ev3, ev2, EQ.out]; exact XN_red k u lu)])) ?_
  simp only [Act.put, List.setIfInBounds_toArray, List.set_cons_succ, List.set_cons_zero]
  refine q_val (by kernel_rfl) (.bool true) (fun w' => by kernel_rfl) ?_
  simp only [Act.put, List.setIfInBounds_toArray, List.set_cons_succ, List.set_cons_zero]
  refine q_load (by kernel_rfl) 22 _ (w.heap.size) 22 (numA k) (0, 0) _ rfl (by kernel_rfl) (fun w' hb => At.under Fk hb) Tryd.underlying22 rfl (by rw [numA_size]; kernel_rfl) ?_
  simp only [Act.put, List.setIfInBounds_toArray, List.set_cons_succ, List.set_cons_zero]
  refine q_load (by kernel_rfl) 22 _ (g5) 22 (numA q) (0, 0) _ rfl (by kernel_rfl) (fun w' hb => At.under Fq hb) Tryd.underlying22 rfl (by rw [numA_size]; kernel_rfl) ?_
  simp only [Act.put, List.setIfInBounds_toArray, List.set_cons_succ, List.set_cons_zero]
  refine q_call (by kernel_rfl) 29 Tryd.f29 _ _ _ [.agg (numA k), .agg (numA q)] (.agg (numA v4)) rfl (by kernel_rfl) Tryd.func29 (by kernel_rfl) rfl C_ladder_X_k_q ?_
  simp only [Act.put, List.setIfInBounds_toArray, List.set_cons_succ, List.set_cons_zero]
  refine q_load (by kernel_rfl) 22 _ (w.heap.size) 22 (numA k) (0, 0) _ rfl (by kernel_rfl) (fun w' hb => At.under Fk hb) Tryd.underlying22 rfl (by rw [numA_size]; kernel_rfl) ?_
  simp only [Act.put, List.setIfInBounds_toArray, List.set_cons_succ, List.set_cons_zero]
  refine q_load (by kernel_rfl) 22 _ (w.heap.size + 1) 22 (numA u) (0, 0) _ rfl (by kernel_rfl) (fun w' hb => At.under Fu hb) Tryd.underlying22 rfl (by rw [numA_size]; kernel_rfl) ?_
  simp only [Act.put, List.setIfInBounds_toArray, List.set_cons_succ, List.set_cons_zero]
  refine q_call (by kernel_rfl) 29 Tryd.f29 _ _ _ [.agg (numA k), .agg (numA u)] (.agg (numA v1)) rfl (by kernel_rfl) Tryd.func29 (by kernel_rfl) rfl C_ladder_X_k_u ?_
  simp only [Act.put, List.setIfInBounds_toArray, List.set_cons_succ, List.set_cons_zero]
  refine q_val (by kernel_rfl) (.bool true) (fun w' => (run_eql_num (t := 22) (e := 5) v4 v1 rfl (by kernel_rfl) (by kernel_rfl) lv4 lv1 Tryd.underlying22 Tryd.underlying5 sz5 ag5 eqG w').trans (by rw [show decide (v4 = v1) = true from decide_eq_true (by rw [ev4, ev1, EQ.out]; exact XN_low k u lu)])) ?_
  simp only [Act.put, List.setIfInBounds_toArray, List.set_cons_succ, List.set_cons_zero]
  refine q_val (by kernel_rfl) (.bool true) (fun w' => by kernel_rfl) ?_
  simp only [Act.put, List.setIfInBounds_toArray, List.set_cons_succ, List.set_cons_zero]
  refine q_val (by kernel_rfl) (.bool true) (fun w' => by kernel_rfl) ?_
  simp only [Act.put, List.setIfInBounds_toArray, List.set_cons_succ, List.set_cons_zero]
  refine wpQuiet_nil ?_
  intro w7 h7
  have H7 : Kept _ := ⟨h7⟩
  clear h7 Fk Fu Fq HPW lk lu lq C_ladder_X_k_u C_limb_Reduce_q C_ladder_X_k_v2 C_ladder_X_k_q ev1 ev2 ev3 ev4 lv1 lv2 lv3 lv4
  go_wp2_with fail
  go_ret
  exact ⟨rfl, HQ.out.trans (Below.mono H7.out HQ.out.size)⟩
end Go.Proofs.YtjagicnkfmndeaaDoor
