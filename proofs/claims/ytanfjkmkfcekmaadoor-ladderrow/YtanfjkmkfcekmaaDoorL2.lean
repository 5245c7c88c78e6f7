/-
  What LimbInverts answers: true, whatever the number is.
-/
import Derived.Test.YtanfjkmkfcekmaaDoorS1
import Derived.Test.YtanfjkmkfcekmaaDoorR9
import Derived.Test.YtanfjkmkfcekmaaDoorPrime
namespace Go.Proofs.YtanfjkmkfcekmaaDoor
open Go.RowKit
set_option linter.unusedSimpArgs false
set_option linter.unusedVariables false

theorem inv_prod_zero (a : Nat) (h : a % 57896044618658097711785492504343953926634992332820282019728792003956564819949 = 0) : a * invOf a % 57896044618658097711785492504343953926634992332820282019728792003956564819949 = 0 := by rw [inv_zero a h, Nat.mul_zero]
theorem b0 (w : World) : (Instr.build 22 #[]).run Tryd.prog w = .ok (.agg (numA 0)) w := by kernel_rfl
theorem l_build0 {ops : Array Oper} {Q : Exit → Act → World → Prop} {a : Act} {o : Oper} {rest : List Oper} {w : World} (hg : o.guard = none) (ho : o.op = .build 22 #[]) (h : wpList Tryd.prog ops Q rest (a.put o.dst (.agg (numA 0))) w) : wpList Tryd.prog ops Q (o :: rest) a w :=
  l_val hg _ (by unfold execOp; simp [ho, b0]) h

set_option maxHeartbeats 1000000 in
theorem inverts_any (a : Nat) (w : World) (la : a < 115792089237316195423570985008687907853269984665640564039457584007913129639936) (hp : PrimeAt w) :
    Calls Tryd.prog 4 #[.agg (numA a)] w fun e w' => e = .returned (.bool true) ∧ Below w.heap.size w w' := by
  have LA : Kept _ := ⟨la⟩
  have HP : Kept _ := ⟨hp⟩
  obtain ⟨b, hb⟩ : ∃ b, b = invOf a := ⟨_, rfl⟩
  have KB : Kept (b = invOf a) := ⟨hb⟩
  have LB : Kept (b < 115792089237316195423570985008687907853269984665640564039457584007913129639936) := ⟨by rw [hb]; exact invOf_lt a⟩
  clear la hp hb
  go_enter Tryd.func4, Tryd.ntmps4
  go_wp2_with fail
  generalize hW : w.alloc (.cells (numA a) 22) = W
  have Aa : At W w.heap.size a := by subst hW; exact at_new w a
  have QB : Below w.heap.size w W := by subst hW; exact (Below.refl _ _).alloc (Nat.le_refl _) _
  clear hW
  refine (alive_any _ (PrimeAt.below HP.out QB)).mono ?_
  rintro e w1 ⟨rfl, hb1⟩
  have Aa1 := Aa.under hb1
  have QB1 := QB.trans (hb1.mono QB.size)
  clear Aa QB hb1
  go_wp2_with (first | (refine wpList_get rfl (.tmp 1) rfl _ a rfl Aa1 ?_))
  have hc := Inv_any a w1 LA.out (PrimeAt.below HP.out QB1)
  rw [← KB.out] at hc
  refine hc.mono ?_
  clear hc
  rintro e w2 ⟨rfl, hb2⟩
  have Aa2 := Aa1.under hb2
  have QB2 := QB1.trans (hb2.mono QB1.size)
  clear Aa1 QB1 hb2
  go_wp2_with (first | (refine wpList_put rfl (.tmp 3) (.tmp 8) rfl _ b rfl rfl (room_top _ _ rfl) ?_))
  intro w3 A3 P3
  have Aa3 := P3.at (Aa2.alloc _) (Nat.ne_of_lt Aa2.lt)
  have QB3 : Below w.heap.size w w3 := (QB2.alloc QB2.size _).trans (P3.below QB2.size)
  have hg3 : w.heap.size < w2.heap.size := Aa2.lt
  clear P3 Aa2 QB2
  generalize w2.heap.size = g3 at *
  go_wp2_with (first | (refine l_build rfl 1 1 rfl rfl b1 ?_; simp only [Act.put, List.setIfInBounds_toArray, List.set_cons_succ, List.set_cons_zero]) | (refine wpList_put rfl (.tmp 4) (.tmp 9) rfl _ 1 rfl rfl (room_top _ _ rfl) ?_))
  intro w4 A4 P4
  have Aa4 := P4.at (Aa3.alloc _) (Nat.ne_of_lt Aa3.lt)
  have Ab4 := P4.at (A3.alloc _) (Nat.ne_of_lt A3.lt)
  have QB4 : Below w.heap.size w w4 := (QB3.alloc QB3.size _).trans (P4.below QB3.size)
  have hg4 : g3 < w3.heap.size := A3.lt
  clear P4 Aa3 QB3 A3
  generalize w3.heap.size = g4 at *
  go_wp2_with (first | (refine wpList_get rfl (.tmp 1) rfl _ a rfl Aa4 ?_))
  by_cases za : a % 57896044618658097711785492504343953926634992332820282019728792003956564819949 = 0
  · have hc := Zero_any a w4 LA.out
    rw [decide_eq_true za] at hc
    refine hc.mono ?_
    clear hc
    rintro e w5 ⟨rfl, hb5⟩
    have Aa5 := Aa4.under hb5
    have Ab5 := Ab4.under hb5
    have A5 := A4.under hb5
    have QB5 := QB4.trans (hb5.mono QB4.size)
    clear Aa4 Ab4 A4 QB4 hb5
    have ZA : Kept _ := ⟨za⟩
    clear za
    go_wp2_with (first | (refine l_build0 rfl rfl ?_; simp only [Act.put, List.setIfInBounds_toArray, List.set_cons_succ, List.set_cons_zero]) | (refine wpList_put rfl (.tmp 4) (.tmp 12) rfl _ 0 rfl rfl A5.room ?_))
    intro w6 A6 P6
    have Fa := P6.at Aa5 (by omega)
    have Fb := P6.at Ab5 (by omega)
    have Fw := A6
    have QB6 : Below w.heap.size w w6 := QB5.trans (P6.below (by omega))
    clear P6 Aa5 Ab5 A5 QB5 A6
    go_wp2_with fail
    have za := ZA.out
    have la := LA.out
    have lb := LB.out
    have HPW := PrimeAt.below HP.out QB6
    have HQ : Kept _ := ⟨QB6⟩
    clear QB6
    generalize w6 = wc at *
    obtain ⟨v1, ev1⟩ : ∃ v1, v1 = a * b % 57896044618658097711785492504343953926634992332820282019728792003956564819949 := ⟨_, rfl⟩
    have lv1 : v1 < 115792089237316195423570985008687907853269984665640564039457584007913129639936 := by rw [ev1]; exact Nat.lt_trans (Nat.mod_lt _ (by decide)) (by decide)
    have C_signetringref01_Inv_a : ∀ w', Below wc.heap.size wc w' → Calls Tryd.prog 21 [.agg (numA a)].toArray w' fun e w2 => e = .returned (.agg (numA b)) ∧ Below wc.heap.size wc w2 := fun w' hb => by rw [KB.out]; exact (rInv_any a w' la).mono fun e w2 hh => ⟨hh.1, hb.trans (hh.2.mono hb.size)⟩
    have C_limb_Mul_a_b : ∀ w', Below wc.heap.size wc w' → Calls Tryd.prog 17 [.agg (numA a), .agg (numA b)].toArray w' fun e w2 => e = .returned (.agg (numA v1)) ∧ Below wc.heap.size wc w2 := fun w' hb => by rw [ev1]; exact (Mul_any a b w' la lb).mono fun e w2 hh => ⟨hh.1, hb.trans (hh.2.mono hb.size)⟩
    refine wp_region_quiet (C := fun w' => Below wc.heap.size wc w') (by kernel_rfl) (by kernel_rfl) (Below.drew (Below.refl _ _)) ?_
    refine q_load (by kernel_rfl) 22 _ (g3) 22 (numA b) (0, 0) _ rfl (by kernel_rfl) (fun w' hb => At.under Fb hb) Tryd.underlying22 rfl (by rw [numA_size]; kernel_rfl) ?_
    simp only [Act.put, List.setIfInBounds_toArray, List.set_cons_succ, List.set_cons_zero]
    refine q_load (by kernel_rfl) 22 _ (w.heap.size) 22 (numA a) (0, 0) _ rfl (by kernel_rfl) (fun w' hb => At.under Fa hb) Tryd.underlying22 rfl (by rw [numA_size]; kernel_rfl) ?_
    simp only [Act.put, List.setIfInBounds_toArray, List.set_cons_succ, List.set_cons_zero]
    refine q_call (by kernel_rfl) 21 Tryd.f21 _ _ _ [.agg (numA a)] (.agg (numA b)) rfl (by kernel_rfl) Tryd.func21 (by kernel_rfl) rfl C_signetringref01_Inv_a ?_
    simp only [Act.put, List.setIfInBounds_toArray, List.set_cons_succ, List.set_cons_zero]
    refine q_val (by kernel_rfl) (.bool true) (fun w' => (run_eql_num (t := 22) (e := 5) b b rfl (by kernel_rfl) (by kernel_rfl) lb lb Tryd.underlying22 Tryd.underlying5 sz5 ag5 eqG w').trans (by rw [show decide (b = b) = true from decide_eq_true rfl])) ?_
    simp only [Act.put, List.setIfInBounds_toArray, List.set_cons_succ, List.set_cons_zero]
    refine q_val (by kernel_rfl) (.bool true) (fun w' => by kernel_rfl) ?_
    simp only [Act.put, List.setIfInBounds_toArray, List.set_cons_succ, List.set_cons_zero]
    refine q_load (by kernel_rfl) 22 _ (w.heap.size) 22 (numA a) (0, 0) _ rfl (by kernel_rfl) (fun w' hb => At.under Fa hb) Tryd.underlying22 rfl (by rw [numA_size]; kernel_rfl) ?_
    simp only [Act.put, List.setIfInBounds_toArray, List.set_cons_succ, List.set_cons_zero]
    refine q_load (by kernel_rfl) 22 _ (g3) 22 (numA b) (0, 0) _ rfl (by kernel_rfl) (fun w' hb => At.under Fb hb) Tryd.underlying22 rfl (by rw [numA_size]; kernel_rfl) ?_
    simp only [Act.put, List.setIfInBounds_toArray, List.set_cons_succ, List.set_cons_zero]
    refine q_call (by kernel_rfl) 17 Tryd.f17 _ _ _ [.agg (numA a), .agg (numA b)] (.agg (numA v1)) rfl (by kernel_rfl) Tryd.func17 (by kernel_rfl) rfl C_limb_Mul_a_b ?_
    simp only [Act.put, List.setIfInBounds_toArray, List.set_cons_succ, List.set_cons_zero]
    refine q_load (by kernel_rfl) 22 _ (g4) 22 (numA 0) (0, 0) _ rfl (by kernel_rfl) (fun w' hb => At.under Fw hb) Tryd.underlying22 rfl (by rw [numA_size]; kernel_rfl) ?_
    simp only [Act.put, List.setIfInBounds_toArray, List.set_cons_succ, List.set_cons_zero]
    refine q_val (by kernel_rfl) (.bool true) (fun w' => (run_eql_num (t := 22) (e := 5) v1 0 rfl (by kernel_rfl) (by kernel_rfl) lv1 (by decide) Tryd.underlying22 Tryd.underlying5 sz5 ag5 eqG w').trans (by rw [show decide (v1 = 0) = true from decide_eq_true (by rw [ev1, KB.out]; exact inv_prod_zero a za)])) ?_
    simp only [Act.put, List.setIfInBounds_toArray, List.set_cons_succ, List.set_cons_zero]
    refine q_val (by kernel_rfl) (.bool true) (fun w' => by kernel_rfl) ?_
    simp only [Act.put, List.setIfInBounds_toArray, List.set_cons_succ, List.set_cons_zero]
    refine q_val (by kernel_rfl) (.bool true) (fun w' => by kernel_rfl) ?_
    simp only [Act.put, List.setIfInBounds_toArray, List.set_cons_succ, List.set_cons_zero]
    refine wpQuiet_nil ?_
    intro w5 h5
    have H5 : Kept _ := ⟨h5⟩
    clear h5 C_signetringref01_Inv_a C_limb_Mul_a_b ev1 lv1
    go_wp2_with fail
    go_ret
    exact ⟨rfl, HQ.out.trans (Below.mono H5.out HQ.out.size)⟩
  · have hc := Zero_any a w4 LA.out
    rw [decide_eq_false za] at hc
    refine hc.mono ?_
    clear hc
    rintro e w5 ⟨rfl, hb5⟩
    have Fa := Aa4.under hb5
    have Fb := Ab4.under hb5
    have Fw := A4.under hb5
    have QB6 := QB4.trans (hb5.mono QB4.size)
    clear Aa4 Ab4 A4 QB4 hb5
    have ZA : Kept _ := ⟨za⟩
    clear za
    go_wp2_with fail
    have za := ZA.out
    have la := LA.out
    have lb := LB.out
    have HPW := PrimeAt.below HP.out QB6
    have HQ : Kept _ := ⟨QB6⟩
    clear QB6
    generalize w5 = wc at *
    obtain ⟨v1, ev1⟩ : ∃ v1, v1 = a * b % 57896044618658097711785492504343953926634992332820282019728792003956564819949 := ⟨_, rfl⟩
    have lv1 : v1 < 115792089237316195423570985008687907853269984665640564039457584007913129639936 := by rw [ev1]; exact Nat.lt_trans (Nat.mod_lt _ (by decide)) (by decide)
    have C_signetringref01_Inv_a : ∀ w', Below wc.heap.size wc w' → Calls Tryd.prog 21 [.agg (numA a)].toArray w' fun e w2 => e = .returned (.agg (numA b)) ∧ Below wc.heap.size wc w2 := fun w' hb => by rw [KB.out]; exact (rInv_any a w' la).mono fun e w2 hh => ⟨hh.1, hb.trans (hh.2.mono hb.size)⟩
    have C_limb_Mul_a_b : ∀ w', Below wc.heap.size wc w' → Calls Tryd.prog 17 [.agg (numA a), .agg (numA b)].toArray w' fun e w2 => e = .returned (.agg (numA v1)) ∧ Below wc.heap.size wc w2 := fun w' hb => by rw [ev1]; exact (Mul_any a b w' la lb).mono fun e w2 hh => ⟨hh.1, hb.trans (hh.2.mono hb.size)⟩
    refine wp_region_quiet (C := fun w' => Below wc.heap.size wc w') (by kernel_rfl) (by kernel_rfl) (Below.drew (Below.refl _ _)) ?_
    refine q_load (by kernel_rfl) 22 _ (g3) 22 (numA b) (0, 0) _ rfl (by kernel_rfl) (fun w' hb => At.under Fb hb) Tryd.underlying22 rfl (by rw [numA_size]; kernel_rfl) ?_
    simp only [Act.put, List.setIfInBounds_toArray, List.set_cons_succ, List.set_cons_zero]
    refine q_load (by kernel_rfl) 22 _ (w.heap.size) 22 (numA a) (0, 0) _ rfl (by kernel_rfl) (fun w' hb => At.under Fa hb) Tryd.underlying22 rfl (by rw [numA_size]; kernel_rfl) ?_
    simp only [Act.put, List.setIfInBounds_toArray, List.set_cons_succ, List.set_cons_zero]
    refine q_call (by kernel_rfl) 21 Tryd.f21 _ _ _ [.agg (numA a)] (.agg (numA b)) rfl (by kernel_rfl) Tryd.func21 (by kernel_rfl) rfl C_signetringref01_Inv_a ?_
    simp only [Act.put, List.setIfInBounds_toArray, List.set_cons_succ, List.set_cons_zero]
    refine q_val (by kernel_rfl) (.bool true) (fun w' => (run_eql_num (t := 22) (e := 5) b b rfl (by kernel_rfl) (by kernel_rfl) lb lb Tryd.underlying22 Tryd.underlying5 sz5 ag5 eqG w').trans (by rw [show decide (b = b) = true from decide_eq_true rfl])) ?_
    simp only [Act.put, List.setIfInBounds_toArray, List.set_cons_succ, List.set_cons_zero]
    refine q_val (by kernel_rfl) (.bool true) (fun w' => by kernel_rfl) ?_
    simp only [Act.put, List.setIfInBounds_toArray, List.set_cons_succ, List.set_cons_zero]
    refine q_load (by kernel_rfl) 22 _ (w.heap.size) 22 (numA a) (0, 0) _ rfl (by kernel_rfl) (fun w' hb => At.under Fa hb) Tryd.underlying22 rfl (by rw [numA_size]; kernel_rfl) ?_
    simp only [Act.put, List.setIfInBounds_toArray, List.set_cons_succ, List.set_cons_zero]
    refine q_load (by kernel_rfl) 22 _ (g3) 22 (numA b) (0, 0) _ rfl (by kernel_rfl) (fun w' hb => At.under Fb hb) Tryd.underlying22 rfl (by rw [numA_size]; kernel_rfl) ?_
    simp only [Act.put, List.setIfInBounds_toArray, List.set_cons_succ, List.set_cons_zero]
    refine q_call (by kernel_rfl) 17 Tryd.f17 _ _ _ [.agg (numA a), .agg (numA b)] (.agg (numA v1)) rfl (by kernel_rfl) Tryd.func17 (by kernel_rfl) rfl C_limb_Mul_a_b ?_
    simp only [Act.put, List.setIfInBounds_toArray, List.set_cons_succ, List.set_cons_zero]
    refine q_load (by kernel_rfl) 22 _ (g4) 22 (numA 1) (0, 0) _ rfl (by kernel_rfl) (fun w' hb => At.under Fw hb) Tryd.underlying22 rfl (by rw [numA_size]; kernel_rfl) ?_
    simp only [Act.put, List.setIfInBounds_toArray, List.set_cons_succ, List.set_cons_zero]
    refine q_val (by kernel_rfl) (.bool true) (fun w' => (run_eql_num (t := 22) (e := 5) v1 1 rfl (by kernel_rfl) (by kernel_rfl) lv1 (by decide) Tryd.underlying22 Tryd.underlying5 sz5 ag5 eqG w').trans (by rw [show decide (v1 = 1) = true from decide_eq_true (by rw [ev1, KB.out]; exact inv_one a za)])) ?_
    simp only [Act.put, List.setIfInBounds_toArray, List.set_cons_succ, List.set_cons_zero]
    refine q_val (by kernel_rfl) (.bool true) (fun w' => by kernel_rfl) ?_
    simp only [Act.put, List.setIfInBounds_toArray, List.set_cons_succ, List.set_cons_zero]
    refine q_val (by kernel_rfl) (.bool true) (fun w' => by kernel_rfl) ?_
    simp only [Act.put, List.setIfInBounds_toArray, List.set_cons_succ, List.set_cons_zero]
    refine wpQuiet_nil ?_
    intro w5 h5
    have H5 : Kept _ := ⟨h5⟩
    clear h5 C_signetringref01_Inv_a C_limb_Mul_a_b ev1 lv1
    go_wp2_with fail
    go_ret
    exact ⟨rfl, HQ.out.trans (Below.mono H5.out HQ.out.size)⟩
end Go.Proofs.YtanfjkmkfcekmaaDoor
