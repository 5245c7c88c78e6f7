/-
  What LadderBoth answers: true, whatever the two secrets and the point are.
-/
import Derived.Test.YtanfjkmkfcekmaaDoorEdB
import Derived.Test.YtanfjkmkfcekmaaDoorD8
import Derived.Test.YtanfjkmkfcekmaaDoorL1
import Derived.Test.YtanfjkmkfcekmaaDoorOpen
namespace Go.Proofs.YtanfjkmkfcekmaaDoor
open Go Go.RowKit
set_option linter.unusedVariables false
set_option linter.unusedSimpArgs false

theorem three_args (w : World) (a b u : Nat) (W : World) (hW : ((w.alloc (.cells (numA a) 22)).alloc (.cells (numA b) 22)).alloc (.cells (numA u) 22) = W) : At W w.heap.size a ∧ At W (w.heap.size + 1) b ∧ At W (w.heap.size + 2) u ∧ Below w.heap.size w W := by
  subst hW
  obtain ⟨h1, h2, h3⟩ := two_nums w a b _ rfl
  refine ⟨h1.alloc _, h2.alloc _, ?_, h3.alloc h3.size _⟩
  have h := at_new ((w.alloc (.cells (numA a) 22)).alloc (.cells (numA b) 22)) u
  rw [show ((w.alloc (.cells (numA a) 22)).alloc (.cells (numA b) 22)).heap.size = w.heap.size + 2 from by simp] at h
  exact h

set_option maxHeartbeats 1000000 in
theorem both_any (a b u : Nat) (w : World) (la : a < 115792089237316195423570985008687907853269984665640564039457584007913129639936) (lb : b < 115792089237316195423570985008687907853269984665640564039457584007913129639936) (lu : u < 115792089237316195423570985008687907853269984665640564039457584007913129639936) (hp : PrimeAt w) :
    Calls Tryd.prog 7 #[.agg (numA a), .agg (numA b), .agg (numA u)] w fun e w' => e = .returned (.bool true) ∧ Below w.heap.size w w' := by
  have La : Kept _ := ⟨la⟩
  have Lb : Kept _ := ⟨lb⟩
  have Lu : Kept _ := ⟨lu⟩
  have HP : Kept _ := ⟨hp⟩
  obtain ⟨pb, hpb⟩ : ∃ r, r = XN b 9 := ⟨_, rfl⟩
  obtain ⟨pa, hpa⟩ : ∃ r, r = XN a 9 := ⟨_, rfl⟩
  obtain ⟨r, hr⟩ : ∃ r, r = XN a pb := ⟨_, rfl⟩
  obtain ⟨xb, hxb⟩ : ∃ r, r = XN b u := ⟨_, rfl⟩
  obtain ⟨xa, hxa⟩ : ∃ r, r = XN a u := ⟨_, rfl⟩
  obtain ⟨y, hy⟩ : ∃ r, r = XN a xb := ⟨_, rfl⟩
  have Epb : Kept (pb = XN b 9) := ⟨hpb⟩
  have Epa : Kept (pa = XN a 9) := ⟨hpa⟩
  have ERa : Kept (r = XN a pb) := ⟨hr⟩
  have ERb : Kept (r = XN b pa) := ⟨by rw [hr, hpb, hpa]; exact XN_comm a b 9⟩
  have EXb : Kept (xb = XN b u) := ⟨hxb⟩
  have EXa : Kept (xa = XN a u) := ⟨hxa⟩
  have EY1 : Kept (y = XN a xb) := ⟨hy⟩
  have EY2 : Kept (y = XN b xa) := ⟨by rw [hy, hxb, hxa]; exact XN_comm a b u⟩
  have Lpb : Kept (pb < 115792089237316195423570985008687907853269984665640564039457584007913129639936) := ⟨by rw [hpb]; exact XN_lt _ _⟩
  have Lpa : Kept (pa < 115792089237316195423570985008687907853269984665640564039457584007913129639936) := ⟨by rw [hpa]; exact XN_lt _ _⟩
  have Lr : Kept (r < 115792089237316195423570985008687907853269984665640564039457584007913129639936) := ⟨by rw [hr]; exact XN_lt _ _⟩
  have Lxb : Kept (xb < 115792089237316195423570985008687907853269984665640564039457584007913129639936) := ⟨by rw [hxb]; exact XN_lt _ _⟩
  have Lxa : Kept (xa < 115792089237316195423570985008687907853269984665640564039457584007913129639936) := ⟨by rw [hxa]; exact XN_lt _ _⟩
  have Ly : Kept (y < 115792089237316195423570985008687907853269984665640564039457584007913129639936) := ⟨by rw [hy]; exact XN_lt _ _⟩
  have RZ : Kept ((!decide (r % 57896044618658097711785492504343953926634992332820282019728792003956564819949 = 0)) = true) := ⟨by
    have h1 : r % 57896044618658097711785492504343953926634992332820282019728792003956564819949 = r := by rw [hr]; exact Nat.mod_eq_of_lt (XN_ltp _ _)
    have h2 : ¬ r = 0 := by rw [hr, hpb]; exact XN_some a b
    rw [h1, decide_eq_false h2]; rfl⟩
  clear la lb lu hp hpb hpa hr hxb hxa hy
  go_enter Tryd.func7, Tryd.ntmps7
  go_wp2_with fail
  generalize hW : ((w.alloc (.cells (numA a) 22)).alloc (.cells (numA b) 22)).alloc (.cells (numA u) 22) = W
  obtain ⟨Aa0, Ab0, Au0, QB0⟩ := three_args w a b u W hW
  clear hW
  refine (alive2_any _ (PrimeAt.below HP.out QB0)).mono ?_
  rintro e w1 ⟨rfl, hb1⟩
  have Aa := Aa0.under hb1
  have Ab := Ab0.under hb1
  have Au := Au0.under hb1
  have QB1 := QB0.trans (hb1.mono QB0.size)
  have HPW : Kept _ := ⟨PrimeAt.below HP.out QB1⟩
  clear Aa0 Ab0 Au0 QB0 hb1
  go_wp2_with fail
  have C0 : Kept (∀ w, Below w1.heap.size w1 w → Calls Tryd.prog 28 [.agg (numA b)].toArray w fun e w2 => e = .returned (.agg (numA pb)) ∧ Below w.heap.size w w2) := ⟨fun w hb => by rw [Epb.out]; exact Pub_any b w Lb.out (PrimeAt.below HPW.out hb)⟩
  have C1 : Kept (∀ w, Below w1.heap.size w1 w → Calls Tryd.prog 24 [.agg (numA a), .agg (numA pb)].toArray w fun e w2 => e = .returned (.tuple #[.agg (numA r), .bool true]) ∧ Below w.heap.size w w2) := ⟨fun w hb => by have hc := Shared_any a pb w La.out Lpb.out (PrimeAt.below HPW.out hb); rw [← ERa.out, RZ.out] at hc; exact hc⟩
  refine region_made1 (W0 := w1) [(14, .agg (numA a)), (15, .agg (numA b)), (16, .agg (numA pb)), (17, .tuple #[.agg (numA r), .bool true]), (13, .tuple #[.agg (numA r), .bool true]), (18, .agg (numA r)), (19, .bool true), (8, .bool true)] 7 8 7 r (by kernel_rfl) (by kernel_rfl) (by kernel_rfl) (by kernel_rfl) (by kernel_rfl) (by kernel_rfl) (by kernel_rfl) (by kernel_rfl) (by kernel_rfl) (by kernel_rfl) (by kernel_rfl) (Below.refl _ _) ⟨ok_get (by rfl) 14 (w.heap.size) a (.tmp 3) rfl (by kernel_rfl) rfl (by kernel_rfl) (fun w hb => At.under Aa hb), ok_get (by rfl) 15 (w.heap.size + 1) b (.tmp 4) rfl (by kernel_rfl) rfl (by kernel_rfl) (fun w hb => At.under Ab hb), ok_call (by rfl) 16 28 Tryd.f28 _ (.func 28) [.tmp 15] _ [.agg (numA b)] (.agg (numA pb)) rfl (by kernel_rfl) rfl (by kernel_rfl) (by kernel_rfl) Tryd.func28 (by kernel_rfl) rfl C0.out, ok_call (by rfl) 17 24 Tryd.f24 _ (.func 24) [.tmp 14, .tmp 16] _ [.agg (numA a), .agg (numA pb)] (.tuple #[.agg (numA r), .bool true]) rfl (by kernel_rfl) rfl (by kernel_rfl) (by kernel_rfl) Tryd.func24 (by kernel_rfl) rfl C1.out, ok_val (by rfl) 13 (.tuple #[.agg (numA r), .bool true]) rfl (by kernel_rfl) (fun w => by kernel_rfl), ok_val (by rfl) 18 (.agg (numA r)) rfl (by kernel_rfl) (fun w => by kernel_rfl), ok_val (by rfl) 19 (.bool true) rfl (by kernel_rfl) (fun w => by kernel_rfl), ok_new (by rfl) 7 rfl zero32 rfl makes_num, ok_put 7 r 7 18 (by rfl) rfl rfl (by kernel_rfl) (by rfl) (by kernel_rfl) (by kernel_rfl) (by kernel_rfl), ok_val (by rfl) 8 (.bool true) rfl (by kernel_rfl) (fun w => by kernel_rfl), trivial⟩ ?_
  intro g7 w2 hg7 F7 hbw2
  simp only [putAll, List.foldl_cons, List.foldl_nil, Act.put, List.setIfInBounds_toArray, List.set_cons_succ, List.set_cons_zero]
  clear C0 C1
  have Aa2 := Aa.under hbw2
  have Ab2 := Ab.under hbw2
  have Au2 := Au.under hbw2
  have QB2 := QB1.trans (hbw2.mono QB1.size)
  clear Aa Ab Au QB1 HPW hbw2 hg7
  have HPW : Kept _ := ⟨PrimeAt.below HP.out QB2⟩
  have Aa := Aa2
  have Ab := Ab2
  have Au := Au2
  clear Aa2 Ab2 Au2
  go_wp2_with fail
  have C0 : Kept (∀ w, Below w2.heap.size w2 w → Calls Tryd.prog 28 [.agg (numA a)].toArray w fun e w2 => e = .returned (.agg (numA pa)) ∧ Below w.heap.size w w2) := ⟨fun w hb => by rw [Epa.out]; exact Pub_any a w La.out (PrimeAt.below HPW.out hb)⟩
  have C1 : Kept (∀ w, Below w2.heap.size w2 w → Calls Tryd.prog 24 [.agg (numA b), .agg (numA pa)].toArray w fun e w2 => e = .returned (.tuple #[.agg (numA r), .bool true]) ∧ Below w.heap.size w w2) := ⟨fun w hb => by have hc := Shared_any b pa w Lb.out Lpa.out (PrimeAt.below HPW.out hb); rw [← ERb.out, RZ.out] at hc; exact hc⟩
  refine region_made1 (W0 := w2) [(21, .agg (numA b)), (22, .agg (numA a)), (23, .agg (numA pa)), (24, .tuple #[.agg (numA r), .bool true]), (20, .tuple #[.agg (numA r), .bool true]), (25, .agg (numA r)), (26, .bool true), (10, .bool true)] 7 8 9 r (by kernel_rfl) (by kernel_rfl) (by kernel_rfl) (by kernel_rfl) (by kernel_rfl) (by kernel_rfl) (by kernel_rfl) (by kernel_rfl) (by kernel_rfl) (by kernel_rfl) (by kernel_rfl) (Below.refl _ _) ⟨ok_get (by rfl) 21 (w.heap.size + 1) b (.tmp 4) rfl (by kernel_rfl) rfl (by kernel_rfl) (fun w hb => At.under Ab hb), ok_get (by rfl) 22 (w.heap.size) a (.tmp 3) rfl (by kernel_rfl) rfl (by kernel_rfl) (fun w hb => At.under Aa hb), ok_call (by rfl) 23 28 Tryd.f28 _ (.func 28) [.tmp 22] _ [.agg (numA a)] (.agg (numA pa)) rfl (by kernel_rfl) rfl (by kernel_rfl) (by kernel_rfl) Tryd.func28 (by kernel_rfl) rfl C0.out, ok_call (by rfl) 24 24 Tryd.f24 _ (.func 24) [.tmp 21, .tmp 23] _ [.agg (numA b), .agg (numA pa)] (.tuple #[.agg (numA r), .bool true]) rfl (by kernel_rfl) rfl (by kernel_rfl) (by kernel_rfl) Tryd.func24 (by kernel_rfl) rfl C1.out, ok_val (by rfl) 20 (.tuple #[.agg (numA r), .bool true]) rfl (by kernel_rfl) (fun w => by kernel_rfl), ok_val (by rfl) 25 (.agg (numA r)) rfl (by kernel_rfl) (fun w => by kernel_rfl), ok_val (by rfl) 26 (.bool true) rfl (by kernel_rfl) (fun w => by kernel_rfl), ok_new (by rfl) 9 rfl zero32 rfl makes_num, ok_put 7 r 9 25 (by rfl) rfl rfl (by kernel_rfl) (by rfl) (by kernel_rfl) (by kernel_rfl) (by kernel_rfl), ok_val (by rfl) 10 (.bool true) rfl (by kernel_rfl) (fun w => by kernel_rfl), trivial⟩ ?_
  intro g9 w3 hg9 F9 hbw3
  simp only [putAll, List.foldl_cons, List.foldl_nil, Act.put, List.setIfInBounds_toArray, List.set_cons_succ, List.set_cons_zero]
  clear C0 C1
  have Aa2 := Aa.under hbw3
  have Ab2 := Ab.under hbw3
  have Au2 := Au.under hbw3
  have F72 := F7.under hbw3
  have QB3 := QB2.trans (hbw3.mono QB2.size)
  clear Aa Ab Au F7 QB2 HPW hbw3 hg9
  have HPW := PrimeAt.below HP.out QB3
  have HQ : Kept _ := ⟨QB3⟩
  have Aa := Aa2
  have Ab := Ab2
  have Au := Au2
  have F7 := F72
  clear Aa2 Ab2 Au2 F72 QB3
  go_wp2_with fail
  have la := La.out
  have lb := Lb.out
  have lu := Lu.out
  have lr := Lr.out
  have lxb := Lxb.out
  have lxa := Lxa.out
  have ly := Ly.out
  generalize w3 = wc at *
  have C_ladder_X_b_u : ∀ w', Below wc.heap.size wc w' → Calls Tryd.prog 25 [.agg (numA b), .agg (numA u)].toArray w' fun e w2 => e = .returned (.agg (numA xb)) ∧ Below wc.heap.size wc w2 := fun w' hb => by rw [EXb.out]; exact (X_any b u w' lb lu (PrimeAt.below HPW hb)).mono fun e w2 hh => ⟨hh.1, hb.trans (hh.2.mono hb.size)⟩
  have C_ladder_X_a_xb : ∀ w', Below wc.heap.size wc w' → Calls Tryd.prog 25 [.agg (numA a), .agg (numA xb)].toArray w' fun e w2 => e = .returned (.agg (numA y)) ∧ Below wc.heap.size wc w2 := fun w' hb => by rw [EY1.out]; exact (X_any a xb w' la lxb (PrimeAt.below HPW hb)).mono fun e w2 hh => ⟨hh.1, hb.trans (hh.2.mono hb.size)⟩
  have C_ladder_X_a_u : ∀ w', Below wc.heap.size wc w' → Calls Tryd.prog 25 [.agg (numA a), .agg (numA u)].toArray w' fun e w2 => e = .returned (.agg (numA xa)) ∧ Below wc.heap.size wc w2 := fun w' hb => by rw [EXa.out]; exact (X_any a u w' la lu (PrimeAt.below HPW hb)).mono fun e w2 hh => ⟨hh.1, hb.trans (hh.2.mono hb.size)⟩
  have C_ladder_X_b_xa : ∀ w', Below wc.heap.size wc w' → Calls Tryd.prog 25 [.agg (numA b), .agg (numA xa)].toArray w' fun e w2 => e = .returned (.agg (numA y)) ∧ Below wc.heap.size wc w2 := fun w' hb => by rw [EY2.out]; exact (X_any b xa w' lb lxa (PrimeAt.below HPW hb)).mono fun e w2 hh => ⟨hh.1, hb.trans (hh.2.mono hb.size)⟩
  refine wp_region_quiet (C := fun w' => Below wc.heap.size wc w') (by kernel_rfl) (by kernel_rfl) (Below.drew (Below.refl _ _)) ?_
  refine q_load (by kernel_rfl) 22 _ (w.heap.size) 22 (numA a) (0, 0) _ rfl (by kernel_rfl) (fun w' hb => At.under Aa hb) Tryd.underlying22 rfl (by rw [numA_size]; kernel_rfl) ?_
  simp only [Act.put, List.setIfInBounds_toArray, List.set_cons_succ, List.set_cons_zero]
  refine q_load (by kernel_rfl) 22 _ (w.heap.size + 1) 22 (numA b) (0, 0) _ rfl (by kernel_rfl) (fun w' hb => At.under Ab hb) Tryd.underlying22 rfl (by rw [numA_size]; kernel_rfl) ?_
  simp only [Act.put, List.setIfInBounds_toArray, List.set_cons_succ, List.set_cons_zero]
  refine q_load (by kernel_rfl) 22 _ (w.heap.size + 2) 22 (numA u) (0, 0) _ rfl (by kernel_rfl) (fun w' hb => At.under Au hb) Tryd.underlying22 rfl (by rw [numA_size]; kernel_rfl) ?_
  simp only [Act.put, List.setIfInBounds_toArray, List.set_cons_succ, List.set_cons_zero]
  refine q_call (by kernel_rfl) 25 Tryd.f25 _ _ _ [.agg (numA b), .agg (numA u)] (.agg (numA xb)) rfl (by kernel_rfl) Tryd.func25 (by kernel_rfl) rfl C_ladder_X_b_u ?_
  simp only [Act.put, List.setIfInBounds_toArray, List.set_cons_succ, List.set_cons_zero]
  refine q_call (by kernel_rfl) 25 Tryd.f25 _ _ _ [.agg (numA a), .agg (numA xb)] (.agg (numA y)) rfl (by kernel_rfl) Tryd.func25 (by kernel_rfl) rfl C_ladder_X_a_xb ?_
  simp only [Act.put, List.setIfInBounds_toArray, List.set_cons_succ, List.set_cons_zero]
  refine q_load (by kernel_rfl) 22 _ (w.heap.size + 1) 22 (numA b) (0, 0) _ rfl (by kernel_rfl) (fun w' hb => At.under Ab hb) Tryd.underlying22 rfl (by rw [numA_size]; kernel_rfl) ?_
  simp only [Act.put, List.setIfInBounds_toArray, List.set_cons_succ, List.set_cons_zero]
  refine q_load (by kernel_rfl) 22 _ (w.heap.size) 22 (numA a) (0, 0) _ rfl (by kernel_rfl) (fun w' hb => At.under Aa hb) Tryd.underlying22 rfl (by rw [numA_size]; kernel_rfl) ?_
  simp only [Act.put, List.setIfInBounds_toArray, List.set_cons_succ, List.set_cons_zero]
  refine q_load (by kernel_rfl) 22 _ (w.heap.size + 2) 22 (numA u) (0, 0) _ rfl (by kernel_rfl) (fun w' hb => At.under Au hb) Tryd.underlying22 rfl (by rw [numA_size]; kernel_rfl) ?_
  simp only [Act.put, List.setIfInBounds_toArray, List.set_cons_succ, List.set_cons_zero]
  refine q_call (by kernel_rfl) 25 Tryd.f25 _ _ _ [.agg (numA a), .agg (numA u)] (.agg (numA xa)) rfl (by kernel_rfl) Tryd.func25 (by kernel_rfl) rfl C_ladder_X_a_u ?_
  simp only [Act.put, List.setIfInBounds_toArray, List.set_cons_succ, List.set_cons_zero]
  refine q_call (by kernel_rfl) 25 Tryd.f25 _ _ _ [.agg (numA b), .agg (numA xa)] (.agg (numA y)) rfl (by kernel_rfl) Tryd.func25 (by kernel_rfl) rfl C_ladder_X_b_xa ?_
  simp only [Act.put, List.setIfInBounds_toArray, List.set_cons_succ, List.set_cons_zero]
  refine q_val (by kernel_rfl) (.bool true) (fun w' => (run_eql_num (t := 22) (e := 5) y y rfl (by kernel_rfl) (by kernel_rfl) ly ly Tryd.underlying22 Tryd.underlying5 sz5 ag5 eqG w').trans (by rw [show decide (y = y) = true from decide_eq_true rfl])) ?_
  simp only [Act.put, List.setIfInBounds_toArray, List.set_cons_succ, List.set_cons_zero]
  refine q_val (by kernel_rfl) (.bool true) (fun w' => by kernel_rfl) ?_
  simp only [Act.put, List.setIfInBounds_toArray, List.set_cons_succ, List.set_cons_zero]
  refine q_load (by kernel_rfl) 22 _ (g7) 22 (numA r) (0, 0) _ rfl (by kernel_rfl) (fun w' hb => At.under F7 hb) Tryd.underlying22 rfl (by rw [numA_size]; kernel_rfl) ?_
  simp only [Act.put, List.setIfInBounds_toArray, List.set_cons_succ, List.set_cons_zero]
  refine q_load (by kernel_rfl) 22 _ (g9) 22 (numA r) (0, 0) _ rfl (by kernel_rfl) (fun w' hb => At.under F9 hb) Tryd.underlying22 rfl (by rw [numA_size]; kernel_rfl) ?_
  simp only [Act.put, List.setIfInBounds_toArray, List.set_cons_succ, List.set_cons_zero]
  refine q_val (by kernel_rfl) (.bool true) (fun w' => (run_eql_num (t := 22) (e := 5) r r rfl (by kernel_rfl) (by kernel_rfl) lr lr Tryd.underlying22 Tryd.underlying5 sz5 ag5 eqG w').trans (by rw [show decide (r = r) = true from decide_eq_true rfl])) ?_
  simp only [Act.put, List.setIfInBounds_toArray, List.set_cons_succ, List.set_cons_zero]
  refine q_val (by kernel_rfl) (.bool true) (fun w' => by kernel_rfl) ?_
  simp only [Act.put, List.setIfInBounds_toArray, List.set_cons_succ, List.set_cons_zero]
  refine q_val (by kernel_rfl) (.bool true) (fun w' => by kernel_rfl) ?_
  simp only [Act.put, List.setIfInBounds_toArray, List.set_cons_succ, List.set_cons_zero]
  refine q_val (by kernel_rfl) (.bool true) (fun w' => by kernel_rfl) ?_
  simp only [Act.put, List.setIfInBounds_toArray, List.set_cons_succ, List.set_cons_zero]
  refine q_val (by kernel_rfl) (.bool true) (fun w' => by kernel_rfl) ?_
  simp only [Act.put, List.setIfInBounds_toArray, List.set_cons_succ, List.set_cons_zero]
  refine q_val (by kernel_rfl) (.bool true) (fun w' => by kernel_rfl) ?_
  simp only [Act.put, List.setIfInBounds_toArray, List.set_cons_succ, List.set_cons_zero]
  refine q_val (by kernel_rfl) (.bool true) (fun w' => by kernel_rfl) ?_
  simp only [Act.put, List.setIfInBounds_toArray, List.set_cons_succ, List.set_cons_zero]
  refine q_val (by kernel_rfl) (.bool true) (fun w' => by kernel_rfl) ?_
  simp only [Act.put, List.setIfInBounds_toArray, List.set_cons_succ, List.set_cons_zero]
  refine q_val (by kernel_rfl) (.bool true) (fun w' => by kernel_rfl) ?_
  simp only [Act.put, List.setIfInBounds_toArray, List.set_cons_succ, List.set_cons_zero]
  refine wpQuiet_nil ?_
  intro w7 h7
  have H7 : Kept _ := ⟨h7⟩
  clear h7 Aa Ab Au F7 F9 HPW la lb lu lr lxb lxa ly C_ladder_X_b_u C_ladder_X_a_xb C_ladder_X_a_u C_ladder_X_b_xa
  go_wp2_with fail
  go_ret
  exact ⟨rfl, HQ.out.trans (Below.mono H7.out HQ.out.size)⟩
end Go.Proofs.YtanfjkmkfcekmaaDoor
