/-
  What package limb does with four words: products modulo p.
-/
import Derived.Test.YtanfjkmkfcekmaaDoorW4
import Derived.Deep.CutBlock
namespace Go.Proofs.YtanfjkmkfcekmaaDoor
open Go.RowKit
set_option linter.unusedSimpArgs false
set_option linter.unusedVariables false

theorem wide_at (X Y : Value) (x0 x1 x2 x3 y0 y1 y2 y3 : Nat) (w : World) (hX : X = L4 x0 x1 x2 x3) (hY : Y = L4 y0 y1 y2 y3) (hx : lt4 x0 x1 x2 x3) (hy : lt4 y0 y1 y2 y3) :
    Calls Tryd.prog 53 #[X, Y] w
      fun e w' => ∃ z0 z1 z2 z3 z4 z5 z6 z7 : Nat, e = .returned (.agg #[.int .u64 (z0 : Int), .int .u64 (z1 : Int), .int .u64 (z2 : Int), .int .u64 (z3 : Int), .int .u64 (z4 : Int), .int .u64 (z5 : Int), .int .u64 (z6 : Int), .int .u64 (z7 : Int)]) ∧ Below w.heap.size w w' ∧
        Hid (lt8 z0 z1 z2 z3 z4 z5 z6 z7 ∧ v8 z0 z1 z2 z3 z4 z5 z6 z7 = v4 x0 x1 x2 x3 * v4 y0 y1 y2 y3) := by
  subst hX hY; exact wide_any x0 x1 x2 x3 y0 y1 y2 y3 w hx hy

theorem product_arith (z0 z1 z2 z3 z4 z5 z6 z7 l0 l1 l2 l3 u0 u1 u2 u3 : Nat) (hz : lt8 z0 z1 z2 z3 z4 z5 z6 z7)
    (h0 : l0 < 18446744073709551616 ∧ u0 < 18446744073709551616 ∧ l0 + 18446744073709551616 * u0 = z0 + z4 * 38 + 0) (h1 : l1 < 18446744073709551616 ∧ u1 < 18446744073709551616 ∧ l1 + 18446744073709551616 * u1 = z1 + z5 * 38 + u0)
    (h2 : l2 < 18446744073709551616 ∧ u2 < 18446744073709551616 ∧ l2 + 18446744073709551616 * u2 = z2 + z6 * 38 + u1) (h3 : l3 < 18446744073709551616 ∧ u3 < 18446744073709551616 ∧ l3 + 18446744073709551616 * u3 = z3 + z7 * 38 + u2) :
    u3 ≤ 38 ∧ (v4 l0 l1 l2 l3 + 115792089237316195423570985008687907853269984665640564039457584007913129639936 * u3) % 57896044618658097711785492504343953926634992332820282019728792003956564819949 = v8 z0 z1 z2 z3 z4 z5 z6 z7 % 57896044618658097711785492504343953926634992332820282019728792003956564819949 := by
  constructor
  · unfold lt8 at hz; omega
  · have e : v8 z0 z1 z2 z3 z4 z5 z6 z7 = v4 l0 l1 l2 l3 + 115792089237316195423570985008687907853269984665640564039457584007913129639936 * u3 + 57896044618658097711785492504343953926634992332820282019728792003956564819949 * (2 * v4 z4 z5 z6 z7) := by unfold v8 v4; omega
    rw [e, Nat.add_mul_mod_self_left]

set_option maxHeartbeats 4000000 in
theorem product_any (x0 x1 x2 x3 y0 y1 y2 y3 : Nat) (w : World) (hx : lt4 x0 x1 x2 x3) (hy : lt4 y0 y1 y2 y3) :
    Calls Tryd.prog 38 #[L4 x0 x1 x2 x3, L4 y0 y1 y2 y3] w
      fun e w' => ∃ z0 z1 z2 z3 : Nat, e = .returned (.agg #[.int .u64 (z0 : Int), .int .u64 (z1 : Int), .int .u64 (z2 : Int), .int .u64 (z3 : Int)]) ∧
        Below w.heap.size w w' ∧ Hid (lt4 z0 z1 z2 z3 ∧ v4 z0 z1 z2 z3 = (v4 x0 x1 x2 x3 * v4 y0 y1 y2 y3) % 57896044618658097711785492504343953926634992332820282019728792003956564819949) := by
  have HX : Hid _ := hx
  have HY : Hid _ := hy
  clear hx hy
  unfold L4
  go_enter Tryd.func38, Tryd.ntmps38
  go_wp2_with fail
  refine (wide_at _ _ x0 x1 x2 x3 y0 y1 y2 y3 _ rfl rfl HX.out HY.out).mono ?_
  rintro e w1 ⟨z0, z1, z2, z3, z4, z5, z6, z7, rfl, hb1, HZ⟩
  have QB : Hid (Below w.heap.size w w1) := Below.trans (by (repeat (first | with_reducible exact Below.refl _ _ | with_reducible assumption | with_reducible refine Below.drew ?_ | (with_reducible refine Below.alloc ?_ ?hB _; (case hB => first | omega | (simp <;> omega))) | (with_reducible refine Below.setCell ?_ ?hB _; (case hB => first | omega | (simp <;> omega)))))) (hb1.mono (by first | omega | (simp <;> omega)))
  have cr := after4 hb1 (w.heap.size + 1 + 1) (by first | omega | (simp <;> omega))
  have fr := after_f hb1 (w.heap.size + 1 + 1) (by first | omega | (simp <;> omega))
  have zz := hb1.size
  simp [go_sem] at cr fr zz
  have n1 : w.heap.size + 1 + 1 ≠ w1.heap.size := by omega
  have n2 : w1.heap.size ≠ w.heap.size + 1 + 1 := by omega
  have n3 : w.heap.size + 1 + 1 < w1.heap.size := by omega
  have n4 : w.heap.size ≤ w1.heap.size := by omega
  clear hb1 zz
  go_wp2_with fail
  refine wp_loop_rounds 5 ?_
  rw [rounds_succ]
  go_upto_block 1 with fail
  go_cut [6] (fun s6 wc => ∃ l0 u0 : Nat, s6 = .int .u64 (u0 : Int) ∧ wc = (w1.alloc (.cells #[.int .u64 (l0 : Int), .int .u64 (z1 : Int), .int .u64 (z2 : Int), .int .u64 (z3 : Int), .int .u64 (z4 : Int), .int .u64 (z5 : Int), .int .u64 (z6 : Int), .int .u64 (z7 : Int)] 68)).drew ∧ Hid (l0 < 18446744073709551616 ∧ u0 < 18446744073709551616 ∧ l0 + 18446744073709551616 * u0 = z0 + z4 * 38 + 0))
  case first =>
    go_upto_region 6 with fail
    go_region_with (go_at_call 54; go_must (refine (step_at _ _ _ _ z0 z4 38 0 _ rfl rfl rfl rfl HZ.out.1.1 HZ.out.1.2.2.2.2.1 (by omega) (by omega)).mono ?_; rintro e w_ ⟨l0, u0, rfl, rfl, H0⟩))
    all_goals (go_wp2_with fail; go_meet; exact ⟨l0, u0, rfl, rfl, H0⟩)
  case rest =>
  obtain ⟨l0, u0, rfl, rfl, H0⟩ := hcut
  go_wp2_with fail
  rw [rounds_succ]
  go_upto_block 1 with fail
  go_cut [6] (fun s6 wc => ∃ l1 u1 : Nat, s6 = .int .u64 (u1 : Int) ∧ wc = (w1.alloc (.cells #[.int .u64 (l0 : Int), .int .u64 (l1 : Int), .int .u64 (z2 : Int), .int .u64 (z3 : Int), .int .u64 (z4 : Int), .int .u64 (z5 : Int), .int .u64 (z6 : Int), .int .u64 (z7 : Int)] 68)).drew.drew ∧ Hid (l1 < 18446744073709551616 ∧ u1 < 18446744073709551616 ∧ l1 + 18446744073709551616 * u1 = z1 + z5 * 38 + u0))
  case first =>
    go_upto_region 6 with fail
    go_region_with (go_at_call 54; go_must (refine (step_at _ _ _ _ z1 z5 38 u0 _ rfl rfl rfl rfl HZ.out.1.2.1 HZ.out.1.2.2.2.2.2.1 (by omega) H0.out.2.1).mono ?_; rintro e w_ ⟨l1, u1, rfl, rfl, H1⟩))
    all_goals (go_wp2_with fail; go_meet; exact ⟨l1, u1, rfl, rfl, H1⟩)
  case rest =>
  obtain ⟨l1, u1, rfl, rfl, H1⟩ := hcut
  go_wp2_with fail
  rw [rounds_succ]
  go_upto_block 1 with fail
  go_cut [6] (fun s6 wc => ∃ l2 u2 : Nat, s6 = .int .u64 (u2 : Int) ∧ wc = (w1.alloc (.cells #[.int .u64 (l0 : Int), .int .u64 (l1 : Int), .int .u64 (l2 : Int), .int .u64 (z3 : Int), .int .u64 (z4 : Int), .int .u64 (z5 : Int), .int .u64 (z6 : Int), .int .u64 (z7 : Int)] 68)).drew.drew.drew ∧ Hid (l2 < 18446744073709551616 ∧ u2 < 18446744073709551616 ∧ l2 + 18446744073709551616 * u2 = z2 + z6 * 38 + u1))
  case first =>
    go_upto_region 6 with fail
    go_region_with (go_at_call 54; go_must (refine (step_at _ _ _ _ z2 z6 38 u1 _ rfl rfl rfl rfl HZ.out.1.2.2.1 HZ.out.1.2.2.2.2.2.2.1 (by omega) H1.out.2.1).mono ?_; rintro e w_ ⟨l2, u2, rfl, rfl, H2⟩))
    all_goals (go_wp2_with fail; go_meet; exact ⟨l2, u2, rfl, rfl, H2⟩)
  case rest =>
  obtain ⟨l2, u2, rfl, rfl, H2⟩ := hcut
  go_wp2_with fail
  rw [rounds_succ]
  go_upto_block 1 with fail
  go_cut [6] (fun s6 wc => ∃ l3 u3 : Nat, s6 = .int .u64 (u3 : Int) ∧ wc = (w1.alloc (.cells #[.int .u64 (l0 : Int), .int .u64 (l1 : Int), .int .u64 (l2 : Int), .int .u64 (l3 : Int), .int .u64 (z4 : Int), .int .u64 (z5 : Int), .int .u64 (z6 : Int), .int .u64 (z7 : Int)] 68)).drew.drew.drew.drew ∧ Hid (l3 < 18446744073709551616 ∧ u3 < 18446744073709551616 ∧ l3 + 18446744073709551616 * u3 = z3 + z7 * 38 + u2))
  case first =>
    go_upto_region 6 with fail
    go_region_with (go_at_call 54; go_must (refine (step_at _ _ _ _ z3 z7 38 u2 _ rfl rfl rfl rfl HZ.out.1.2.2.2.1 HZ.out.1.2.2.2.2.2.2.2 (by omega) H2.out.2.1).mono ?_; rintro e w_ ⟨l3, u3, rfl, rfl, H3⟩))
    all_goals (go_wp2_with fail; go_meet; exact ⟨l3, u3, rfl, rfl, H3⟩)
  case rest =>
  obtain ⟨l3, u3, rfl, rfl, H3⟩ := hcut
  go_wp2_with fail
  rw [rounds_succ]
  go_wp2_with fail
  refine (fold_at _ _ l0 l1 l2 l3 u3 _ rfl rfl ⟨H0.out.1, H1.out.1, H2.out.1, H3.out.1⟩ (product_arith _ _ _ _ _ _ _ _ _ _ _ _ _ _ _ _ HZ.out.1 H0.out H1.out H2.out H3.out).1).mono ?_
  rintro e w2 ⟨r0, r1, r2, r3, rfl, hb2, HF⟩
  have QB2 : Hid (Below w.heap.size w w2) := (have q := QB.out; Below.trans (by (repeat (first | with_reducible exact Below.refl _ _ | with_reducible assumption | with_reducible refine Below.drew ?_ | (with_reducible refine Below.alloc ?_ ?hB _; (case hB => first | omega | (simp <;> omega))) | (with_reducible refine Below.setCell ?_ ?hB _; (case hB => first | omega | (simp <;> omega)))))) (hb2.mono (by first | omega | (simp <;> omega))))
  have cr2 := after4 hb2 (w.heap.size + 1 + 1) (by first | omega | (simp <;> omega))
  have fr2 := after_f hb2 (w.heap.size + 1 + 1) (by first | omega | (simp <;> omega))
  simp [go_sem, cr, fr, n1, n2, n3] at cr2 fr2
  clear hb2
  go_wp2
  refine bodyPost_ret (v := .agg #[.int .u64 (r0 : Int), .int .u64 (r1 : Int), .int .u64 (r2 : Int), .int .u64 (r3 : Int)]) (by simp [results, Tryd.results38, go_sem, cr2, fr2]) rfl ⟨r0, r1, r2, r3, rfl, ?_, HF.out.1, ?_⟩
  · have q := QB2.out
    repeat (first | with_reducible exact Below.refl _ _ | with_reducible assumption | with_reducible refine Below.drew ?_ | (with_reducible refine Below.alloc ?_ ?hB _; (case hB => first | omega | (simp <;> omega))) | (with_reducible refine Below.setCell ?_ ?hB _; (case hB => first | omega | (simp <;> omega))))
  · rw [HF.out.2, (product_arith _ _ _ _ _ _ _ _ _ _ _ _ _ _ _ _ HZ.out.1 H0.out H1.out H2.out H3.out).2, HZ.out.2]

theorem product_at (X Y : Value) (x0 x1 x2 x3 y0 y1 y2 y3 : Nat) (w : World) (hX : X = L4 x0 x1 x2 x3) (hY : Y = L4 y0 y1 y2 y3) (hx : lt4 x0 x1 x2 x3) (hy : lt4 y0 y1 y2 y3) :
    Calls Tryd.prog 38 #[X, Y] w
      fun e w' => ∃ z0 z1 z2 z3 : Nat, e = .returned (.agg #[.int .u64 (z0 : Int), .int .u64 (z1 : Int), .int .u64 (z2 : Int), .int .u64 (z3 : Int)]) ∧
        Below w.heap.size w w' ∧ Hid (lt4 z0 z1 z2 z3 ∧ v4 z0 z1 z2 z3 = (v4 x0 x1 x2 x3 * v4 y0 y1 y2 y3) % 57896044618658097711785492504343953926634992332820282019728792003956564819949) := by
  subst hX hY; exact product_any x0 x1 x2 x3 y0 y1 y2 y3 w hx hy
end Go.Proofs.YtanfjkmkfcekmaaDoor
