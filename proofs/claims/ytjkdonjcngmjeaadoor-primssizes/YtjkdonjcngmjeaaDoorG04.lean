/-
  General pieces, joined: W5 W3 W8 Pow W9.
-/
import Derived.Test.YtjkdonjcngmjeaaDoorG03
import Derived.Deep.CutBlock
import Derived.Test.YtjkdonjcngmjeaaDoorG02
import Derived.Deep.RegionWith
import Derived.Deep.DeepCutAuto
import Derived.Deep.LoopGhost
import Derived.Test.YtjkdonjcngmjeaaDoorG01
/-
  What package limb does with four words: products modulo p.
-/
namespace Go.Proofs.YtjkdonjcngmjeaaDoor
open Go.RowKit
set_option linter.unusedSimpArgs false
set_option linter.unusedVariables false

theorem wide_at (X Y : Value) (x0 x1 x2 x3 y0 y1 y2 y3 : Nat) (w : World) (hX : X = L4 x0 x1 x2 x3) (hY : Y = L4 y0 y1 y2 y3) (hx : lt4 x0 x1 x2 x3) (hy : lt4 y0 y1 y2 y3) :
    Calls Tryd.prog 99 #[X, Y] w
      fun e w' => ∃ z0 z1 z2 z3 z4 z5 z6 z7 : Nat, e = .returned (.agg #[.int .u64 (z0 : Int), .int .u64 (z1 : Int), .int .u64 (z2 : Int), .int .u64 (z3 : Int), .int .u64 (z4 : Int), .int .u64 (z5 : Int), .int .u64 (z6 : Int), .int .u64 (z7 : Int)]) ∧ Below w.heap.size w w' ∧
        Hid (lt8 z0 z1 z2 z3 z4 z5 z6 z7 ∧ v8 z0 z1 z2 z3 z4 z5 z6 z7 = v4 x0 x1 x2 x3 * v4 y0 y1 y2 y3) := by
  subst hX hY; exact wide_any x0 x1 x2 x3 y0 y1 y2 y3 w hx hy

theorem product_arith (z0 z1 z2 z3 z4 z5 z6 z7 l0 l1 l2 l3 u0 u1 u2 u3 : Nat) (hz : lt8 z0 z1 z2 z3 z4 z5 z6 z7)
    (h0 : l0 < 18446744073709551616 ∧ u0 < 18446744073709551616 ∧ l0 + 18446744073709551616 * u0 = z0 + z4 * 38 + 0) (h1 : l1 < 18446744073709551616 ∧ u1 < 18446744073709551616 ∧ l1 + 18446744073709551616 * u1 = z1 + z5 * 38 + u0)
    (h2 : l2 < 18446744073709551616 ∧ u2 < 18446744073709551616 ∧ l2 + 18446744073709551616 * u2 = z2 + z6 * 38 + u1) (h3 : l3 < 18446744073709551616 ∧ u3 < 18446744073709551616 ∧ l3 + 18446744073709551616 * u3 = z3 + z7 * 38 + u2) :
    u3 ≤ 38 ∧ (v4 l0 l1 l2 l3 + 115792089237316195423570985008687907853269984665640564039457584007913129639936 * u3) % 57896044618658097711785492504343953926634992332820282019728792003956564819949 = v8 z0 z1 z2 z3 z4 z5 z6 z7 % 57896044618658097711785492504343953926634992332820282019728792003956564819949 := by
  constructor
  · unfold lt8 at hz; omega
  · have e : v8 z0 z1 z2 z3 z4 z5 z6 z7 = v4 l0 l1 l2 l3 + 115792089237316195423570985008687907853269984665640564039457584007913129639936 * u3 + 57896044618658097711785492504343953926634992332820282019728792003956564819949 * (2 * v4 z4 z5 z6 z7) := by unfold v8 v4; omega
    rw [e, Nat.add_mul_mod_self_left]

set_option maxHeartbeats 4000000 in
theorem product_any (x0 x1 x2 x3 y0 y1 y2 y3 : Nat) (w : World) (hx : lt4 x0 x1 x2 x3) (hy : lt4 y0 y1 y2 y3) :
    Calls Tryd.prog 93 #[L4 x0 x1 x2 x3, L4 y0 y1 y2 y3] w
      fun e w' => ∃ z0 z1 z2 z3 : Nat, e = .returned (.agg #[.int .u64 (z0 : Int), .int .u64 (z1 : Int), .int .u64 (z2 : Int), .int .u64 (z3 : Int)]) ∧
        Below w.heap.size w w' ∧ Hid (lt4 z0 z1 z2 z3 ∧ v4 z0 z1 z2 z3 = (v4 x0 x1 x2 x3 * v4 y0 y1 y2 y3) % 57896044618658097711785492504343953926634992332820282019728792003956564819949) := by
  have HX : Hid _ := hx
  have HY : Hid _ := hy
  clear hx hy
  unfold L4
  go_enter Tryd.func93, Tryd.ntmps93
  go_wp2_with fail
  refine (wide_at _ _ x0 x1 x2 x3 y0 y1 y2 y3 _ rfl rfl HX.out HY.out).mono ?_
  rintro e w1 ⟨z0, z1, z2, z3, z4, z5, z6, z7, rfl, hb1, HZ⟩
  have QB : Hid (Below w.heap.size w w1) := Below.trans (by (repeat (first | with_reducible exact Below.refl _ _ | with_reducible assumption | with_reducible refine Below.drew ?_ | (with_reducible refine Below.alloc ?_ ?hB _; (case hB => first | omega | (simp <;> omega))) | (with_reducible refine Below.setCell ?_ ?hB _; (case hB => first | omega | (simp <;> omega)))))) (hb1.mono (by first | omega | (simp <;> omega)))
  have cr := after4 hb1 (w.heap.size + 1 + 1) (by first | omega | (simp <;> omega))
  have fr := after_f hb1 (w.heap.size + 1 + 1) (by first | omega | (simp <;> omega))
  have zz := hb1.size
  simp [go_sem] at cr fr zz
  have n1 : w.heap.size + 1 + 1 ≠ w1.heap.size := by omega
  have n2 : w1.heap.size ≠ w.heap.size + 1 + 1 := by omega
  have n3 : w.heap.size + 1 + 1 < w1.heap.size := by omega
  have n4 : w.heap.size ≤ w1.heap.size := by omega
  clear hb1 zz
  go_wp2_with fail
  refine wp_loop_rounds 5 ?_
  rw [rounds_succ]
  go_upto_block 1 with fail
  go_cut [6] (fun s6 wc => ∃ l0 u0 : Nat, s6 = .int .u64 (u0 : Int) ∧ wc = (w1.alloc (.cells #[.int .u64 (l0 : Int), .int .u64 (z1 : Int), .int .u64 (z2 : Int), .int .u64 (z3 : Int), .int .u64 (z4 : Int), .int .u64 (z5 : Int), .int .u64 (z6 : Int), .int .u64 (z7 : Int)] 148)).drew ∧ Hid (l0 < 18446744073709551616 ∧ u0 < 18446744073709551616 ∧ l0 + 18446744073709551616 * u0 = z0 + z4 * 38 + 0))
  case first =>
    go_upto_region 6 with fail
    go_region_with (go_at_call 100; go_must (refine (step_at _ _ _ _ z0 z4 38 0 _ rfl rfl rfl rfl HZ.out.1.1 HZ.out.1.2.2.2.2.1 (by omega) (by omega)).mono ?_; rintro e w_ ⟨l0, u0, rfl, rfl, H0⟩))
    all_goals (go_wp2_with fail; go_meet; exact ⟨l0, u0, rfl, rfl, H0⟩)
  case rest =>
  obtain ⟨l0, u0, rfl, rfl, H0⟩ := hcut
  go_wp2_with fail
  rw [rounds_succ]
  go_upto_block 1 with fail
  go_cut [6] (fun s6 wc => ∃ l1 u1 : Nat, s6 = .int .u64 (u1 : Int) ∧ wc = (w1.alloc (.cells #[.int .u64 (l0 : Int), .int .u64 (l1 : Int), .int .u64 (z2 : Int), .int .u64 (z3 : Int), .int .u64 (z4 : Int), .int .u64 (z5 : Int), .int .u64 (z6 : Int), .int .u64 (z7 : Int)] 148)).drew.drew ∧ Hid (l1 < 18446744073709551616 ∧ u1 < 18446744073709551616 ∧ l1 + 18446744073709551616 * u1 = z1 + z5 * 38 + u0))
  case first =>
    go_upto_region 6 with fail
    go_region_with (go_at_call 100; go_must (refine (step_at _ _ _ _ z1 z5 38 u0 _ rfl rfl rfl rfl HZ.out.1.2.1 HZ.out.1.2.2.2.2.2.1 (by omega) H0.out.2.1).mono ?_; rintro e w_ ⟨l1, u1, rfl, rfl, H1⟩))
    all_goals (go_wp2_with fail; go_meet; exact ⟨l1, u1, rfl, rfl, H1⟩)
  case rest =>
  obtain ⟨l1, u1, rfl, rfl, H1⟩ := hcut
  go_wp2_with fail
  rw [rounds_succ]
  go_upto_block 1 with fail
  go_cut [6] (fun s6 wc => ∃ l2 u2 : Nat, s6 = .int .u64 (u2 : Int) ∧ wc = (w1.alloc (.cells #[.int .u64 (l0 : Int), .int .u64 (l1 : Int), .int .u64 (l2 : Int), .int .u64 (z3 : Int), .int .u64 (z4 : Int), .int .u64 (z5 : Int), .int .u64 (z6 : Int), .int .u64 (z7 : Int)] 148)).drew.drew.drew ∧ Hid (l2 < 18446744073709551616 ∧ u2 < 18446744073709551616 ∧ l2 + 18446744073709551616 * u2 = z2 + z6 * 38 + u1))
  case first =>
    go_upto_region 6 with fail
    go_region_with (go_at_call 100; go_must (refine (step_at _ _ _ _ z2 z6 38 u1 _ rfl rfl rfl rfl HZ.out.1.2.2.1 HZ.out.1.2.2.2.2.2.2.1 (by omega) H1.out.2.1).mono ?_; rintro e w_ ⟨l2, u2, rfl, rfl, H2⟩))
    all_goals (go_wp2_with fail; go_meet; exact ⟨l2, u2, rfl, rfl, H2⟩)
  case rest =>
  obtain ⟨l2, u2, rfl, rfl, H2⟩ := hcut
  go_wp2_with fail
  rw [rounds_succ]
  go_upto_block 1 with fail
  go_cut [6] (fun s6 wc => ∃ l3 u3 : Nat, s6 = .int .u64 (u3 : Int) ∧ wc = (w1.alloc (.cells #[.int .u64 (l0 : Int), .int .u64 (l1 : Int), .int .u64 (l2 : Int), .int .u64 (l3 : Int), .int .u64 (z4 : Int), .int .u64 (z5 : Int), .int .u64 (z6 : Int), .int .u64 (z7 : Int)] 148)).drew.drew.drew.drew ∧ Hid (l3 < 18446744073709551616 ∧ u3 < 18446744073709551616 ∧ l3 + 18446744073709551616 * u3 = z3 + z7 * 38 + u2))
  case first =>
    go_upto_region 6 with fail
    go_region_with (go_at_call 100; go_must (refine (step_at _ _ _ _ z3 z7 38 u2 _ rfl rfl rfl rfl HZ.out.1.2.2.2.1 HZ.out.1.2.2.2.2.2.2.2 (by omega) H2.out.2.1).mono ?_; rintro e w_ ⟨l3, u3, rfl, rfl, H3⟩))
    all_goals (go_wp2_with fail; go_meet; exact ⟨l3, u3, rfl, rfl, H3⟩)
  case rest =>
  obtain ⟨l3, u3, rfl, rfl, H3⟩ := hcut
  go_wp2_with fail
  rw [rounds_succ]
  go_wp2_with fail
  refine (fold_at _ _ l0 l1 l2 l3 u3 _ rfl rfl ⟨H0.out.1, H1.out.1, H2.out.1, H3.out.1⟩ (product_arith _ _ _ _ _ _ _ _ _ _ _ _ _ _ _ _ HZ.out.1 H0.out H1.out H2.out H3.out).1).mono ?_
  rintro e w2 ⟨r0, r1, r2, r3, rfl, hb2, HF⟩
  have QB2 : Hid (Below w.heap.size w w2) := (have q := QB.out; Below.trans (by (repeat (first | with_reducible exact Below.refl _ _ | with_reducible assumption | with_reducible refine Below.drew ?_ | (with_reducible refine Below.alloc ?_ ?hB _; (case hB => first | omega | (simp <;> omega))) | (with_reducible refine Below.setCell ?_ ?hB _; (case hB => first | omega | (simp <;> omega)))))) (hb2.mono (by first | omega | (simp <;> omega))))
  have cr2 := after4 hb2 (w.heap.size + 1 + 1) (by first | omega | (simp <;> omega))
  have fr2 := after_f hb2 (w.heap.size + 1 + 1) (by first | omega | (simp <;> omega))
  simp [go_sem, cr, fr, n1, n2, n3] at cr2 fr2
  clear hb2
  go_wp2
  refine bodyPost_ret (v := .agg #[.int .u64 (r0 : Int), .int .u64 (r1 : Int), .int .u64 (r2 : Int), .int .u64 (r3 : Int)]) (by simp [results, Tryd.results93, go_sem, cr2, fr2]) rfl ⟨r0, r1, r2, r3, rfl, ?_, HF.out.1, ?_⟩
  · have q := QB2.out
    repeat (first | with_reducible exact Below.refl _ _ | with_reducible assumption | with_reducible refine Below.drew ?_ | (with_reducible refine Below.alloc ?_ ?hB _; (case hB => first | omega | (simp <;> omega))) | (with_reducible refine Below.setCell ?_ ?hB _; (case hB => first | omega | (simp <;> omega))))
  · rw [HF.out.2, (product_arith _ _ _ _ _ _ _ _ _ _ _ _ _ _ _ _ HZ.out.1 H0.out H1.out H2.out H3.out).2, HZ.out.2]

end Go.Proofs.YtjkdonjcngmjeaaDoor
/-
  What package limb does with four words: sums, and what is taken off p.
-/
namespace Go.Proofs.YtjkdonjcngmjeaaDoor
open Go.RowKit
set_option linter.unusedSimpArgs false
set_option linter.unusedVariables false

set_option maxHeartbeats 1000000 in
theorem sum_any (x0 x1 x2 x3 y0 y1 y2 y3 : Nat) (w : World) (hx : lt4 x0 x1 x2 x3) (hy : lt4 y0 y1 y2 y3) :
    Calls Tryd.prog 97 #[L4 x0 x1 x2 x3, L4 y0 y1 y2 y3] w
      fun e w' => ∃ z0 z1 z2 z3 : Nat, e = .returned (.agg #[.int .u64 (z0 : Int), .int .u64 (z1 : Int), .int .u64 (z2 : Int), .int .u64 (z3 : Int)]) ∧
        Below w.heap.size w w' ∧ Hid (lt4 z0 z1 z2 z3 ∧ v4 z0 z1 z2 z3 = (v4 x0 x1 x2 x3 + v4 y0 y1 y2 y3) % 57896044618658097711785492504343953926634992332820282019728792003956564819949) := by
  have HX := (show Hid _ from hx)
  have HY := (show Hid _ from hy)
  unfold L4
  clear hx hy
  go_enter Tryd.func97, Tryd.ntmps97
  go_wp2_with fail
  refine (add_at _ _ x0 x1 x2 x3 y0 y1 y2 y3 _ rfl rfl HX.out HY.out).mono ?_
  rintro e w1 ⟨s0, s1, s2, s3, c, rfl, hb1, H1⟩
  have HC : Hid (c ≤ 38) := by
    have h1 := H1.out; have hy := HY.out; have hx := HX.out
    show c ≤ 38
    unfold lt4 v4 at *; omega
  have B1 : Hid (Below w.heap.size w w1) := Below.trans (by (repeat (first | with_reducible exact Below.refl _ _ | with_reducible assumption | with_reducible refine Below.drew ?_ | (with_reducible refine Below.alloc ?_ ?hB _; (case hB => first | omega | (simp <;> omega))) | (with_reducible refine Below.setCell ?_ ?hB _; (case hB => first | omega | (simp <;> omega)))))) (hb1.mono (by first | omega | (simp <;> omega)))
  have c1c := after4 hb1 (w.heap.size + 1 + 1) (by first | omega | (simp <;> omega))
  have f1c := after_f hb1 (w.heap.size + 1 + 1) (by first | omega | (simp <;> omega))
  try simp [go_sem] at c1c f1c
  obtain ⟨c1c0, c1c1, c1c2, c1c3⟩ := c1c
  have zz1 := hb1.size
  try simp at zz1
  have l1c : w.heap.size + 1 + 1 < w1.heap.size := by omega
  have n1c : w.heap.size + 1 + 1 ≠ w1.heap.size := by omega
  clear hb1 zz1
  go_wp2_with fail
  refine (fold_at _ _ s0 s1 s2 s3 c _ rfl rfl H1.out.1 HC.out).mono ?_
  rintro e w2 ⟨z0, z1, z2, z3, rfl, hb2, H2⟩
  have q1 := B1.out
  have B2 : Hid (Below w.heap.size w w2) := Below.trans (by (repeat (first | with_reducible exact Below.refl _ _ | with_reducible assumption | with_reducible refine Below.drew ?_ | (with_reducible refine Below.alloc ?_ ?hB _; (case hB => first | omega | (simp <;> omega))) | (with_reducible refine Below.setCell ?_ ?hB _; (case hB => first | omega | (simp <;> omega)))))) (hb2.mono (by first | omega | (simp <;> omega)))
  clear q1
  have c2c := after4 hb2 (w.heap.size + 1 + 1) (by first | omega | (simp <;> omega))
  have f2c := after_f hb2 (w.heap.size + 1 + 1) (by first | omega | (simp <;> omega))
  try simp [go_sem, c1c0, c1c1, c1c2, c1c3, f1c, l1c, n1c] at c2c f2c
  obtain ⟨c2c0, c2c1, c2c2, c2c3⟩ := c2c
  have zz2 := hb2.size
  try simp at zz2
  have l2c : w.heap.size + 1 + 1 < w2.heap.size := by omega
  have n2c : w.heap.size + 1 + 1 ≠ w2.heap.size := by omega
  clear hb2 zz2
  clear c1c0 c1c1 c1c2 c1c3 f1c l1c n1c
  go_wp2
  refine bodyPost_ret (v := .agg #[.int .u64 (z0 : Int), .int .u64 (z1 : Int), .int .u64 (z2 : Int), .int .u64 (z3 : Int)]) (by simp [results, Tryd.results97, go_sem, c2c0, c2c1, c2c2, c2c3, f2c, l2c, n2c]) rfl ⟨z0, z1, z2, z3, rfl, ?_, H2.out.1, ?_⟩
  · have q2 := B2.out
    repeat (first | with_reducible exact Below.refl _ _ | with_reducible assumption | with_reducible refine Below.drew ?_ | (with_reducible refine Below.alloc ?_ ?hB _; (case hB => first | omega | (simp <;> omega))) | (with_reducible refine Below.setCell ?_ ?hB _; (case hB => first | omega | (simp <;> omega))))
  · rw [H2.out.2, H1.out.2]

/-- The program's variable that holds p. -/
def PrimeAt (w : World) : Prop := w.cell? ⟨2, 0, none⟩ = some (.int .u64 18446744073709551597) ∧ w.cell? ⟨2, 1, none⟩ = some (.int .u64 18446744073709551615) ∧ w.cell? ⟨2, 2, none⟩ = some (.int .u64 18446744073709551615) ∧ w.cell? ⟨2, 3, none⟩ = some (.int .u64 9223372036854775807)
theorem PrimeAt.lt {w : World} (h : PrimeAt w) : 2 < w.heap.size := block_lt_of_cell h.1
theorem PrimeAt.below {w w' : World} (h : PrimeAt w) (hb : Below w.heap.size w w') : PrimeAt w' :=
  ⟨(hb.cell (p := ⟨2, 0, none⟩) h.lt).trans h.1, (hb.cell (p := ⟨2, 1, none⟩) h.lt).trans h.2.1, (hb.cell (p := ⟨2, 2, none⟩) h.lt).trans h.2.2.1, (hb.cell (p := ⟨2, 3, none⟩) h.lt).trans h.2.2.2⟩

end Go.Proofs.YtjkdonjcngmjeaaDoor
/-
  What package limb does with four words: the power of p - 2.
-/
namespace Go.Proofs.YtjkdonjcngmjeaaDoor
open Go.RowKit
set_option linter.unusedSimpArgs false
set_option linter.unusedVariables false

end Go.Proofs.YtjkdonjcngmjeaaDoor
/-
  Powers modulo a number, reckoned by squares.
-/
namespace Go.Proofs.YtjkdonjcngmjeaaDoor

end Go.Proofs.YtjkdonjcngmjeaaDoor
/-
  What the calls of package limb answer, on numbers of 32 bytes.
-/
namespace Go.Proofs.YtjkdonjcngmjeaaDoor
open Go.RowKit
set_option linter.unusedSimpArgs false
set_option linter.unusedVariables false

theorem hide {p : Prop} (h : p) : Hid p := h
theorem store_at (X : Value) (z0 z1 z2 z3 : Nat) (w : World) (hX : X = L4 z0 z1 z2 z3) (hz : lt4 z0 z1 z2 z3) :
    Calls Tryd.prog 92 #[X] w fun e w' => e = .returned (.agg (numA (v4 z0 z1 z2 z3))) ∧ Below w.heap.size w w' := by
  subst hX; exact store_any z0 z1 z2 z3 w hz

set_option maxHeartbeats 1000000 in
theorem Reduce_any (n : Nat) (w : World) (hn : n < 115792089237316195423570985008687907853269984665640564039457584007913129639936) :
    Calls Tryd.prog 86 #[.agg (numA n)] w fun e w' => e = .returned (.agg (numA (n % 57896044618658097711785492504343953926634992332820282019728792003956564819949))) ∧ Below w.heap.size w w' := by
  have HN : Hid _ := hn
  clear hn
  have hg0 := heap_alloc2_old w (.cells (numA n) 22) (.cells #[.int .u8 0, .int .u8 0, .int .u8 0, .int .u8 0, .int .u8 0, .int .u8 0, .int .u8 0, .int .u8 0, .int .u8 0, .int .u8 0, .int .u8 0, .int .u8 0, .int .u8 0, .int .u8 0, .int .u8 0, .int .u8 0, .int .u8 0, .int .u8 0, .int .u8 0, .int .u8 0, .int .u8 0, .int .u8 0, .int .u8 0, .int .u8 0, .int .u8 0, .int .u8 0, .int .u8 0, .int .u8 0, .int .u8 0, .int .u8 0, .int .u8 0, .int .u8 0] 22)
  have hg1 := heap_alloc2_new w (.cells (numA n) 22) (.cells #[.int .u8 0, .int .u8 0, .int .u8 0, .int .u8 0, .int .u8 0, .int .u8 0, .int .u8 0, .int .u8 0, .int .u8 0, .int .u8 0, .int .u8 0, .int .u8 0, .int .u8 0, .int .u8 0, .int .u8 0, .int .u8 0, .int .u8 0, .int .u8 0, .int .u8 0, .int .u8 0, .int .u8 0, .int .u8 0, .int .u8 0, .int .u8 0, .int .u8 0, .int .u8 0, .int .u8 0, .int .u8 0, .int .u8 0, .int .u8 0, .int .u8 0, .int .u8 0] 22)
  have G0 : Hid _ := hg0
  have G1 : Hid _ := hg1
  have QB : Hid (Below w.heap.size w ((w.alloc (.cells (numA n) 22)).alloc (.cells #[.int .u8 0, .int .u8 0, .int .u8 0, .int .u8 0, .int .u8 0, .int .u8 0, .int .u8 0, .int .u8 0, .int .u8 0, .int .u8 0, .int .u8 0, .int .u8 0, .int .u8 0, .int .u8 0, .int .u8 0, .int .u8 0, .int .u8 0, .int .u8 0, .int .u8 0, .int .u8 0, .int .u8 0, .int .u8 0, .int .u8 0, .int .u8 0, .int .u8 0, .int .u8 0, .int .u8 0, .int .u8 0, .int .u8 0, .int .u8 0, .int .u8 0, .int .u8 0] 22))) := by show Below _ _ _; (repeat (first | with_reducible exact Below.refl _ _ | with_reducible assumption | with_reducible refine Below.drew ?_ | (with_reducible refine Below.alloc ?_ ?hB _; (case hB => first | omega | (simp <;> omega))) | (with_reducible refine Below.setCell ?_ ?hB _; (case hB => first | omega | (simp <;> omega)))))
  have LT : Hid (w.heap.size + 1 < ((w.alloc (.cells (numA n) 22)).alloc (.cells #[.int .u8 0, .int .u8 0, .int .u8 0, .int .u8 0, .int .u8 0, .int .u8 0, .int .u8 0, .int .u8 0, .int .u8 0, .int .u8 0, .int .u8 0, .int .u8 0, .int .u8 0, .int .u8 0, .int .u8 0, .int .u8 0, .int .u8 0, .int .u8 0, .int .u8 0, .int .u8 0, .int .u8 0, .int .u8 0, .int .u8 0, .int .u8 0, .int .u8 0, .int .u8 0, .int .u8 0, .int .u8 0, .int .u8 0, .int .u8 0, .int .u8 0, .int .u8 0] 22)).heap.size) := by show _ < _; simp
  clear hg0 hg1
  skip
  skip
  go_enter Tryd.func86, Tryd.ntmps86
  go_wp2_with (first | (refine wpList_load_row rfl 22 _ rfl _ rfl 22 (numA n) (0, 0) _ G0.out Tryd.underlying22 rfl ?hs ?_; (case hs => rw [numA_size]; kernel_rfl)))
  refine (load_at _ n _ rfl).mono ?_
  rintro e w1 ⟨rfl, hb1⟩
  have G1' : Hid _ := (hb1.block _ LT.out).trans G1.out
  have Q1 : Hid (Below w.heap.size w w1) := QB.out.trans (hb1.mono (by have := LT.out; omega))
  have L1 : Hid (w.heap.size + 1 < w1.heap.size) := Nat.lt_of_lt_of_le LT.out hb1.size
  skip
  clear hb1 G0 G1 LT QB
  go_wp2_with fail
  refine (reduce_at _ (n % 18446744073709551616) (n / 18446744073709551616 % 18446744073709551616) (n / 18446744073709551616 / 18446744073709551616 % 18446744073709551616) (n / 18446744073709551616 / 18446744073709551616 / 18446744073709551616 % 18446744073709551616) _ rfl (lt4_of n)).mono ?_
  rintro e w2 ⟨z0, z1, z2, z3, rfl, hb2, HZ⟩
  have G2 : Hid _ := (hb2.block _ L1.out).trans G1'.out
  have Q2 : Hid (Below w.heap.size w w2) := Q1.out.trans (hb2.mono (by have := L1.out; omega))
  have L2 : Hid (w.heap.size + 1 < w2.heap.size) := Nat.lt_of_lt_of_le L1.out hb2.size
  clear hb2 G1' Q1 L1
  go_wp2_with fail
  refine (store_at _ z0 z1 z2 z3 _ rfl HZ.out.1).mono ?_
  rintro e w3 ⟨rfl, hb3⟩
  have G3 : Hid _ := (hb3.block _ L2.out).trans G2.out
  have Q3 : Hid (Below w.heap.size w w3) := Q2.out.trans (hb3.mono (by have := L2.out; omega))
  clear hb3 G2 Q2
  go_wp2_with (refine wpList_store_row rfl 22 _ _ rfl _ (numA (v4 z0 z1 z2 z3)) rfl rfl 22 _ G3.out ?hs ?hs2 (numA_one _) ?_; (case hs => rw [numA_size]; kernel_rfl); (case hs2 => rw [numA_size]; rfl))
  have e1 : v4 z0 z1 z2 z3 = n % 57896044618658097711785492504343953926634992332820282019728792003956564819949 := by rw [HZ.out.2, v4_of n HN.out]
  rw [← e1]
  refine bodyPost_ret (v := .agg (numA (v4 z0 z1 z2 z3))) ?_ rfl ⟨rfl, ?_⟩
  · exact results_cell_row Tryd.results86 _ _ _ 22 (numA (v4 z0 z1 z2 z3)) (0, 0) _ rfl (setRow_heap _ _ _ _ _ _ G3.out) Tryd.underlying22 rfl (by rw [numA_size]; kernel_rfl)
  · exact below_setRow Q3.out (by omega)


/-- A number as four words. -/
def L (N : Nat) : Value := L4 (N % 18446744073709551616) (N / 18446744073709551616 % 18446744073709551616) (N / 18446744073709551616 / 18446744073709551616 % 18446744073709551616) (N / 18446744073709551616 / 18446744073709551616 / 18446744073709551616 % 18446744073709551616)
theorem L4_eq (z0 z1 z2 z3 : Nat) (h : lt4 z0 z1 z2 z3) : L4 z0 z1 z2 z3 = L (v4 z0 z1 z2 z3) := by
  unfold lt4 at h
  have e0 : v4 z0 z1 z2 z3 % 18446744073709551616 = z0 := by unfold v4; omega
  have e1 : v4 z0 z1 z2 z3 / 18446744073709551616 % 18446744073709551616 = z1 := by unfold v4; omega
  have e2 : v4 z0 z1 z2 z3 / 18446744073709551616 / 18446744073709551616 % 18446744073709551616 = z2 := by unfold v4; omega
  have e3 : v4 z0 z1 z2 z3 / 18446744073709551616 / 18446744073709551616 / 18446744073709551616 % 18446744073709551616 = z3 := by unfold v4; omega
  unfold L
  rw [e0, e1, e2, e3]
theorem store_det (N : Nat) (w : World) (hN : N < 115792089237316195423570985008687907853269984665640564039457584007913129639936) : Calls Tryd.prog 92 #[L N] w fun e w' => e = .returned (.agg (numA N)) ∧ Below w.heap.size w w' := by
  have := store_any _ _ _ _ w (lt4_of N)
  rwa [v4_of N hN] at this
theorem sum_det (N M : Nat) (w : World) (hN : N < 115792089237316195423570985008687907853269984665640564039457584007913129639936) (hM : M < 115792089237316195423570985008687907853269984665640564039457584007913129639936) : Calls Tryd.prog 97 #[L N, L M] w fun e w' => e = .returned (L ((N + M) % 57896044618658097711785492504343953926634992332820282019728792003956564819949)) ∧ Below w.heap.size w w' := by
  refine (sum_any _ _ _ _ _ _ _ _ w (lt4_of N) (lt4_of M)).mono ?_
  rintro e w' ⟨z0, z1, z2, z3, rfl, hb, H⟩
  refine ⟨congrArg Ending.returned ((L4_eq z0 z1 z2 z3 H.out.1).trans ?_), hb⟩
  rw [H.out.2, v4_of N hN, v4_of M hM]
theorem product_det (N M : Nat) (w : World) (hN : N < 115792089237316195423570985008687907853269984665640564039457584007913129639936) (hM : M < 115792089237316195423570985008687907853269984665640564039457584007913129639936) : Calls Tryd.prog 93 #[L N, L M] w fun e w' => e = .returned (L (N * M % 57896044618658097711785492504343953926634992332820282019728792003956564819949)) ∧ Below w.heap.size w w' := by
  refine (product_any _ _ _ _ _ _ _ _ w (lt4_of N) (lt4_of M)).mono ?_
  rintro e w' ⟨z0, z1, z2, z3, rfl, hb, H⟩
  refine ⟨congrArg Ending.returned ((L4_eq z0 z1 z2 z3 H.out.1).trans ?_), hb⟩
  rw [H.out.2, v4_of N hN, v4_of M hM]
set_option maxHeartbeats 1000000 in
theorem Add_any (n m : Nat) (w : World) (hn : n < 115792089237316195423570985008687907853269984665640564039457584007913129639936) (hm : m < 115792089237316195423570985008687907853269984665640564039457584007913129639936) :
    Calls Tryd.prog 89 #[.agg (numA n), .agg (numA m)] w fun e w' => e = .returned (.agg (numA ((n + m) % 57896044618658097711785492504343953926634992332820282019728792003956564819949))) ∧ Below w.heap.size w w' := by
  have hvl : (n + m) % 57896044618658097711785492504343953926634992332820282019728792003956564819949 < 115792089237316195423570985008687907853269984665640564039457584007913129639936 := Nat.lt_trans (Nat.mod_lt _ (by omega)) (by omega)
  generalize hv : (n + m) % 57896044618658097711785492504343953926634992332820282019728792003956564819949 = v at hvl ⊢
  replace hv := hv.symm
  have QB : Hid (Below w.heap.size w (((w.alloc (.cells (numA n) 22)).alloc (.cells (numA m) 22)).alloc (.cells #[.int .u8 0, .int .u8 0, .int .u8 0, .int .u8 0, .int .u8 0, .int .u8 0, .int .u8 0, .int .u8 0, .int .u8 0, .int .u8 0, .int .u8 0, .int .u8 0, .int .u8 0, .int .u8 0, .int .u8 0, .int .u8 0, .int .u8 0, .int .u8 0, .int .u8 0, .int .u8 0, .int .u8 0, .int .u8 0, .int .u8 0, .int .u8 0, .int .u8 0, .int .u8 0, .int .u8 0, .int .u8 0, .int .u8 0, .int .u8 0, .int .u8 0, .int .u8 0] 22))) := by show Below _ _ _; (repeat (first | with_reducible exact Below.refl _ _ | with_reducible assumption | with_reducible refine Below.drew ?_ | (with_reducible refine Below.alloc ?_ ?hB _; (case hB => first | omega | (simp <;> omega))) | (with_reducible refine Below.setCell ?_ ?hB _; (case hB => first | omega | (simp <;> omega)))))
  have C0 : ∀ k w', Below (((w.alloc (.cells (numA n) 22)).alloc (.cells (numA m) 22)).alloc (.cells #[.int .u8 0, .int .u8 0, .int .u8 0, .int .u8 0, .int .u8 0, .int .u8 0, .int .u8 0, .int .u8 0, .int .u8 0, .int .u8 0, .int .u8 0, .int .u8 0, .int .u8 0, .int .u8 0, .int .u8 0, .int .u8 0, .int .u8 0, .int .u8 0, .int .u8 0, .int .u8 0, .int .u8 0, .int .u8 0, .int .u8 0, .int .u8 0, .int .u8 0, .int .u8 0, .int .u8 0, .int .u8 0, .int .u8 0, .int .u8 0, .int .u8 0, .int .u8 0] 22)).heap.size (((w.alloc (.cells (numA n) 22)).alloc (.cells (numA m) 22)).alloc (.cells #[.int .u8 0, .int .u8 0, .int .u8 0, .int .u8 0, .int .u8 0, .int .u8 0, .int .u8 0, .int .u8 0, .int .u8 0, .int .u8 0, .int .u8 0, .int .u8 0, .int .u8 0, .int .u8 0, .int .u8 0, .int .u8 0, .int .u8 0, .int .u8 0, .int .u8 0, .int .u8 0, .int .u8 0, .int .u8 0, .int .u8 0, .int .u8 0, .int .u8 0, .int .u8 0, .int .u8 0, .int .u8 0, .int .u8 0, .int .u8 0, .int .u8 0, .int .u8 0] 22)) w' → Calls Tryd.prog 94 [.agg (numA k)].toArray w' fun e w2 => e = .returned (L k) ∧ Below (((w.alloc (.cells (numA n) 22)).alloc (.cells (numA m) 22)).alloc (.cells #[.int .u8 0, .int .u8 0, .int .u8 0, .int .u8 0, .int .u8 0, .int .u8 0, .int .u8 0, .int .u8 0, .int .u8 0, .int .u8 0, .int .u8 0, .int .u8 0, .int .u8 0, .int .u8 0, .int .u8 0, .int .u8 0, .int .u8 0, .int .u8 0, .int .u8 0, .int .u8 0, .int .u8 0, .int .u8 0, .int .u8 0, .int .u8 0, .int .u8 0, .int .u8 0, .int .u8 0, .int .u8 0, .int .u8 0, .int .u8 0, .int .u8 0, .int .u8 0] 22)).heap.size (((w.alloc (.cells (numA n) 22)).alloc (.cells (numA m) 22)).alloc (.cells #[.int .u8 0, .int .u8 0, .int .u8 0, .int .u8 0, .int .u8 0, .int .u8 0, .int .u8 0, .int .u8 0, .int .u8 0, .int .u8 0, .int .u8 0, .int .u8 0, .int .u8 0, .int .u8 0, .int .u8 0, .int .u8 0, .int .u8 0, .int .u8 0, .int .u8 0, .int .u8 0, .int .u8 0, .int .u8 0, .int .u8 0, .int .u8 0, .int .u8 0, .int .u8 0, .int .u8 0, .int .u8 0, .int .u8 0, .int .u8 0, .int .u8 0, .int .u8 0] 22)) w2 := fun k w' hb => (load_at _ k w' rfl).mono fun e w2 hh => ⟨hh.1, hb.trans (hh.2.mono hb.size)⟩
  have C2 : ∀ w', Below (((w.alloc (.cells (numA n) 22)).alloc (.cells (numA m) 22)).alloc (.cells #[.int .u8 0, .int .u8 0, .int .u8 0, .int .u8 0, .int .u8 0, .int .u8 0, .int .u8 0, .int .u8 0, .int .u8 0, .int .u8 0, .int .u8 0, .int .u8 0, .int .u8 0, .int .u8 0, .int .u8 0, .int .u8 0, .int .u8 0, .int .u8 0, .int .u8 0, .int .u8 0, .int .u8 0, .int .u8 0, .int .u8 0, .int .u8 0, .int .u8 0, .int .u8 0, .int .u8 0, .int .u8 0, .int .u8 0, .int .u8 0, .int .u8 0, .int .u8 0] 22)).heap.size (((w.alloc (.cells (numA n) 22)).alloc (.cells (numA m) 22)).alloc (.cells #[.int .u8 0, .int .u8 0, .int .u8 0, .int .u8 0, .int .u8 0, .int .u8 0, .int .u8 0, .int .u8 0, .int .u8 0, .int .u8 0, .int .u8 0, .int .u8 0, .int .u8 0, .int .u8 0, .int .u8 0, .int .u8 0, .int .u8 0, .int .u8 0, .int .u8 0, .int .u8 0, .int .u8 0, .int .u8 0, .int .u8 0, .int .u8 0, .int .u8 0, .int .u8 0, .int .u8 0, .int .u8 0, .int .u8 0, .int .u8 0, .int .u8 0, .int .u8 0] 22)) w' → Calls Tryd.prog 97 [L n, L m].toArray w' fun e w2 => e = .returned (L v) ∧ Below (((w.alloc (.cells (numA n) 22)).alloc (.cells (numA m) 22)).alloc (.cells #[.int .u8 0, .int .u8 0, .int .u8 0, .int .u8 0, .int .u8 0, .int .u8 0, .int .u8 0, .int .u8 0, .int .u8 0, .int .u8 0, .int .u8 0, .int .u8 0, .int .u8 0, .int .u8 0, .int .u8 0, .int .u8 0, .int .u8 0, .int .u8 0, .int .u8 0, .int .u8 0, .int .u8 0, .int .u8 0, .int .u8 0, .int .u8 0, .int .u8 0, .int .u8 0, .int .u8 0, .int .u8 0, .int .u8 0, .int .u8 0, .int .u8 0, .int .u8 0] 22)).heap.size (((w.alloc (.cells (numA n) 22)).alloc (.cells (numA m) 22)).alloc (.cells #[.int .u8 0, .int .u8 0, .int .u8 0, .int .u8 0, .int .u8 0, .int .u8 0, .int .u8 0, .int .u8 0, .int .u8 0, .int .u8 0, .int .u8 0, .int .u8 0, .int .u8 0, .int .u8 0, .int .u8 0, .int .u8 0, .int .u8 0, .int .u8 0, .int .u8 0, .int .u8 0, .int .u8 0, .int .u8 0, .int .u8 0, .int .u8 0, .int .u8 0, .int .u8 0, .int .u8 0, .int .u8 0, .int .u8 0, .int .u8 0, .int .u8 0, .int .u8 0] 22)) w2 := fun w' hb => by
    rw [hv]
    exact (sum_det n m w' hn hm).mono fun e w2 hh => ⟨hh.1, hb.trans (hh.2.mono hb.size)⟩
  have C3 : ∀ w', Below (((w.alloc (.cells (numA n) 22)).alloc (.cells (numA m) 22)).alloc (.cells #[.int .u8 0, .int .u8 0, .int .u8 0, .int .u8 0, .int .u8 0, .int .u8 0, .int .u8 0, .int .u8 0, .int .u8 0, .int .u8 0, .int .u8 0, .int .u8 0, .int .u8 0, .int .u8 0, .int .u8 0, .int .u8 0, .int .u8 0, .int .u8 0, .int .u8 0, .int .u8 0, .int .u8 0, .int .u8 0, .int .u8 0, .int .u8 0, .int .u8 0, .int .u8 0, .int .u8 0, .int .u8 0, .int .u8 0, .int .u8 0, .int .u8 0, .int .u8 0] 22)).heap.size (((w.alloc (.cells (numA n) 22)).alloc (.cells (numA m) 22)).alloc (.cells #[.int .u8 0, .int .u8 0, .int .u8 0, .int .u8 0, .int .u8 0, .int .u8 0, .int .u8 0, .int .u8 0, .int .u8 0, .int .u8 0, .int .u8 0, .int .u8 0, .int .u8 0, .int .u8 0, .int .u8 0, .int .u8 0, .int .u8 0, .int .u8 0, .int .u8 0, .int .u8 0, .int .u8 0, .int .u8 0, .int .u8 0, .int .u8 0, .int .u8 0, .int .u8 0, .int .u8 0, .int .u8 0, .int .u8 0, .int .u8 0, .int .u8 0, .int .u8 0] 22)) w' → Calls Tryd.prog 92 [L v].toArray w' fun e w2 => e = .returned (.agg (numA v)) ∧ Below (((w.alloc (.cells (numA n) 22)).alloc (.cells (numA m) 22)).alloc (.cells #[.int .u8 0, .int .u8 0, .int .u8 0, .int .u8 0, .int .u8 0, .int .u8 0, .int .u8 0, .int .u8 0, .int .u8 0, .int .u8 0, .int .u8 0, .int .u8 0, .int .u8 0, .int .u8 0, .int .u8 0, .int .u8 0, .int .u8 0, .int .u8 0, .int .u8 0, .int .u8 0, .int .u8 0, .int .u8 0, .int .u8 0, .int .u8 0, .int .u8 0, .int .u8 0, .int .u8 0, .int .u8 0, .int .u8 0, .int .u8 0, .int .u8 0, .int .u8 0] 22)).heap.size (((w.alloc (.cells (numA n) 22)).alloc (.cells (numA m) 22)).alloc (.cells #[.int .u8 0, .int .u8 0, .int .u8 0, .int .u8 0, .int .u8 0, .int .u8 0, .int .u8 0, .int .u8 0, .int .u8 0, .int .u8 0, .int .u8 0, .int .u8 0, .int .u8 0, .int .u8 0, .int .u8 0, .int .u8 0, .int .u8 0, .int .u8 0, .int .u8 0, .int .u8 0, .int .u8 0, .int .u8 0, .int .u8 0, .int .u8 0, .int .u8 0, .int .u8 0, .int .u8 0, .int .u8 0, .int .u8 0, .int .u8 0, .int .u8 0, .int .u8 0] 22)) w2 := fun w' hb => (store_det v w' hvl).mono fun e w2 hh => ⟨hh.1, hb.trans (hh.2.mono hb.size)⟩
  clear hn hm hv hvl
  have G0 : Hid ((((w.alloc (.cells (numA n) 22)).alloc (.cells (numA m) 22)).alloc (.cells #[.int .u8 0, .int .u8 0, .int .u8 0, .int .u8 0, .int .u8 0, .int .u8 0, .int .u8 0, .int .u8 0, .int .u8 0, .int .u8 0, .int .u8 0, .int .u8 0, .int .u8 0, .int .u8 0, .int .u8 0, .int .u8 0, .int .u8 0, .int .u8 0, .int .u8 0, .int .u8 0, .int .u8 0, .int .u8 0, .int .u8 0, .int .u8 0, .int .u8 0, .int .u8 0, .int .u8 0, .int .u8 0, .int .u8 0, .int .u8 0, .int .u8 0, .int .u8 0] 22)).heap[w.heap.size]? = some (.cells (numA n) 22 (0, 0))) := by show _ = _; rw [heap_alloc_old _ _ (by first | omega | (simp <;> omega))]; exact heap_alloc2_old _ _ _
  have G1 : Hid ((((w.alloc (.cells (numA n) 22)).alloc (.cells (numA m) 22)).alloc (.cells #[.int .u8 0, .int .u8 0, .int .u8 0, .int .u8 0, .int .u8 0, .int .u8 0, .int .u8 0, .int .u8 0, .int .u8 0, .int .u8 0, .int .u8 0, .int .u8 0, .int .u8 0, .int .u8 0, .int .u8 0, .int .u8 0, .int .u8 0, .int .u8 0, .int .u8 0, .int .u8 0, .int .u8 0, .int .u8 0, .int .u8 0, .int .u8 0, .int .u8 0, .int .u8 0, .int .u8 0, .int .u8 0, .int .u8 0, .int .u8 0, .int .u8 0, .int .u8 0] 22)).heap[w.heap.size + 1]? = some (.cells (numA m) 22 (0, 0))) := by show _ = _; rw [heap_alloc_old _ _ (by first | omega | (simp <;> omega))]; exact heap_alloc2_new _ _ _
  have G2 : Hid ((((w.alloc (.cells (numA n) 22)).alloc (.cells (numA m) 22)).alloc (.cells #[.int .u8 0, .int .u8 0, .int .u8 0, .int .u8 0, .int .u8 0, .int .u8 0, .int .u8 0, .int .u8 0, .int .u8 0, .int .u8 0, .int .u8 0, .int .u8 0, .int .u8 0, .int .u8 0, .int .u8 0, .int .u8 0, .int .u8 0, .int .u8 0, .int .u8 0, .int .u8 0, .int .u8 0, .int .u8 0, .int .u8 0, .int .u8 0, .int .u8 0, .int .u8 0, .int .u8 0, .int .u8 0, .int .u8 0, .int .u8 0, .int .u8 0, .int .u8 0] 22)).heap[w.heap.size + 1 + 1]? = some (.cells #[.int .u8 0, .int .u8 0, .int .u8 0, .int .u8 0, .int .u8 0, .int .u8 0, .int .u8 0, .int .u8 0, .int .u8 0, .int .u8 0, .int .u8 0, .int .u8 0, .int .u8 0, .int .u8 0, .int .u8 0, .int .u8 0, .int .u8 0, .int .u8 0, .int .u8 0, .int .u8 0, .int .u8 0, .int .u8 0, .int .u8 0, .int .u8 0, .int .u8 0, .int .u8 0, .int .u8 0, .int .u8 0, .int .u8 0, .int .u8 0, .int .u8 0, .int .u8 0] 22 (0, 0))) := alloc_top _ _ _ (by simp)
  have LT : Hid (w.heap.size + 1 + 1 < (((w.alloc (.cells (numA n) 22)).alloc (.cells (numA m) 22)).alloc (.cells #[.int .u8 0, .int .u8 0, .int .u8 0, .int .u8 0, .int .u8 0, .int .u8 0, .int .u8 0, .int .u8 0, .int .u8 0, .int .u8 0, .int .u8 0, .int .u8 0, .int .u8 0, .int .u8 0, .int .u8 0, .int .u8 0, .int .u8 0, .int .u8 0, .int .u8 0, .int .u8 0, .int .u8 0, .int .u8 0, .int .u8 0, .int .u8 0, .int .u8 0, .int .u8 0, .int .u8 0, .int .u8 0, .int .u8 0, .int .u8 0, .int .u8 0, .int .u8 0] 22)).heap.size) := by show _ < _; simp
  have D0 := hide C0
  have D2 := hide C2
  have D3 := hide C3
  skip
  clear C0 C2 C3
  go_enter Tryd.func89, Tryd.ntmps89
  go_wp2_with fail
  have C0 := D0.out
  have C2 := D2.out
  have C3 := D3.out
  skip
  refine wp_region_quiet_cut (C := fun w' => Below (((w.alloc (.cells (numA n) 22)).alloc (.cells (numA m) 22)).alloc (.cells #[.int .u8 0, .int .u8 0, .int .u8 0, .int .u8 0, .int .u8 0, .int .u8 0, .int .u8 0, .int .u8 0, .int .u8 0, .int .u8 0, .int .u8 0, .int .u8 0, .int .u8 0, .int .u8 0, .int .u8 0, .int .u8 0, .int .u8 0, .int .u8 0, .int .u8 0, .int .u8 0, .int .u8 0, .int .u8 0, .int .u8 0, .int .u8 0, .int .u8 0, .int .u8 0, .int .u8 0, .int .u8 0, .int .u8 0, .int .u8 0, .int .u8 0, .int .u8 0] 22)).heap.size (((w.alloc (.cells (numA n) 22)).alloc (.cells (numA m) 22)).alloc (.cells #[.int .u8 0, .int .u8 0, .int .u8 0, .int .u8 0, .int .u8 0, .int .u8 0, .int .u8 0, .int .u8 0, .int .u8 0, .int .u8 0, .int .u8 0, .int .u8 0, .int .u8 0, .int .u8 0, .int .u8 0, .int .u8 0, .int .u8 0, .int .u8 0, .int .u8 0, .int .u8 0, .int .u8 0, .int .u8 0, .int .u8 0, .int .u8 0, .int .u8 0, .int .u8 0, .int .u8 0, .int .u8 0, .int .u8 0, .int .u8 0, .int .u8 0, .int .u8 0] 22)) w') 6 (by kernel_rfl) (by kernel_rfl) (by kernel_rfl) (by kernel_rfl) (by kernel_rfl) (by kernel_rfl) ⟨rfl, rfl, rfl, Nat.le_refl _, fun _ _ => rfl⟩ ?_
  dsimp only [List.take_succ_cons, List.take_zero, List.drop_succ_cons, List.drop_zero]
  refine q_load rfl 22 _ w.heap.size 22 (numA n) (0, 0) _ rfl (by kernel_rfl) (fun w' hb => (hb.block _ (by have := LT.out; omega)).trans G0.out) Tryd.underlying22 rfl (by rw [numA_size]; kernel_rfl) ?_
  refine q_call rfl 94 Tryd.f94 _ _ _ [.agg (numA n)] (L n) rfl (by kernel_rfl) Tryd.func94 (by kernel_rfl) rfl (C0 n) ?_
  refine q_load rfl 22 _ (w.heap.size + 1) 22 (numA m) (0, 0) _ rfl (by kernel_rfl) (fun w' hb => (hb.block _ (by have := LT.out; omega)).trans G1.out) Tryd.underlying22 rfl (by rw [numA_size]; kernel_rfl) ?_
  refine q_call rfl 94 Tryd.f94 _ _ _ [.agg (numA m)] (L m) rfl (by kernel_rfl) Tryd.func94 (by kernel_rfl) rfl (C0 m) ?_
  refine q_call rfl 97 Tryd.f97 _ _ _ [L n, L m] (L v) rfl (by kernel_rfl) Tryd.func97 (by kernel_rfl) rfl C2 ?_
  refine q_call rfl 92 Tryd.f92 _ _ _ [L v] (.agg (numA v)) rfl (by kernel_rfl) Tryd.func92 (by kernel_rfl) rfl C3 ?_
  refine wpQuiet_nil ?_
  intro w1 hb1
  simp only [Act.put, List.setIfInBounds_toArray, List.set_cons_succ, List.set_cons_zero]
  have Q1 : Hid (Below w.heap.size w w1) := QB.out.trans (hb1.mono (by have := LT.out; omega))
  have G3 : Hid _ := (hb1.block _ LT.out).trans G2.out
  clear hb1 C0 C2 C3
  refine wpList_store_row rfl 22 _ _ rfl (w.heap.size + 1 + 1) (numA v) (by kernel_rfl) (by kernel_rfl) 22 _ G3.out ?hs ?hs2 (numA_one _) ?_
  case hs => rw [numA_size]; kernel_rfl
  case hs2 => rw [numA_size]; rfl
  go_wp2
  refine bodyPost_ret (v := .agg (numA v)) ?_ rfl ⟨rfl, ?_⟩
  · exact results_cell_row Tryd.results89 _ _ _ 22 (numA v) (0, 0) _ rfl (setRow_heap _ _ _ _ _ _ G3.out) Tryd.underlying22 rfl (by rw [numA_size]; kernel_rfl)
  · exact below_setRow Q1.out (by omega)

end Go.Proofs.YtjkdonjcngmjeaaDoor
