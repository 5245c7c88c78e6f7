/-
  General pieces, joined: W5 W3.
-/
import Derived.Test.YtjkdonjcngmjeaaGreatDoorG25
import Derived.Deep.CutBlock
import Derived.Test.YtjkdonjcngmjeaaGreatDoorG24
import Derived.Deep.RegionWith
import Derived.Deep.DeepCutAuto
/-
  What package limb does with four words: products modulo p.
-/
namespace Go.Proofs.YtjkdonjcngmjeaaGreatDoor
open Go.RowKit
set_option linter.unusedSimpArgs false
set_option linter.unusedVariables false

theorem wide_at (X Y : Value) (x0 x1 x2 x3 y0 y1 y2 y3 : Nat) (w : World) (hX : X = L4 x0 x1 x2 x3) (hY : Y = L4 y0 y1 y2 y3) (hx : lt4 x0 x1 x2 x3) (hy : lt4 y0 y1 y2 y3) :
    Calls Tryz.prog 114 #[X, Y] w
      fun e w' => ∃ z0 z1 z2 z3 z4 z5 z6 z7 : Nat, e = .returned (.agg #[.int .u64 (z0 : Int), .int .u64 (z1 : Int), .int .u64 (z2 : Int), .int .u64 (z3 : Int), .int .u64 (z4 : Int), .int .u64 (z5 : Int), .int .u64 (z6 : Int), .int .u64 (z7 : Int)]) ∧ Below w.heap.size w w' ∧
        Hid (lt8 z0 z1 z2 z3 z4 z5 z6 z7 ∧ v8 z0 z1 z2 z3 z4 z5 z6 z7 = v4 x0 x1 x2 x3 * v4 y0 y1 y2 y3) := by
  subst hX hY; exact wide_any x0 x1 x2 x3 y0 y1 y2 y3 w hx hy

theorem product_arith (z0 z1 z2 z3 z4 z5 z6 z7 l0 l1 l2 l3 u0 u1 u2 u3 : Nat) (hz : lt8 z0 z1 z2 z3 z4 z5 z6 z7)
    (h0 : l0 < 18446744073709551616 ∧ u0 < 18446744073709551616 ∧ l0 + 18446744073709551616 * u0 = z0 + z4 * 38 + 0) (h1 : l1 < 18446744073709551616 ∧ u1 < 18446744073709551616 ∧ l1 + 18446744073709551616 * u1 = z1 + z5 * 38 + u0)
    (h2 : l2 < 18446744073709551616 ∧ u2 < 18446744073709551616 ∧ l2 + 18446744073709551616 * u2 = z2 + z6 * 38 + u1) (h3 : l3 < 18446744073709551616 ∧ u3 < 18446744073709551616 ∧ l3 + 18446744073709551616 * u3 = z3 + z7 * 38 + u2) :
    u3 ≤ 38 ∧ (v4 l0 l1 l2 l3 + 115792089237316195423570985008687907853269984665640564039457584007913129639936 * u3) % 57896044618658097711785492504343953926634992332820282019728792003956564819949 = v8 z0 z1 z2 z3 z4 z5 z6 z7 % 57896044618658097711785492504343953926634992332820282019728792003956564819949 := by
  constructor
  · unfold lt8 at hz; omega
  · have e : v8 z0 z1 z2 z3 z4 z5 z6 z7 = v4 l0 l1 l2 l3 + 115792089237316195423570985008687907853269984665640564039457584007913129639936 * u3 + 57896044618658097711785492504343953926634992332820282019728792003956564819949 * (2 * v4 z4 z5 z6 z7) := by unfold v8 v4; omega
    rw [e, Nat.add_mul_mod_self_left]

set_option maxHeartbeats 4000000 in
theorem product_any (x0 x1 x2 x3 y0 y1 y2 y3 : Nat) (w : World) (hx : lt4 x0 x1 x2 x3) (hy : lt4 y0 y1 y2 y3) :
    Calls Tryz.prog 76 #[L4 x0 x1 x2 x3, L4 y0 y1 y2 y3] w
      fun e w' => ∃ z0 z1 z2 z3 : Nat, e = .returned (.agg #[.int .u64 (z0 : Int), .int .u64 (z1 : Int), .int .u64 (z2 : Int), .int .u64 (z3 : Int)]) ∧
        Below w.heap.size w w' ∧ Hid (lt4 z0 z1 z2 z3 ∧ v4 z0 z1 z2 z3 = (v4 x0 x1 x2 x3 * v4 y0 y1 y2 y3) % 57896044618658097711785492504343953926634992332820282019728792003956564819949) := by
  have HX : Hid _ := hx
  have HY : Hid _ := hy
  clear hx hy
  unfold L4
  go_enter Tryz.func76, Tryz.ntmps76
  go_wp2_with fail
  refine (wide_at _ _ x0 x1 x2 x3 y0 y1 y2 y3 _ rfl rfl HX.out HY.out).mono ?_
  rintro e w1 ⟨z0, z1, z2, z3, z4, z5, z6, z7, rfl, hb1, HZ⟩
  have QB : Hid (Below w.heap.size w w1) := Below.trans (by (repeat (first | with_reducible exact Below.refl _ _ | with_reducible assumption | with_reducible refine Below.drew ?_ | (with_reducible refine Below.alloc ?_ ?hB _; (case hB => first | omega | (simp <;> omega))) | (with_reducible refine Below.setCell ?_ ?hB _; (case hB => first | omega | (simp <;> omega)))))) (hb1.mono (by first | omega | (simp <;> omega)))
  have cr := after4 hb1 (w.heap.size + 1 + 1) (by first | omega | (simp <;> omega))
  have fr := after_f hb1 (w.heap.size + 1 + 1) (by first | omega | (simp <;> omega))
  have zz := hb1.size
  simp [go_sem] at cr fr zz
  have n1 : w.heap.size + 1 + 1 ≠ w1.heap.size := by omega
  have n2 : w1.heap.size ≠ w.heap.size + 1 + 1 := by omega
  have n3 : w.heap.size + 1 + 1 < w1.heap.size := by omega
  have n4 : w.heap.size ≤ w1.heap.size := by omega
  clear hb1 zz
  go_wp2_with fail
  refine wp_loop_rounds 5 ?_
  rw [rounds_succ]
  go_upto_block 1 with fail
  go_cut [6] (fun s6 wc => ∃ l0 u0 : Nat, s6 = .int .u64 (u0 : Int) ∧ wc = (w1.alloc (.cells #[.int .u64 (l0 : Int), .int .u64 (z1 : Int), .int .u64 (z2 : Int), .int .u64 (z3 : Int), .int .u64 (z4 : Int), .int .u64 (z5 : Int), .int .u64 (z6 : Int), .int .u64 (z7 : Int)] 177)).drew ∧ Hid (l0 < 18446744073709551616 ∧ u0 < 18446744073709551616 ∧ l0 + 18446744073709551616 * u0 = z0 + z4 * 38 + 0))
  case first =>
    go_upto_region 6 with fail
    go_region_with (go_at_call 115; go_must (refine (step_at _ _ _ _ z0 z4 38 0 _ rfl rfl rfl rfl HZ.out.1.1 HZ.out.1.2.2.2.2.1 (by omega) (by omega)).mono ?_; rintro e w_ ⟨l0, u0, rfl, rfl, H0⟩))
    all_goals (go_wp2_with fail; go_meet; exact ⟨l0, u0, rfl, rfl, H0⟩)
  case rest =>
  obtain ⟨l0, u0, rfl, rfl, H0⟩ := hcut
  go_wp2_with fail
  rw [rounds_succ]
  go_upto_block 1 with fail
  go_cut [6] (fun s6 wc => ∃ l1 u1 : Nat, s6 = .int .u64 (u1 : Int) ∧ wc = (w1.alloc (.cells #[.int .u64 (l0 : Int), .int .u64 (l1 : Int), .int .u64 (z2 : Int), .int .u64 (z3 : Int), .int .u64 (z4 : Int), .int .u64 (z5 : Int), .int .u64 (z6 : Int), .int .u64 (z7 : Int)] 177)).drew.drew ∧ Hid (l1 < 18446744073709551616 ∧ u1 < 18446744073709551616 ∧ l1 + 18446744073709551616 * u1 = z1 + z5 * 38 + u0))
  case first =>
    go_upto_region 6 with fail
    go_region_with (go_at_call 115; go_must (refine (step_at _ _ _ _ z1 z5 38 u0 _ rfl rfl rfl rfl HZ.out.1.2.1 HZ.out.1.2.2.2.2.2.1 (by omega) H0.out.2.1).mono ?_; rintro e w_ ⟨l1, u1, rfl, rfl, H1⟩))
    all_goals (go_wp2_with fail; go_meet; exact ⟨l1, u1, rfl, rfl, H1⟩)
  case rest =>
  obtain ⟨l1, u1, rfl, rfl, H1⟩ := hcut
  go_wp2_with fail
  rw [rounds_succ]
  go_upto_block 1 with fail
  go_cut [6] (fun s6 wc => ∃ l2 u2 : Nat, s6 = .int .u64 (u2 : Int) ∧ wc = (w1.alloc (.cells #[.int .u64 (l0 : Int), .int .u64 (l1 : Int), .int .u64 (l2 : Int), .int .u64 (z3 : Int), .int .u64 (z4 : Int), .int .u64 (z5 : Int), .int .u64 (z6 : Int), .int .u64 (z7 : Int)] 177)).drew.drew.drew ∧ Hid (l2 < 18446744073709551616 ∧ u2 < 18446744073709551616 ∧ l2 + 18446744073709551616 * u2 = z2 + z6 * 38 + u1))
  case first =>
    go_upto_region 6 with fail
    go_region_with (go_at_call 115; go_must (refine (step_at _ _ _ _ z2 z6 38 u1 _ rfl rfl rfl rfl HZ.out.1.2.2.1 HZ.out.1.2.2.2.2.2.2.1 (by omega) H1.out.2.1).mono ?_; rintro e w_ ⟨l2, u2, rfl, rfl, H2⟩))
    all_goals (go_wp2_with fail; go_meet; exact ⟨l2, u2, rfl, rfl, H2⟩)
  case rest =>
  obtain ⟨l2, u2, rfl, rfl, H2⟩ := hcut
  go_wp2_with fail
  rw [rounds_succ]
  go_upto_block 1 with fail
  go_cut [6] (fun s6 wc => ∃ l3 u3 : Nat, s6 = .int .u64 (u3 : Int) ∧ wc = (w1.alloc (.cells #[.int .u64 (l0 : Int), .int .u64 (l1 : Int), .int .u64 (l2 : Int), .int .u64 (l3 : Int), .int .u64 (z4 : Int), .int .u64 (z5 : Int), .int .u64 (z6 : Int), .int .u64 (z7 : Int)] 177)).drew.drew.drew.drew ∧ Hid (l3 < 18446744073709551616 ∧ u3 < 18446744073709551616 ∧ l3 + 18446744073709551616 * u3 = z3 + z7 * 38 + u2))
  case first =>
    go_upto_region 6 with fail
    go_region_with (go_at_call 115; go_must (refine (step_at _ _ _ _ z3 z7 38 u2 _ rfl rfl rfl rfl HZ.out.1.2.2.2.1 HZ.out.1.2.2.2.2.2.2.2 (by omega) H2.out.2.1).mono ?_; rintro e w_ ⟨l3, u3, rfl, rfl, H3⟩))
    all_goals (go_wp2_with fail; go_meet; exact ⟨l3, u3, rfl, rfl, H3⟩)
  case rest =>
  obtain ⟨l3, u3, rfl, rfl, H3⟩ := hcut
  go_wp2_with fail
  rw [rounds_succ]
  go_wp2_with fail
  refine (fold_at _ _ l0 l1 l2 l3 u3 _ rfl rfl ⟨H0.out.1, H1.out.1, H2.out.1, H3.out.1⟩ (product_arith _ _ _ _ _ _ _ _ _ _ _ _ _ _ _ _ HZ.out.1 H0.out H1.out H2.out H3.out).1).mono ?_
  rintro e w2 ⟨r0, r1, r2, r3, rfl, hb2, HF⟩
  have QB2 : Hid (Below w.heap.size w w2) := (have q := QB.out; Below.trans (by (repeat (first | with_reducible exact Below.refl _ _ | with_reducible assumption | with_reducible refine Below.drew ?_ | (with_reducible refine Below.alloc ?_ ?hB _; (case hB => first | omega | (simp <;> omega))) | (with_reducible refine Below.setCell ?_ ?hB _; (case hB => first | omega | (simp <;> omega)))))) (hb2.mono (by first | omega | (simp <;> omega))))
  have cr2 := after4 hb2 (w.heap.size + 1 + 1) (by first | omega | (simp <;> omega))
  have fr2 := after_f hb2 (w.heap.size + 1 + 1) (by first | omega | (simp <;> omega))
  simp [go_sem, cr, fr, n1, n2, n3] at cr2 fr2
  clear hb2
  go_wp2
  refine bodyPost_ret (v := .agg #[.int .u64 (r0 : Int), .int .u64 (r1 : Int), .int .u64 (r2 : Int), .int .u64 (r3 : Int)]) (by simp [results, Tryz.results76, go_sem, cr2, fr2]) rfl ⟨r0, r1, r2, r3, rfl, ?_, HF.out.1, ?_⟩
  · have q := QB2.out
    repeat (first | with_reducible exact Below.refl _ _ | with_reducible assumption | with_reducible refine Below.drew ?_ | (with_reducible refine Below.alloc ?_ ?hB _; (case hB => first | omega | (simp <;> omega))) | (with_reducible refine Below.setCell ?_ ?hB _; (case hB => first | omega | (simp <;> omega))))
  · rw [HF.out.2, (product_arith _ _ _ _ _ _ _ _ _ _ _ _ _ _ _ _ HZ.out.1 H0.out H1.out H2.out H3.out).2, HZ.out.2]

theorem product_at (X Y : Value) (x0 x1 x2 x3 y0 y1 y2 y3 : Nat) (w : World) (hX : X = L4 x0 x1 x2 x3) (hY : Y = L4 y0 y1 y2 y3) (hx : lt4 x0 x1 x2 x3) (hy : lt4 y0 y1 y2 y3) :
    Calls Tryz.prog 76 #[X, Y] w
      fun e w' => ∃ z0 z1 z2 z3 : Nat, e = .returned (.agg #[.int .u64 (z0 : Int), .int .u64 (z1 : Int), .int .u64 (z2 : Int), .int .u64 (z3 : Int)]) ∧
        Below w.heap.size w w' ∧ Hid (lt4 z0 z1 z2 z3 ∧ v4 z0 z1 z2 z3 = (v4 x0 x1 x2 x3 * v4 y0 y1 y2 y3) % 57896044618658097711785492504343953926634992332820282019728792003956564819949) := by
  subst hX hY; exact product_any x0 x1 x2 x3 y0 y1 y2 y3 w hx hy
end Go.Proofs.YtjkdonjcngmjeaaGreatDoor
/-
  What package limb does with four words: sums, and what is taken off p.
-/
namespace Go.Proofs.YtjkdonjcngmjeaaGreatDoor
open Go.RowKit
set_option linter.unusedSimpArgs false
set_option linter.unusedVariables false

set_option maxHeartbeats 1000000 in
theorem sum_any (x0 x1 x2 x3 y0 y1 y2 y3 : Nat) (w : World) (hx : lt4 x0 x1 x2 x3) (hy : lt4 y0 y1 y2 y3) :
    Calls Tryz.prog 112 #[L4 x0 x1 x2 x3, L4 y0 y1 y2 y3] w
      fun e w' => ∃ z0 z1 z2 z3 : Nat, e = .returned (.agg #[.int .u64 (z0 : Int), .int .u64 (z1 : Int), .int .u64 (z2 : Int), .int .u64 (z3 : Int)]) ∧
        Below w.heap.size w w' ∧ Hid (lt4 z0 z1 z2 z3 ∧ v4 z0 z1 z2 z3 = (v4 x0 x1 x2 x3 + v4 y0 y1 y2 y3) % 57896044618658097711785492504343953926634992332820282019728792003956564819949) := by
  have HX := (show Hid _ from hx)
  have HY := (show Hid _ from hy)
  unfold L4
  clear hx hy
  go_enter Tryz.func112, Tryz.ntmps112
  go_wp2_with fail
  refine (add_at _ _ x0 x1 x2 x3 y0 y1 y2 y3 _ rfl rfl HX.out HY.out).mono ?_
  rintro e w1 ⟨s0, s1, s2, s3, c, rfl, hb1, H1⟩
  have HC : Hid (c ≤ 38) := by
    have h1 := H1.out; have hy := HY.out; have hx := HX.out
    show c ≤ 38
    unfold lt4 v4 at *; omega
  have B1 : Hid (Below w.heap.size w w1) := Below.trans (by (repeat (first | with_reducible exact Below.refl _ _ | with_reducible assumption | with_reducible refine Below.drew ?_ | (with_reducible refine Below.alloc ?_ ?hB _; (case hB => first | omega | (simp <;> omega))) | (with_reducible refine Below.setCell ?_ ?hB _; (case hB => first | omega | (simp <;> omega)))))) (hb1.mono (by first | omega | (simp <;> omega)))
  have c1c := after4 hb1 (w.heap.size + 1 + 1) (by first | omega | (simp <;> omega))
  have f1c := after_f hb1 (w.heap.size + 1 + 1) (by first | omega | (simp <;> omega))
  try simp [go_sem] at c1c f1c
  obtain ⟨c1c0, c1c1, c1c2, c1c3⟩ := c1c
  have zz1 := hb1.size
  try simp at zz1
  have l1c : w.heap.size + 1 + 1 < w1.heap.size := by omega
  have n1c : w.heap.size + 1 + 1 ≠ w1.heap.size := by omega
  clear hb1 zz1
  go_wp2_with fail
  refine (fold_at _ _ s0 s1 s2 s3 c _ rfl rfl H1.out.1 HC.out).mono ?_
  rintro e w2 ⟨z0, z1, z2, z3, rfl, hb2, H2⟩
  have q1 := B1.out
  have B2 : Hid (Below w.heap.size w w2) := Below.trans (by (repeat (first | with_reducible exact Below.refl _ _ | with_reducible assumption | with_reducible refine Below.drew ?_ | (with_reducible refine Below.alloc ?_ ?hB _; (case hB => first | omega | (simp <;> omega))) | (with_reducible refine Below.setCell ?_ ?hB _; (case hB => first | omega | (simp <;> omega)))))) (hb2.mono (by first | omega | (simp <;> omega)))
  clear q1
  have c2c := after4 hb2 (w.heap.size + 1 + 1) (by first | omega | (simp <;> omega))
  have f2c := after_f hb2 (w.heap.size + 1 + 1) (by first | omega | (simp <;> omega))
  try simp [go_sem, c1c0, c1c1, c1c2, c1c3, f1c, l1c, n1c] at c2c f2c
  obtain ⟨c2c0, c2c1, c2c2, c2c3⟩ := c2c
  have zz2 := hb2.size
  try simp at zz2
  have l2c : w.heap.size + 1 + 1 < w2.heap.size := by omega
  have n2c : w.heap.size + 1 + 1 ≠ w2.heap.size := by omega
  clear hb2 zz2
  clear c1c0 c1c1 c1c2 c1c3 f1c l1c n1c
  go_wp2
  refine bodyPost_ret (v := .agg #[.int .u64 (z0 : Int), .int .u64 (z1 : Int), .int .u64 (z2 : Int), .int .u64 (z3 : Int)]) (by simp [results, Tryz.results112, go_sem, c2c0, c2c1, c2c2, c2c3, f2c, l2c, n2c]) rfl ⟨z0, z1, z2, z3, rfl, ?_, H2.out.1, ?_⟩
  · have q2 := B2.out
    repeat (first | with_reducible exact Below.refl _ _ | with_reducible assumption | with_reducible refine Below.drew ?_ | (with_reducible refine Below.alloc ?_ ?hB _; (case hB => first | omega | (simp <;> omega))) | (with_reducible refine Below.setCell ?_ ?hB _; (case hB => first | omega | (simp <;> omega))))
  · rw [H2.out.2, H1.out.2]

/-- The program's variable that holds p. -/
def PrimeAt (w : World) : Prop := w.cell? ⟨1, 0, none⟩ = some (.int .u64 18446744073709551597) ∧ w.cell? ⟨1, 1, none⟩ = some (.int .u64 18446744073709551615) ∧ w.cell? ⟨1, 2, none⟩ = some (.int .u64 18446744073709551615) ∧ w.cell? ⟨1, 3, none⟩ = some (.int .u64 9223372036854775807)
theorem PrimeAt.lt {w : World} (h : PrimeAt w) : 1 < w.heap.size := block_lt_of_cell h.1
theorem PrimeAt.below {w w' : World} (h : PrimeAt w) (hb : Below w.heap.size w w') : PrimeAt w' :=
  ⟨(hb.cell (p := ⟨1, 0, none⟩) h.lt).trans h.1, (hb.cell (p := ⟨1, 1, none⟩) h.lt).trans h.2.1, (hb.cell (p := ⟨1, 2, none⟩) h.lt).trans h.2.2.1, (hb.cell (p := ⟨1, 3, none⟩) h.lt).trans h.2.2.2⟩

theorem call_sub64_lit (X : Int) (x y b : Nat) (hX : X = x) (hb : b ≤ 1) (hx : x < 18446744073709551616) (hy : y < 18446744073709551616) : ∃ lo hi : Nat, (∀ w, (callFunc 136 #[.int .u64 X, .int .u64 (y : Int), .int .u64 (b : Int)]).run Tryz.prog w = .ok (.value (.tuple #[.int .u64 (lo : Int), .int .u64 (hi : Int)])) w) ∧
    Hid (lo < 18446744073709551616 ∧ hi ≤ 1 ∧ x + 18446744073709551616 * hi = lo + y + b) := by
  subst hX; exact call_sub64 x y b hb hx hy
theorem call_sub64_lit0 (X : Int) (x y : Nat) (hX : X = x) (hx : x < 18446744073709551616) (hy : y < 18446744073709551616) : ∃ lo hi : Nat, (∀ w, (callFunc 136 #[.int .u64 X, .int .u64 (y : Int), .int .u64 0]).run Tryz.prog w = .ok (.value (.tuple #[.int .u64 (lo : Int), .int .u64 (hi : Int)])) w) ∧
    Hid (lo < 18446744073709551616 ∧ hi ≤ 1 ∧ x + 18446744073709551616 * hi = lo + y) := by
  subst hX; exact call_sub64_0 x y hx hy

theorem negative_arith (r0 r1 r2 r3 z0 z1 z2 z3 c0 c1 c2 c3 : Nat) (hr : lt4 r0 r1 r2 r3) (hp : v4 r0 r1 r2 r3 < 57896044618658097711785492504343953926634992332820282019728792003956564819949)
    (h0 : z0 < 18446744073709551616 ∧ c0 ≤ 1 ∧ 18446744073709551597 + 18446744073709551616 * c0 = z0 + r0) (h1 : z1 < 18446744073709551616 ∧ c1 ≤ 1 ∧ 18446744073709551615 + 18446744073709551616 * c1 = z1 + r1 + c0)
    (h2 : z2 < 18446744073709551616 ∧ c2 ≤ 1 ∧ 18446744073709551615 + 18446744073709551616 * c2 = z2 + r2 + c1) (h3 : z3 < 18446744073709551616 ∧ c3 ≤ 1 ∧ 9223372036854775807 + 18446744073709551616 * c3 = z3 + r3 + c2) :
    v4 z0 z1 z2 z3 + v4 r0 r1 r2 r3 = 57896044618658097711785492504343953926634992332820282019728792003956564819949 := by
  have e : v4 z0 z1 z2 z3 + v4 r0 r1 r2 r3 = 57896044618658097711785492504343953926634992332820282019728792003956564819949 + 115792089237316195423570985008687907853269984665640564039457584007913129639936 * c3 := by unfold v4; omega
  have l : v4 z0 z1 z2 z3 < 115792089237316195423570985008687907853269984665640564039457584007913129639936 := by unfold v4; omega
  omega

set_option maxHeartbeats 8000000 in
theorem negative_any (x0 x1 x2 x3 : Nat) (w : World) (hx : lt4 x0 x1 x2 x3) (hp : PrimeAt w) :
    Calls Tryz.prog 113 #[L4 x0 x1 x2 x3] w
      fun e w' => ∃ z0 z1 z2 z3 : Nat, e = .returned (.agg #[.int .u64 (z0 : Int), .int .u64 (z1 : Int), .int .u64 (z2 : Int), .int .u64 (z3 : Int)]) ∧
        Below w.heap.size w w' ∧ Hid (lt4 z0 z1 z2 z3 ∧ v4 z0 z1 z2 z3 + v4 x0 x1 x2 x3 % 57896044618658097711785492504343953926634992332820282019728792003956564819949 = 57896044618658097711785492504343953926634992332820282019728792003956564819949) := by
  have HX := (show Hid _ from hx)
  have hlt := hp.lt
  have hne : w.heap.size ≠ 1 := by omega
  have hne' : 1 ≠ w.heap.size := by omega
  have hpz : w.heap.size ≠ 0 := by omega
  have hpz' : 0 < w.heap.size := by omega
  obtain ⟨p0, p1, p2, p3⟩ := hp
  unfold L4
  clear hx
  go_enter Tryz.func113, Tryz.ntmps113
  go_wp2
  go_cut [3] (fun s3 wc => ∃ g r0 r1 r2 r3 : Nat, s3 = .pointer (some ⟨g, 0, none⟩) ∧ w.heap.size + 1 < g ∧ g < wc.heap.size ∧ w.heap.size + 1 < wc.heap.size ∧
    (wc.cell? ⟨w.heap.size, 0, none⟩ = some (.int .u64 (r0 : Int)) ∧ wc.cell? ⟨w.heap.size, 1, none⟩ = some (.int .u64 (r1 : Int)) ∧ wc.cell? ⟨w.heap.size, 2, none⟩ = some (.int .u64 (r2 : Int)) ∧ wc.cell? ⟨w.heap.size, 3, none⟩ = some (.int .u64 (r3 : Int))) ∧
    (wc.cell? ⟨w.heap.size + 1, 0, none⟩ = some (.int .u64 0) ∧ wc.cell? ⟨w.heap.size + 1, 1, none⟩ = some (.int .u64 0) ∧ wc.cell? ⟨w.heap.size + 1, 2, none⟩ = some (.int .u64 0) ∧ wc.cell? ⟨w.heap.size + 1, 3, none⟩ = some (.int .u64 0)) ∧
    (wc.cell? ⟨g, 0, none⟩ = some (.int .u64 18446744073709551597) ∧ wc.cell? ⟨g, 1, none⟩ = some (.int .u64 18446744073709551615) ∧ wc.cell? ⟨g, 2, none⟩ = some (.int .u64 18446744073709551615) ∧ wc.cell? ⟨g, 3, none⟩ = some (.int .u64 9223372036854775807)) ∧
    (∀ j, wc.frozen? ⟨w.heap.size, j, none⟩ = false) ∧ (∀ j, wc.frozen? ⟨w.heap.size + 1, j, none⟩ = false) ∧ (∀ j, wc.frozen? ⟨g, j, none⟩ = false) ∧ Below w.heap.size w wc ∧
    Hid (lt4 r0 r1 r2 r3 ∧ v4 r0 r1 r2 r3 = v4 x0 x1 x2 x3 % 57896044618658097711785492504343953926634992332820282019728792003956564819949))
  case first =>
    go_region_with (go_at_call 79; go_must (refine (reduce_at _ x0 x1 x2 x3 _ rfl HX.out).mono ?_; rintro e w1 ⟨r0, r1, r2, r3, rfl, hb1, H1⟩; have Q : Hid (Below w.heap.size w w1) := (Below.trans (by (repeat (first | with_reducible exact Below.refl _ _ | with_reducible assumption | with_reducible refine Below.drew ?_ | (with_reducible refine Below.alloc ?_ ?hB _; (case hB => first | omega | (simp <;> omega))) | (with_reducible refine Below.setCell ?_ ?hB _; (case hB => first | omega | (simp <;> omega)))))) (hb1.mono (by first | omega | (simp <;> omega)))); have ZZ : Hid _ := hb1.size; have ca := after4 hb1 w.heap.size (by first | omega | (simp <;> omega)); have cb := after4 hb1 (w.heap.size + 1) (by first | omega | (simp <;> omega)); have cp := after4 hb1 1 (by first | omega | (simp <;> omega)); have fa := after_f hb1 w.heap.size (by first | omega | (simp <;> omega)); have fb := after_f hb1 (w.heap.size + 1) (by first | omega | (simp <;> omega)); have zz := hb1.size; simp [go_sem, p0, p1, p2, p3, hlt, hne, hne', hpz, hpz'] at ca cb cp fa fb zz; have lp : 1 < w1.heap.size := (by omega); have np : 1 ≠ w1.heap.size := (by omega); have np2 : w1.heap.size ≠ 1 := (by omega); have npz : w1.heap.size ≠ 0 := (by omega); have la : w.heap.size < w1.heap.size := (by omega); have na : w.heap.size ≠ w1.heap.size := (by omega); have lb : w.heap.size + 1 < w1.heap.size := (by omega); have nb : w.heap.size + 1 ≠ w1.heap.size := (by omega); have na' : w1.heap.size ≠ w.heap.size := (by omega); have nb' : w1.heap.size ≠ w.heap.size + 1 := (by omega); have cc := (fun hq => after4 hb1 (w.heap.size + 1 + 1) hq); have fc := (fun hq => after_f hb1 (w.heap.size + 1 + 1) hq); try simp [go_sem, p0, p1, p2, p3, hlt, hne, hne', hpz, hpz'] at cc; try simp [go_sem, p0, p1, p2, p3, hlt, hne, hne', hpz, hpz'] at fc; clear hb1 zz))
    all_goals (go_wp2_with fail; go_meet; refine ⟨_, r0, r1, r2, r3, rfl, ?_, ?_, ?_, ?_, ?_, ?_, ?_, ?_, ?_, ?_, H1⟩)
    all_goals try (first | omega | (simp; omega))
    all_goals try (first | (simp [go_sem, ca, cb, cp, fa, fb, la, lb, na, nb, na', nb', lp, np, np2, npz, hlt, hne, hne', hpz, hpz', p0, p1, p2, p3, cc, fc]; done) | (simp [go_sem, ca, cb, cp, fa, fb, la, lb, na, nb, na', nb', lp, np, np2, npz, hlt, hne, hne', hpz, hpz', p0, p1, p2, p3]; done))
    all_goals try (intro j; first | (simp [go_sem, ca, cb, cp, fa, fb, la, lb, na, nb, na', nb', lp, np, np2, npz, hlt, hne, hne', hpz, hpz', p0, p1, p2, p3, cc, fc]; done) | (simp [go_sem, ca, cb, cp, fa, fb, la, lb, na, nb, na', nb', lp, np, np2, npz, hlt, hne, hne', hpz, hpz', p0, p1, p2, p3]; done))
    all_goals have q1 := Q.out
    all_goals have z := ZZ.out
    all_goals simp at z
    all_goals first | (with_reducible refine Below.alloc ?_ ?hB _; (case hB => simp; omega); (repeat (first | with_reducible exact Below.refl _ _ | with_reducible assumption | with_reducible refine Below.drew ?_ | (with_reducible refine Below.alloc ?_ ?hB _; (case hB => first | omega | (simp <;> omega))) | (with_reducible refine Below.setCell ?_ ?hB _; (case hB => first | omega | (simp <;> omega)))))) | (with_reducible refine Below.setCell ?_ ?hB _; (case hB => simp; omega); (repeat (first | with_reducible exact Below.refl _ _ | with_reducible assumption | with_reducible refine Below.drew ?_ | (with_reducible refine Below.alloc ?_ ?hB _; (case hB => first | omega | (simp <;> omega))) | (with_reducible refine Below.setCell ?_ ?hB _; (case hB => first | omega | (simp <;> omega)))))) | (simp; omega)
  case rest =>
    obtain ⟨g, r0, r1, r2, r3, rfl, g1, g2, g3, ca, cb, cg, fa, fb, fg, hB, HR⟩ := hcut
    have QB : Hid _ := hB
    clear hB p0 p1 p2 p3 hlt hne hne' hpz hpz'
    have n1 : w.heap.size ≠ g := by omega
    have n2 : w.heap.size + 1 ≠ g := by omega
    have n3 : g ≠ w.heap.size := by omega
    have n4 : g ≠ w.heap.size + 1 := by omega
    have GE : Hid (w.heap.size ≤ g) := Nat.le_of_lt (by omega)
    clear g1 g2 g3
    obtain ⟨z0, c0, h0, H0⟩ := call_sub64_lit0 18446744073709551597 18446744073709551597 r0 rfl (by omega) HR.out.1.1
    obtain ⟨z1, c1, h1, H1⟩ := call_sub64_lit 18446744073709551615 18446744073709551615 r1 c0 rfl H0.out.2.1 (by omega) HR.out.1.2.1
    obtain ⟨z2, c2, h2, H2⟩ := call_sub64_lit 18446744073709551615 18446744073709551615 r2 c1 rfl H1.out.2.1 (by omega) HR.out.1.2.2.1
    obtain ⟨z3, c3, h3, H3⟩ := call_sub64_lit 9223372036854775807 9223372036854775807 r3 c2 rfl H2.out.2.1 (by omega) HR.out.1.2.2.2
    go_wp2
    refine wp_loop_rounds 5 ?_
    rw [rounds_succ]
    go_wp2
    go_region
    go_wp2
    rw [rounds_succ]
    go_wp2
    go_region
    go_wp2
    rw [rounds_succ]
    go_wp2
    go_region
    go_wp2
    rw [rounds_succ]
    go_wp2
    go_region
    go_wp2
    rw [rounds_succ]
    go_wp2
    refine bodyPost_ret (v := .agg #[.int .u64 (z0 : Int), .int .u64 (z1 : Int), .int .u64 (z2 : Int), .int .u64 (z3 : Int)]) (by simp [results, Tryz.results113, go_sem, ca, cb, cg, fa, fb, fg, n1, n2, n3, n4]) rfl ⟨z0, z1, z2, z3, rfl, ?_, ?_, ?_⟩
    · have q := QB.out
      have ge := GE.out
      repeat (first | with_reducible exact Below.refl _ _ | with_reducible assumption | with_reducible refine Below.drew ?_ | (with_reducible refine Below.alloc ?_ ?hB _; (case hB => first | omega | (simp <;> omega))) | (with_reducible refine Below.setCell ?_ ?hB _; (case hB => first | omega | (simp <;> omega))))
    · exact ⟨H0.out.1, H1.out.1, H2.out.1, H3.out.1⟩
    · rw [← HR.out.2]
      exact negative_arith _ _ _ _ _ _ _ _ _ _ _ _ HR.out.1 (by rw [HR.out.2]; exact Nat.mod_lt _ (by omega)) H0.out H1.out H2.out H3.out
end Go.Proofs.YtjkdonjcngmjeaaGreatDoor
