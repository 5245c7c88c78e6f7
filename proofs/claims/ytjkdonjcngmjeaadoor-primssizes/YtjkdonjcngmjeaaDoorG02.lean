/-
  General pieces, joined: W2.
-/
import Derived.Test.YtjkdonjcngmjeaaDoorG01
/-
  What package limb does with four words: reduced modulo p, folded, added, taken off p.
-/
namespace Go.Proofs.YtjkdonjcngmjeaaDoor
open Go.RowKit
set_option linter.unusedSimpArgs false
set_option linter.unusedVariables false

/-- What a block of old memory reads as behind a call that made memory alone. -/
theorem after {W w1 : World} (hb : Below W.heap.size W w1) (g : Nat) (hg : g < W.heap.size) : ∀ j, w1.cell? ⟨g, j, none⟩ = W.cell? ⟨g, j, none⟩ :=
  fun j => hb.cell (p := ⟨g, j, none⟩) hg
theorem after_f {W w1 : World} (hb : Below W.heap.size W w1) (g : Nat) (hg : g < W.heap.size) : ∀ j, w1.frozen? ⟨g, j, none⟩ = W.frozen? ⟨g, j, none⟩ :=
  fun j => hb.frozen (p := ⟨g, j, none⟩) hg
theorem after4 {W w1 : World} (hb : Below W.heap.size W w1) (g : Nat) (hg : g < W.heap.size) : w1.cell? ⟨g, 0, none⟩ = W.cell? ⟨g, 0, none⟩ ∧ w1.cell? ⟨g, 1, none⟩ = W.cell? ⟨g, 1, none⟩ ∧ w1.cell? ⟨g, 2, none⟩ = W.cell? ⟨g, 2, none⟩ ∧ w1.cell? ⟨g, 3, none⟩ = W.cell? ⟨g, 3, none⟩ :=
  ⟨after hb g hg 0, after hb g hg 1, after hb g hg 2, after hb g hg 3⟩

/-- Four words, as a value. -/
def L4 (x0 x1 x2 x3 : Nat) : Value := .agg #[.int .u64 (x0 : Int), .int .u64 (x1 : Int), .int .u64 (x2 : Int), .int .u64 (x3 : Int)]
theorem L4_mk {a b c d : Int} {x0 x1 x2 x3 : Nat} (h0 : a = x0) (h1 : b = x1) (h2 : c = x2) (h3 : d = x3) : Value.agg #[.int .u64 a, .int .u64 b, .int .u64 c, .int .u64 d] = L4 x0 x1 x2 x3 := by
  rw [h0, h1, h2, h3]; rfl
def lt4 (x0 x1 x2 x3 : Nat) : Prop := x0 < 18446744073709551616 ∧ x1 < 18446744073709551616 ∧ x2 < 18446744073709551616 ∧ x3 < 18446744073709551616

theorem add_at (X Y : Value) (x0 x1 x2 x3 y0 y1 y2 y3 : Nat) (w : World) (hX : X = L4 x0 x1 x2 x3) (hY : Y = L4 y0 y1 y2 y3) (hx : lt4 x0 x1 x2 x3) (hy : lt4 y0 y1 y2 y3) :
    Calls Tryd.prog 103 #[X, Y] w
      fun e w' => ∃ z0 z1 z2 z3 c : Nat, e = .returned (.tuple #[.agg #[.int .u64 (z0 : Int), .int .u64 (z1 : Int), .int .u64 (z2 : Int), .int .u64 (z3 : Int)], .int .u64 (c : Int)]) ∧
        Below w.heap.size w w' ∧ Hid (lt4 z0 z1 z2 z3 ∧ v4 z0 z1 z2 z3 + 115792089237316195423570985008687907853269984665640564039457584007913129639936 * c = v4 x0 x1 x2 x3 + v4 y0 y1 y2 y3) := by
  subst hX hY
  refine (add_any x0 x1 x2 x3 y0 y1 y2 y3 w hx hy).mono ?_
  rintro e w' ⟨z0, z1, z2, z3, c, rfl, hb, H⟩
  exact ⟨z0, z1, z2, z3, c, rfl, hb, ⟨H.1, H.2.1, H.2.2.1, H.2.2.2.1⟩, H.2.2.2.2⟩

theorem andNot_top (x : Nat) (h : x < 18446744073709551616) : bits .andNot .u64 (x : Int) 9223372036854775808 = ((x % 9223372036854775808 : Nat) : Int) := by
  have := u64_andNot_nat x 9223372036854775808 h (by omega)
  rw [show (18446744073709551615 - 9223372036854775808 : Nat) = 2 ^ 63 - 1 by omega, Nat.and_two_pow_sub_one_eq_mod] at this
  exact this
theorem and_top (x : Nat) (h : x < 18446744073709551616) : bits .and .u64 (x : Int) 9223372036854775808 = ((x / 9223372036854775808 * 9223372036854775808 : Nat) : Int) := by
  have := u64_and_nat x 9223372036854775808 h (by omega)
  rw [show (9223372036854775808 : Nat) = 2 ^ 63 by omega, nat_bit] at this
  rw [show x / 9223372036854775808 = x / 2 ^ 63 % 2 by omega]
  exact this
theorem and_top_0 (x : Nat) (h : x < 9223372036854775808) : bits .and .u64 (x : Int) 9223372036854775808 = 0 := by
  rw [and_top x (by omega)]; omega
theorem and_top_1 (x : Nat) (h : x < 18446744073709551616) (h' : 9223372036854775808 ≤ x) : bits .and .u64 (x : Int) 9223372036854775808 = 9223372036854775808 := by
  rw [and_top x h]; omega

theorem mod_p (S h : Nat) (hS : S < 115792089237316195423570985008687907853269984665640564039457584007913129639898) : (S + 57896044618658097711785492504343953926634992332820282019728792003956564819949 * h) % 57896044618658097711785492504343953926634992332820282019728792003956564819949 = if S < 57896044618658097711785492504343953926634992332820282019728792003956564819949 then S else S - 57896044618658097711785492504343953926634992332820282019728792003956564819949 := by
  rw [Nat.add_mul_mod_self_left]
  split <;> omega

theorem reduce_arith (x0 x1 x2 x3 s0 s1 s2 s3 c t0 t1 t2 t3 c' : Nat) (hx : lt4 x0 x1 x2 x3)
    (h1 : lt4 s0 s1 s2 s3 ∧ v4 s0 s1 s2 s3 + 115792089237316195423570985008687907853269984665640564039457584007913129639936 * c = v4 x0 x1 x2 (x3 % 9223372036854775808) + v4 (x3 / 9223372036854775808 * 19) 0 0 0)
    (h2 : lt4 t0 t1 t2 t3 ∧ v4 t0 t1 t2 t3 + 115792089237316195423570985008687907853269984665640564039457584007913129639936 * c' = v4 s0 s1 s2 s3 + v4 19 0 0 0) :
    (t3 < 9223372036854775808 → v4 s0 s1 s2 s3 = v4 x0 x1 x2 x3 % 57896044618658097711785492504343953926634992332820282019728792003956564819949) ∧
    (9223372036854775808 ≤ t3 → v4 t0 t1 t2 (t3 % 9223372036854775808) = v4 x0 x1 x2 x3 % 57896044618658097711785492504343953926634992332820282019728792003956564819949) := by
  have hh : x3 / 9223372036854775808 ≤ 1 := by unfold lt4 at hx; omega
  have hX : v4 x0 x1 x2 (x3 % 9223372036854775808) < 57896044618658097711785492504343953926634992332820282019728792003956564819968 := by unfold lt4 v4 at *; omega
  have e0 : v4 x0 x1 x2 x3 = v4 x0 x1 x2 (x3 % 9223372036854775808) + 57896044618658097711785492504343953926634992332820282019728792003956564819968 * (x3 / 9223372036854775808) := by unfold v4; omega
  have e1 : v4 (x3 / 9223372036854775808 * 19) 0 0 0 = 19 * (x3 / 9223372036854775808) := by unfold v4; omega
  have e2 : v4 19 0 0 0 = 19 := by unfold v4; omega
  have l1 : v4 s0 s1 s2 s3 < 115792089237316195423570985008687907853269984665640564039457584007913129639936 := by unfold lt4 v4 at *; omega
  have l2 : v4 t0 t1 t2 t3 < 115792089237316195423570985008687907853269984665640564039457584007913129639936 := by unfold lt4 v4 at *; omega
  have e3 : v4 t0 t1 t2 t3 = v4 t0 t1 t2 (t3 % 9223372036854775808) + 57896044618658097711785492504343953926634992332820282019728792003956564819968 * (t3 / 9223372036854775808) := by unfold v4; omega
  have l3 : v4 t0 t1 t2 (t3 % 9223372036854775808) < 57896044618658097711785492504343953926634992332820282019728792003956564819968 := by unfold lt4 v4 at *; omega
  have l4 : t3 / 9223372036854775808 ≤ 1 := by have := h2.1; unfold lt4 at this; omega
  replace h1 := h1.2; replace h2 := h2.2
  rw [e1] at h1; rw [e2] at h2
  generalize v4 x0 x1 x2 (x3 % 9223372036854775808) = X at *
  generalize v4 t0 t1 t2 (t3 % 9223372036854775808) = T' at *
  generalize v4 s0 s1 s2 s3 = S at *
  generalize v4 t0 t1 t2 t3 = T at *
  generalize x3 / 9223372036854775808 = h at *
  have hS : S = X + 19 * h := by omega
  have hT : T = S + 19 := by omega
  have eV : X + 57896044618658097711785492504343953926634992332820282019728792003956564819968 * h = S + 57896044618658097711785492504343953926634992332820282019728792003956564819949 * h := by omega
  rw [e0, eV, mod_p S h (by omega)]
  constructor
  · intro ht
    rw [if_pos (by omega)]
  · intro ht
    rw [if_neg (by omega)]
    omega

set_option maxHeartbeats 1000000 in
theorem reduce_any (x0 x1 x2 x3 : Nat) (w : World) (hx : lt4 x0 x1 x2 x3) :
    Calls Tryd.prog 96 #[L4 x0 x1 x2 x3] w
      fun e w' => ∃ z0 z1 z2 z3 : Nat, e = .returned (.agg #[.int .u64 (z0 : Int), .int .u64 (z1 : Int), .int .u64 (z2 : Int), .int .u64 (z3 : Int)]) ∧
        Below w.heap.size w w' ∧ Hid (lt4 z0 z1 z2 z3 ∧ v4 z0 z1 z2 z3 = v4 x0 x1 x2 x3 % 57896044618658097711785492504343953926634992332820282019728792003956564819949) := by
  have HX := (show Hid _ from hx)
  unfold L4
  clear hx
  go_enter Tryd.func96, Tryd.ntmps96
  go_wp2_with fail
  refine (add_at _ _ x0 x1 x2 (x3 % 9223372036854775808) (x3 / 9223372036854775808 * 19) 0 0 0 _ (L4_mk rfl rfl rfl ?_) (L4_mk ?_ rfl rfl rfl) ?_ ?_).mono ?_
  · exact andNot_top x3 HX.out.2.2.2
  · have := HX.out.2.2.2
    rw [IntKind.wrap_u64]; omega
  · have := HX.out
    unfold lt4 at *; omega
  · have := HX.out
    unfold lt4 at *; omega
  rintro e w1 ⟨s0, s1, s2, s3, c, rfl, hb1, H1⟩
  have B1 : Hid (Below w.heap.size w w1) := Below.trans (by (repeat (first | exact Below.refl _ _ | with_reducible assumption | refine Below.drew ?_ | refine Below.alloc ?_ (by first | omega | (simp <;> omega)) _ | refine Below.setCell ?_ (by first | omega | (simp <;> omega)) _))) (hb1.mono (by first | omega | (simp <;> omega)))
  have c1a := after4 hb1 (w.heap.size) (by first | omega | (simp <;> omega))
  have f1a := after_f hb1 (w.heap.size) (by first | omega | (simp <;> omega))
  have c1b := after4 hb1 (w.heap.size + 1) (by first | omega | (simp <;> omega))
  have f1b := after_f hb1 (w.heap.size + 1) (by first | omega | (simp <;> omega))
  try simp [go_sem] at c1a f1a c1b f1b
  obtain ⟨c1a0, c1a1, c1a2, c1a3⟩ := c1a
  obtain ⟨c1b0, c1b1, c1b2, c1b3⟩ := c1b
  have zz1 := hb1.size
  try simp at zz1
  have l1a : w.heap.size < w1.heap.size := by omega
  have n1a : w.heap.size ≠ w1.heap.size := by omega
  have l1b : w.heap.size + 1 < w1.heap.size := by omega
  have n1b : w.heap.size + 1 ≠ w1.heap.size := by omega
  clear hb1 zz1
  go_wp2_with fail
  refine (add_at _ _ s0 s1 s2 s3 19 0 0 0 _ rfl rfl H1.out.1 (by unfold lt4; omega)).mono ?_
  rintro e w2 ⟨t0, t1, t2, t3, c', rfl, hb2, H2⟩
  have q1 := B1.out
  have B2 : Hid (Below w.heap.size w w2) := Below.trans (by (repeat (first | exact Below.refl _ _ | with_reducible assumption | refine Below.drew ?_ | refine Below.alloc ?_ (by first | omega | (simp <;> omega)) _ | refine Below.setCell ?_ (by first | omega | (simp <;> omega)) _))) (hb2.mono (by first | omega | (simp <;> omega)))
  clear q1
  have c2a := after4 hb2 (w.heap.size) (by first | omega | (simp <;> omega))
  have f2a := after_f hb2 (w.heap.size) (by first | omega | (simp <;> omega))
  have c2b := after4 hb2 (w.heap.size + 1) (by first | omega | (simp <;> omega))
  have f2b := after_f hb2 (w.heap.size + 1) (by first | omega | (simp <;> omega))
  try simp [go_sem, c1a0, c1a1, c1a2, c1a3, f1a, c1b0, c1b1, c1b2, c1b3, f1b, l1a, n1a, l1b, n1b] at c2a f2a c2b f2b
  obtain ⟨c2a0, c2a1, c2a2, c2a3⟩ := c2a
  obtain ⟨c2b0, c2b1, c2b2, c2b3⟩ := c2b
  have zz2 := hb2.size
  try simp at zz2
  have l2a : w.heap.size < w2.heap.size := by omega
  have n2a : w.heap.size ≠ w2.heap.size := by omega
  have l2b : w.heap.size + 1 < w2.heap.size := by omega
  have n2b : w.heap.size + 1 ≠ w2.heap.size := by omega
  clear hb2 zz2
  clear c1a0 c1a1 c1a2 c1a3 f1a c1b0 c1b1 c1b2 c1b3 f1b l1a n1a l1b n1b
  by_cases ht : t3 < 9223372036854775808
  · have hand := and_top_0 t3 ht
    have HT : Hid _ := ht
    clear ht
    go_wp2
    refine bodyPost_ret (v := .agg #[.int .u64 (s0 : Int), .int .u64 (s1 : Int), .int .u64 (s2 : Int), .int .u64 (s3 : Int)]) (by simp [results, Tryd.results96, go_sem, c2a0, c2a1, c2a2, c2a3, f2a, c2b0, c2b1, c2b2, c2b3, f2b, l2a, n2a, l2b, n2b]) rfl ⟨s0, s1, s2, s3, rfl, ?_, H1.out.1, (reduce_arith _ _ _ _ _ _ _ _ _ _ _ _ _ _ HX.out H1.out H2.out).1 HT.out⟩
    have q2 := B2.out
    repeat (first | exact Below.refl _ _ | with_reducible assumption | refine Below.drew ?_ | refine Below.alloc ?_ (by first | omega | (simp <;> omega)) _ | refine Below.setCell ?_ (by first | omega | (simp <;> omega)) _)
  · have hand := and_top_1 t3 H2.out.1.2.2.2 (by omega)
    have hnot := andNot_top t3 H2.out.1.2.2.2
    have HT : Hid _ := Nat.le_of_not_lt ht
    clear ht
    obtain ⟨r, hr⟩ : ∃ r, t3 % 9223372036854775808 = r := ⟨_, rfl⟩
    rw [hr] at hnot
    have HR : Hid _ := hr
    clear hr
    go_wp2
    refine bodyPost_ret (v := .agg #[.int .u64 (t0 : Int), .int .u64 (t1 : Int), .int .u64 (t2 : Int), .int .u64 (r : Int)]) (by simp [results, Tryd.results96, go_sem, c2a0, c2a1, c2a2, c2a3, f2a, c2b0, c2b1, c2b2, c2b3, f2b, l2a, n2a, l2b, n2b]) rfl ⟨t0, t1, t2, r, rfl, ?_, ?_, ?_⟩
    · have q2 := B2.out
      repeat (first | exact Below.refl _ _ | with_reducible assumption | refine Below.drew ?_ | refine Below.alloc ?_ (by first | omega | (simp <;> omega)) _ | refine Below.setCell ?_ (by first | omega | (simp <;> omega)) _)
    · have h2 := H2.out.1
      have hr := HR.out
      unfold lt4 at *; omega
    · have := (reduce_arith _ _ _ _ _ _ _ _ _ _ _ _ _ _ HX.out H1.out H2.out).2 HT.out
      rw [HR.out] at this
      exact this

theorem reduce_at (X : Value) (x0 x1 x2 x3 : Nat) (w : World) (hX : X = L4 x0 x1 x2 x3) (hx : lt4 x0 x1 x2 x3) :
    Calls Tryd.prog 96 #[X] w
      fun e w' => ∃ z0 z1 z2 z3 : Nat, e = .returned (.agg #[.int .u64 (z0 : Int), .int .u64 (z1 : Int), .int .u64 (z2 : Int), .int .u64 (z3 : Int)]) ∧
        Below w.heap.size w w' ∧ Hid (lt4 z0 z1 z2 z3 ∧ v4 z0 z1 z2 z3 = v4 x0 x1 x2 x3 % 57896044618658097711785492504343953926634992332820282019728792003956564819949) := by
  subst hX; exact reduce_any x0 x1 x2 x3 w hx

theorem fold_arith (x0 x1 x2 x3 t s0 s1 s2 s3 c t0 t1 t2 t3 c' : Nat) (ht : t ≤ 38) (hx : lt4 x0 x1 x2 x3)
    (h1 : lt4 s0 s1 s2 s3 ∧ v4 s0 s1 s2 s3 + 115792089237316195423570985008687907853269984665640564039457584007913129639936 * c = v4 x0 x1 x2 x3 + v4 (t * 38) 0 0 0)
    (h2 : lt4 t0 t1 t2 t3 ∧ v4 t0 t1 t2 t3 + 115792089237316195423570985008687907853269984665640564039457584007913129639936 * c' = v4 s0 s1 s2 s3 + v4 (c * 38) 0 0 0) :
    v4 t0 t1 t2 t3 % 57896044618658097711785492504343953926634992332820282019728792003956564819949 = (v4 x0 x1 x2 x3 + 115792089237316195423570985008687907853269984665640564039457584007913129639936 * t) % 57896044618658097711785492504343953926634992332820282019728792003956564819949 := by
  have l0 : v4 x0 x1 x2 x3 < 115792089237316195423570985008687907853269984665640564039457584007913129639936 := by unfold lt4 v4 at *; omega
  have l1 : v4 s0 s1 s2 s3 < 115792089237316195423570985008687907853269984665640564039457584007913129639936 := by unfold lt4 v4 at *; omega
  have l2 : v4 t0 t1 t2 t3 < 115792089237316195423570985008687907853269984665640564039457584007913129639936 := by unfold lt4 v4 at *; omega
  have e1 : v4 (t * 38) 0 0 0 = 38 * t := by unfold v4; omega
  have e2 : v4 (c * 38) 0 0 0 = 38 * c := by unfold v4; omega
  replace h1 := h1.2; replace h2 := h2.2
  rw [e1] at h1; rw [e2] at h2
  generalize v4 x0 x1 x2 x3 = X at *
  generalize v4 s0 s1 s2 s3 = S at *
  generalize v4 t0 t1 t2 t3 = T at *
  have e : X + 115792089237316195423570985008687907853269984665640564039457584007913129639936 * t = T + 57896044618658097711785492504343953926634992332820282019728792003956564819949 * (2 * (t + c)) := by omega
  rw [e, Nat.add_mul_mod_self_left]

set_option maxHeartbeats 1000000 in
theorem fold_any (x0 x1 x2 x3 t : Nat) (w : World) (hx : lt4 x0 x1 x2 x3) (ht : t ≤ 38) :
    Calls Tryd.prog 101 #[L4 x0 x1 x2 x3, .int .u64 (t : Int)] w
      fun e w' => ∃ z0 z1 z2 z3 : Nat, e = .returned (.agg #[.int .u64 (z0 : Int), .int .u64 (z1 : Int), .int .u64 (z2 : Int), .int .u64 (z3 : Int)]) ∧
        Below w.heap.size w w' ∧ Hid (lt4 z0 z1 z2 z3 ∧ v4 z0 z1 z2 z3 = (v4 x0 x1 x2 x3 + 115792089237316195423570985008687907853269984665640564039457584007913129639936 * t) % 57896044618658097711785492504343953926634992332820282019728792003956564819949) := by
  have HX := (show Hid _ from hx)
  have HT := (show Hid _ from ht)
  unfold L4
  clear hx ht
  go_enter Tryd.func101, Tryd.ntmps101
  go_wp2_with fail
  refine (add_at _ _ x0 x1 x2 x3 (t * 38) 0 0 0 _ rfl (L4_mk ?_ rfl rfl rfl) HX.out ?_).mono ?_
  · have := HT.out
    rw [IntKind.wrap_u64]; omega
  · have := HT.out
    unfold lt4; omega
  rintro e w1 ⟨s0, s1, s2, s3, c, rfl, hb1, H1⟩
  have HC : Hid (c ≤ 1) := by
    have h1 := H1.out; have ht := HT.out; have hx := HX.out
    show c ≤ 1
    unfold lt4 v4 at *; omega
  have B1 : Hid (Below w.heap.size w w1) := Below.trans (by (repeat (first | exact Below.refl _ _ | with_reducible assumption | refine Below.drew ?_ | refine Below.alloc ?_ (by first | omega | (simp <;> omega)) _ | refine Below.setCell ?_ (by first | omega | (simp <;> omega)) _))) (hb1.mono (by first | omega | (simp <;> omega)))
  have c1a := after4 hb1 (w.heap.size) (by first | omega | (simp <;> omega))
  have f1a := after_f hb1 (w.heap.size) (by first | omega | (simp <;> omega))
  have c1b := after4 hb1 (w.heap.size + 1) (by first | omega | (simp <;> omega))
  have f1b := after_f hb1 (w.heap.size + 1) (by first | omega | (simp <;> omega))
  try simp [go_sem] at c1a f1a c1b f1b
  obtain ⟨c1a0, c1a1, c1a2, c1a3⟩ := c1a
  obtain ⟨c1b0, c1b1, c1b2, c1b3⟩ := c1b
  have zz1 := hb1.size
  try simp at zz1
  have l1a : w.heap.size < w1.heap.size := by omega
  have n1a : w.heap.size ≠ w1.heap.size := by omega
  have l1b : w.heap.size + 1 < w1.heap.size := by omega
  have n1b : w.heap.size + 1 ≠ w1.heap.size := by omega
  clear hb1 zz1
  go_wp2_with fail
  refine (add_at _ _ s0 s1 s2 s3 (c * 38) 0 0 0 _ rfl (L4_mk ?_ rfl rfl rfl) H1.out.1 ?_).mono ?_
  · have := HC.out
    rw [IntKind.wrap_u64]; omega
  · have := HC.out
    unfold lt4; omega
  rintro e w2 ⟨t0, t1, t2, t3, c', rfl, hb2, H2⟩
  have q1 := B1.out
  have B2 : Hid (Below w.heap.size w w2) := Below.trans (by (repeat (first | exact Below.refl _ _ | with_reducible assumption | refine Below.drew ?_ | refine Below.alloc ?_ (by first | omega | (simp <;> omega)) _ | refine Below.setCell ?_ (by first | omega | (simp <;> omega)) _))) (hb2.mono (by first | omega | (simp <;> omega)))
  clear q1
  have c2a := after4 hb2 (w.heap.size) (by first | omega | (simp <;> omega))
  have f2a := after_f hb2 (w.heap.size) (by first | omega | (simp <;> omega))
  have c2b := after4 hb2 (w.heap.size + 1) (by first | omega | (simp <;> omega))
  have f2b := after_f hb2 (w.heap.size + 1) (by first | omega | (simp <;> omega))
  try simp [go_sem, c1a0, c1a1, c1a2, c1a3, f1a, c1b0, c1b1, c1b2, c1b3, f1b, l1a, n1a, l1b, n1b] at c2a f2a c2b f2b
  obtain ⟨c2a0, c2a1, c2a2, c2a3⟩ := c2a
  obtain ⟨c2b0, c2b1, c2b2, c2b3⟩ := c2b
  have zz2 := hb2.size
  try simp at zz2
  have l2a : w.heap.size < w2.heap.size := by omega
  have n2a : w.heap.size ≠ w2.heap.size := by omega
  have l2b : w.heap.size + 1 < w2.heap.size := by omega
  have n2b : w.heap.size + 1 ≠ w2.heap.size := by omega
  clear hb2 zz2
  clear c1a0 c1a1 c1a2 c1a3 f1a c1b0 c1b1 c1b2 c1b3 f1b l1a n1a l1b n1b
  go_wp2_with fail
  refine (reduce_at _ t0 t1 t2 t3 _ rfl H2.out.1).mono ?_
  rintro e w3 ⟨z0, z1, z2, z3, rfl, hb3, H3⟩
  have q2 := B2.out
  have B3 : Hid (Below w.heap.size w w3) := Below.trans (by (repeat (first | exact Below.refl _ _ | with_reducible assumption | refine Below.drew ?_ | refine Below.alloc ?_ (by first | omega | (simp <;> omega)) _ | refine Below.setCell ?_ (by first | omega | (simp <;> omega)) _))) (hb3.mono (by first | omega | (simp <;> omega)))
  clear q2
  have c3b := after4 hb3 (w.heap.size + 1) (by first | omega | (simp <;> omega))
  have f3b := after_f hb3 (w.heap.size + 1) (by first | omega | (simp <;> omega))
  try simp [go_sem, c2a0, c2a1, c2a2, c2a3, f2a, c2b0, c2b1, c2b2, c2b3, f2b, l2a, n2a, l2b, n2b] at c3b f3b
  obtain ⟨c3b0, c3b1, c3b2, c3b3⟩ := c3b
  have zz3 := hb3.size
  try simp at zz3
  have l3b : w.heap.size + 1 < w3.heap.size := by omega
  have n3b : w.heap.size + 1 ≠ w3.heap.size := by omega
  clear hb3 zz3
  clear c2a0 c2a1 c2a2 c2a3 f2a c2b0 c2b1 c2b2 c2b3 f2b l2a n2a l2b n2b
  go_wp2
  refine bodyPost_ret (v := .agg #[.int .u64 (z0 : Int), .int .u64 (z1 : Int), .int .u64 (z2 : Int), .int .u64 (z3 : Int)]) (by simp [results, Tryd.results101, go_sem, c3b0, c3b1, c3b2, c3b3, f3b, l3b, n3b]) rfl ⟨z0, z1, z2, z3, rfl, ?_, H3.out.1, ?_⟩
  · have q3 := B3.out
    repeat (first | exact Below.refl _ _ | with_reducible assumption | refine Below.drew ?_ | refine Below.alloc ?_ (by first | omega | (simp <;> omega)) _ | refine Below.setCell ?_ (by first | omega | (simp <;> omega)) _)
  · rw [H3.out.2]
    exact fold_arith _ _ _ _ _ _ _ _ _ _ _ _ _ _ _ HT.out HX.out H1.out H2.out

theorem fold_at (X T : Value) (x0 x1 x2 x3 t : Nat) (w : World) (hX : X = L4 x0 x1 x2 x3) (hT : T = .int .u64 (t : Int)) (hx : lt4 x0 x1 x2 x3) (ht : t ≤ 38) :
    Calls Tryd.prog 101 #[X, T] w
      fun e w' => ∃ z0 z1 z2 z3 : Nat, e = .returned (.agg #[.int .u64 (z0 : Int), .int .u64 (z1 : Int), .int .u64 (z2 : Int), .int .u64 (z3 : Int)]) ∧
        Below w.heap.size w w' ∧ Hid (lt4 z0 z1 z2 z3 ∧ v4 z0 z1 z2 z3 = (v4 x0 x1 x2 x3 + 115792089237316195423570985008687907853269984665640564039457584007913129639936 * t) % 57896044618658097711785492504343953926634992332820282019728792003956564819949) := by
  subst hX hT; exact fold_any x0 x1 x2 x3 t w hx ht
end Go.Proofs.YtjkdonjcngmjeaaDoor
