/-
  General pieces, joined: W8 Pow.
-/
import Derived.Test.YtjkdonjcngmjeaaGreatDoorG26
import Derived.Deep.LoopGhost
/-
  What package limb does with four words: the power of p - 2.
-/
namespace Go.Proofs.YtjkdonjcngmjeaaGreatDoor
open Go.RowKit
set_option linter.unusedSimpArgs false
set_option linter.unusedVariables false

theorem bits_all : ∀ s : Fin 64, ((s.val = 2 ∨ s.val = 4) ∨ (bits .and .u64 ((18446744073709551595 : Int) / 2 ^ s.val) 1 == 1) = true) ∧ ((s.val = 2 ∨ s.val = 4) → (bits .and .u64 ((18446744073709551595 : Int) / 2 ^ s.val) 1 == 1) = false) ∧
    (bits .and .u64 ((18446744073709551615 : Int) / 2 ^ s.val) 1 == 1) = true ∧ (s.val = 63 ∨ (bits .and .u64 ((9223372036854775807 : Int) / 2 ^ s.val) 1 == 1) = true) := by decide +kernel
theorem bit_0 (s : Nat) (h : s < 64 ∧ s ≠ 2 ∧ s ≠ 4) : (bits .and .u64 ((18446744073709551595 : Int) / 2 ^ s) 1 == 1) = true := by
  rcases (bits_all ⟨s, h.1⟩).1 with h' | h'
  · simp only at h'; omega
  · exact h'
theorem bit_0f (s : Nat) (h : s = 2 ∨ s = 4) : (bits .and .u64 ((18446744073709551595 : Int) / 2 ^ s) 1 == 1) = false :=
  (bits_all ⟨s, by omega⟩).2.1 h
theorem bit_1 (s : Nat) (h : s < 64) : (bits .and .u64 ((18446744073709551615 : Int) / 2 ^ s) 1 == 1) = true := (bits_all ⟨s, h⟩).2.2.1
theorem bit_2 (s : Nat) (h : s < 64) : (bits .and .u64 ((18446744073709551615 : Int) / 2 ^ s) 1 == 1) = true := (bits_all ⟨s, h⟩).2.2.1
theorem bit_3 (s : Nat) (h : s < 63) : (bits .and .u64 ((9223372036854775807 : Int) / 2 ^ s) 1 == 1) = true := by
  rcases (bits_all ⟨s, by omega⟩).2.2.2 with h' | h'
  · simp only at h'; omega
  · exact h'

/-- The bits of p - 2: all of its 255 bits but two. -/
theorem exp_bits : ∀ i : Fin 255, 57896044618658097711785492504343953926634992332820282019728792003956564819947 / 2 ^ i.val = 2 * (57896044618658097711785492504343953926634992332820282019728792003956564819947 / 2 ^ (i.val + 1)) + (if i.val = 2 ∨ i.val = 4 then 0 else 1) := by decide +kernel

theorem pow_no_bit (V Y S i : Nat) (hi : i < 255) (h : i = 2 ∨ i = 4) (hY : Y = V ^ (57896044618658097711785492504343953926634992332820282019728792003956564819947 / 2 ^ (i + 1)) % 57896044618658097711785492504343953926634992332820282019728792003956564819949) (hS : S = (Y * Y) % 57896044618658097711785492504343953926634992332820282019728792003956564819949) :
    S = V ^ (57896044618658097711785492504343953926634992332820282019728792003956564819947 / 2 ^ i) % 57896044618658097711785492504343953926634992332820282019728792003956564819949 := by
  have e := exp_bits ⟨i, hi⟩
  simp only [h, if_true, Nat.add_zero] at e
  rw [e, hS, hY, ← Nat.mul_mod, ← Nat.pow_add]
  congr 2
  omega
theorem pow_one_bit (V Y S i : Nat) (hi : i < 255) (h : ¬ (i = 2 ∨ i = 4)) (hY : Y = V ^ (57896044618658097711785492504343953926634992332820282019728792003956564819947 / 2 ^ (i + 1)) % 57896044618658097711785492504343953926634992332820282019728792003956564819949) (hS : S = (Y * Y) % 57896044618658097711785492504343953926634992332820282019728792003956564819949) :
    (S * V) % 57896044618658097711785492504343953926634992332820282019728792003956564819949 = V ^ (57896044618658097711785492504343953926634992332820282019728792003956564819947 / 2 ^ i) % 57896044618658097711785492504343953926634992332820282019728792003956564819949 := by
  have e := exp_bits ⟨i, hi⟩
  simp only [h, if_false] at e
  rw [e, hS, hY, ← Nat.mul_mod, Nat.mod_mul_mod, ← Nat.pow_add, ← Nat.pow_succ]
  congr 2
  omega

set_option maxHeartbeats 8000000 in
theorem inverse_any (x0 x1 x2 x3 : Nat) (w : World) (hx : lt4 x0 x1 x2 x3) (hp : PrimeAt w) :
    Calls Tryz.prog 78 #[L4 x0 x1 x2 x3] w
      fun e w' => ∃ z0 z1 z2 z3 : Nat, e = .returned (.agg #[.int .u64 (z0 : Int), .int .u64 (z1 : Int), .int .u64 (z2 : Int), .int .u64 (z3 : Int)]) ∧
        Below w.heap.size w w' ∧ Hid (lt4 z0 z1 z2 z3 ∧ v4 z0 z1 z2 z3 = v4 x0 x1 x2 x3 ^ 57896044618658097711785492504343953926634992332820282019728792003956564819947 % 57896044618658097711785492504343953926634992332820282019728792003956564819949) := by
  have HX := (show Hid _ from hx)
  have hlt := hp.lt
  have hne : w.heap.size ≠ 1 := by omega
  have hne' : 1 ≠ w.heap.size := by omega
  have hpz : w.heap.size ≠ 0 := by omega
  have hpz' : 0 < w.heap.size := by omega
  obtain ⟨p0, p1, p2, p3⟩ := hp
  unfold L4
  clear hx
  go_enter Tryz.func78, Tryz.ntmps78
  go_wp2_with fail
  clear p0 p1 p2 p3 hlt hne hne' hpz hpz'
  go_loopg [5] 255 (fun k s5 wr => s5 = .int .i64 ((k : Int) - 1) ∧ k ≤ 255 ∧ ∃ y0 y1 y2 y3 : Nat, (wr.cell? ⟨w.heap.size, 0, none⟩ = some (.int .u64 (x0 : Int)) ∧ wr.cell? ⟨w.heap.size, 1, none⟩ = some (.int .u64 (x1 : Int)) ∧ wr.cell? ⟨w.heap.size, 2, none⟩ = some (.int .u64 (x2 : Int)) ∧ wr.cell? ⟨w.heap.size, 3, none⟩ = some (.int .u64 (x3 : Int))) ∧ (wr.cell? ⟨w.heap.size + 1, 0, none⟩ = some (.int .u64 0) ∧ wr.cell? ⟨w.heap.size + 1, 1, none⟩ = some (.int .u64 0) ∧ wr.cell? ⟨w.heap.size + 1, 2, none⟩ = some (.int .u64 0) ∧ wr.cell? ⟨w.heap.size + 1, 3, none⟩ = some (.int .u64 0)) ∧ (wr.cell? ⟨w.heap.size + 1 + 1, 0, none⟩ = some (.int .u64 18446744073709551595) ∧ wr.cell? ⟨w.heap.size + 1 + 1, 1, none⟩ = some (.int .u64 18446744073709551615) ∧ wr.cell? ⟨w.heap.size + 1 + 1, 2, none⟩ = some (.int .u64 18446744073709551615) ∧ wr.cell? ⟨w.heap.size + 1 + 1, 3, none⟩ = some (.int .u64 9223372036854775807)) ∧ (wr.cell? ⟨w.heap.size + 1 + 1 + 1, 0, none⟩ = some (.int .u64 (y0 : Int)) ∧ wr.cell? ⟨w.heap.size + 1 + 1 + 1, 1, none⟩ = some (.int .u64 (y1 : Int)) ∧ wr.cell? ⟨w.heap.size + 1 + 1 + 1, 2, none⟩ = some (.int .u64 (y2 : Int)) ∧ wr.cell? ⟨w.heap.size + 1 + 1 + 1, 3, none⟩ = some (.int .u64 (y3 : Int))) ∧
    (∀ j, wr.frozen? ⟨w.heap.size, j, none⟩ = false) ∧ (∀ j, wr.frozen? ⟨w.heap.size + 1, j, none⟩ = false) ∧ (∀ j, wr.frozen? ⟨w.heap.size + 1 + 1, j, none⟩ = false) ∧ (∀ j, wr.frozen? ⟨w.heap.size + 1 + 1 + 1, j, none⟩ = false) ∧ w.heap.size + 1 + 1 + 1 < wr.heap.size ∧ Below w.heap.size w wr ∧
    Hid (lt4 y0 y1 y2 y3 ∧ v4 y0 y1 y2 y3 = v4 x0 x1 x2 x3 ^ (57896044618658097711785492504343953926634992332820282019728792003956564819947 / 2 ^ k) % 57896044618658097711785492504343953926634992332820282019728792003956564819949))
  case atStart =>
    refine ⟨rfl, by omega, 1, 0, 0, 0, ?_, ?_, ?_, ?_, ?_, ?_, ?_, ?_, ?_, ?_, ?_⟩
    · simp [go_sem]
    · simp [go_sem]
    · simp [go_sem]
    · simp [go_sem]
    · intro j; simp [go_sem]
    · intro j; simp [go_sem]
    · intro j; simp [go_sem]
    · intro j; simp [go_sem]
    · simp
    · repeat (first | with_reducible exact Below.refl _ _ | with_reducible assumption | with_reducible refine Below.drew ?_ | (with_reducible refine Below.alloc ?_ ?hB _; (case hB => first | omega | (simp <;> omega))) | (with_reducible refine Below.setCell ?_ ?hB _; (case hB => first | omega | (simp <;> omega))))
    · refine ⟨by unfold lt4; omega, ?_⟩
      have e : 57896044618658097711785492504343953926634992332820282019728792003956564819947 / 2 ^ 255 = 0 := by decide +kernel
      rw [e, Nat.pow_zero]
      decide +kernel
  case round =>
    obtain ⟨rfl, hk, y0, y1, y2, y3, cx, cr, cp, cy, fx, fr, fp, fy, hsz, hB, HY⟩ := hrel
    have QB : Hid _ := hB
    clear hB
    by_cases hk0 : gk = 0
    · subst hk0
      go_wp2_with fail
      refine bodyPost_ret (v := .agg #[.int .u64 (y0 : Int), .int .u64 (y1 : Int), .int .u64 (y2 : Int), .int .u64 (y3 : Int)]) (by simp [results, Tryz.results78, go_sem, cx, cr, cp, cy, fx, fr, fp, fy]) rfl ⟨y0, y1, y2, y3, rfl, ?_, HY.out.1, ?_⟩
      · have q := QB.out
        repeat (first | with_reducible exact Below.refl _ _ | with_reducible assumption | with_reducible refine Below.drew ?_ | (with_reducible refine Below.alloc ?_ ?hB _; (case hB => first | omega | (simp <;> omega))) | (with_reducible refine Below.setCell ?_ ?hB _; (case hB => first | omega | (simp <;> omega))))
      · have := HY.out.2
        rw [Nat.pow_zero, Nat.div_one] at this
        exact this
    · obtain ⟨i, rfl⟩ : ∃ i, gk = i + 1 := ⟨gk - 1, by omega⟩
      have hi : Hid (i < 255) := by show i < 255; omega
      clear hk0 hk
      go_wp2_with fail
      refine (product_at _ _ y0 y1 y2 y3 y0 y1 y2 y3 _ rfl rfl HY.out.1 HY.out.1).mono ?_
      rintro e w1 ⟨s0, s1, s2, s3, rfl, hb1, H1⟩
      have q0 := QB.out
      have B1 : Hid (Below w.heap.size w w1) := Below.trans (by (repeat (first | with_reducible exact Below.refl _ _ | with_reducible assumption | with_reducible refine Below.drew ?_ | (with_reducible refine Below.alloc ?_ ?hB _; (case hB => first | omega | (simp <;> omega))) | (with_reducible refine Below.setCell ?_ ?hB _; (case hB => first | omega | (simp <;> omega)))))) (hb1.mono (by first | omega | (simp <;> omega)))
      have c1a := after4 hb1 (w.heap.size) (by first | omega | (simp <;> omega))
      have f1a := after_f hb1 (w.heap.size) (by first | omega | (simp <;> omega))
      have c1b := after4 hb1 (w.heap.size + 1) (by first | omega | (simp <;> omega))
      have f1b := after_f hb1 (w.heap.size + 1) (by first | omega | (simp <;> omega))
      have c1c := after4 hb1 (w.heap.size + 1 + 1) (by first | omega | (simp <;> omega))
      have f1c := after_f hb1 (w.heap.size + 1 + 1) (by first | omega | (simp <;> omega))
      have c1d := after4 hb1 (w.heap.size + 1 + 1 + 1) (by first | omega | (simp <;> omega))
      have f1d := after_f hb1 (w.heap.size + 1 + 1 + 1) (by first | omega | (simp <;> omega))
      try simp [go_sem, cx, cr, cp, cy, fx, fr, fp, fy] at c1a f1a c1b f1b c1c f1c c1d f1d
      obtain ⟨c1a0, c1a1, c1a2, c1a3⟩ := c1a
      obtain ⟨c1b0, c1b1, c1b2, c1b3⟩ := c1b
      obtain ⟨c1c0, c1c1, c1c2, c1c3⟩ := c1c
      obtain ⟨c1d0, c1d1, c1d2, c1d3⟩ := c1d
      have zz1 := hb1.size
      try simp at zz1
      have l1a : w.heap.size < w1.heap.size := by omega
      have n1a : w.heap.size ≠ w1.heap.size := by omega
      have l1b : w.heap.size + 1 < w1.heap.size := by omega
      have n1b : w.heap.size + 1 ≠ w1.heap.size := by omega
      have l1c : w.heap.size + 1 + 1 < w1.heap.size := by omega
      have n1c : w.heap.size + 1 + 1 ≠ w1.heap.size := by omega
      have l1d : w.heap.size + 1 + 1 + 1 < w1.heap.size := by omega
      have n1d : w.heap.size + 1 + 1 + 1 ≠ w1.heap.size := by omega
      clear hb1 zz1
      clear q0 QB cx cr cp cy fx fr fp fy hsz
      replace hi := hi.out
      by_cases c0 : i < 64
      · by_cases c1 : i = 2 ∨ i = 4
        · have hq : (i : Int) / 64 = 0 := by omega
          have hbit := bit_0f (i % 64) (by omega)
          have I : Hid _ := hi
          go_wp2_with fail
          clear hbit hq
          go_wp2_with fail
          have hi := I.out
          go_roundg i
          case measure => omega
          case rel =>
            refine ⟨rfl, by omega, s0, s1, s2, s3, ?_, ?_, ?_, ?_, ?_, ?_, ?_, ?_, ?_, ?_, ?_⟩
            · simp [go_sem, c1a0, c1a1, c1a2, c1a3, f1a, c1b0, c1b1, c1b2, c1b3, f1b, c1c0, c1c1, c1c2, c1c3, f1c, c1d0, c1d1, c1d2, c1d3, f1d, l1a, n1a, l1b, n1b, l1c, n1c, l1d, n1d]
            · simp [go_sem, c1a0, c1a1, c1a2, c1a3, f1a, c1b0, c1b1, c1b2, c1b3, f1b, c1c0, c1c1, c1c2, c1c3, f1c, c1d0, c1d1, c1d2, c1d3, f1d, l1a, n1a, l1b, n1b, l1c, n1c, l1d, n1d]
            · simp [go_sem, c1a0, c1a1, c1a2, c1a3, f1a, c1b0, c1b1, c1b2, c1b3, f1b, c1c0, c1c1, c1c2, c1c3, f1c, c1d0, c1d1, c1d2, c1d3, f1d, l1a, n1a, l1b, n1b, l1c, n1c, l1d, n1d]
            · simp [go_sem, c1a0, c1a1, c1a2, c1a3, f1a, c1b0, c1b1, c1b2, c1b3, f1b, c1c0, c1c1, c1c2, c1c3, f1c, c1d0, c1d1, c1d2, c1d3, f1d, l1a, n1a, l1b, n1b, l1c, n1c, l1d, n1d]
            · intro j; simp [go_sem, c1a0, c1a1, c1a2, c1a3, f1a, c1b0, c1b1, c1b2, c1b3, f1b, c1c0, c1c1, c1c2, c1c3, f1c, c1d0, c1d1, c1d2, c1d3, f1d, l1a, n1a, l1b, n1b, l1c, n1c, l1d, n1d]
            · intro j; simp [go_sem, c1a0, c1a1, c1a2, c1a3, f1a, c1b0, c1b1, c1b2, c1b3, f1b, c1c0, c1c1, c1c2, c1c3, f1c, c1d0, c1d1, c1d2, c1d3, f1d, l1a, n1a, l1b, n1b, l1c, n1c, l1d, n1d]
            · intro j; simp [go_sem, c1a0, c1a1, c1a2, c1a3, f1a, c1b0, c1b1, c1b2, c1b3, f1b, c1c0, c1c1, c1c2, c1c3, f1c, c1d0, c1d1, c1d2, c1d3, f1d, l1a, n1a, l1b, n1b, l1c, n1c, l1d, n1d]
            · intro j; simp [go_sem, c1a0, c1a1, c1a2, c1a3, f1a, c1b0, c1b1, c1b2, c1b3, f1b, c1c0, c1c1, c1c2, c1c3, f1c, c1d0, c1d1, c1d2, c1d3, f1d, l1a, n1a, l1b, n1b, l1c, n1c, l1d, n1d]
            · simp; omega
            · have q1 := B1.out
              repeat (first | with_reducible exact Below.refl _ _ | with_reducible assumption | with_reducible refine Below.drew ?_ | (with_reducible refine Below.alloc ?_ ?hB _; (case hB => first | omega | (simp <;> omega))) | (with_reducible refine Below.setCell ?_ ?hB _; (case hB => first | omega | (simp <;> omega))))
            · exact ⟨H1.out.1, pow_no_bit _ _ _ i (by omega) (by omega) HY.out.2 H1.out.2⟩

        · have hq : (i : Int) / 64 = 0 := by omega
          have hbit := bit_0 (i % 64) (by omega)
          have I : Hid _ := hi
          go_wp2_with fail
          refine (product_at _ _ s0 s1 s2 s3 x0 x1 x2 x3 _ rfl rfl H1.out.1 HX.out).mono ?_
          rintro e w2 ⟨t0, t1, t2, t3, rfl, hb2, H2⟩
          have q1 := B1.out
          have B2 : Hid (Below w.heap.size w w2) := Below.trans (by (repeat (first | with_reducible exact Below.refl _ _ | with_reducible assumption | with_reducible refine Below.drew ?_ | (with_reducible refine Below.alloc ?_ ?hB _; (case hB => first | omega | (simp <;> omega))) | (with_reducible refine Below.setCell ?_ ?hB _; (case hB => first | omega | (simp <;> omega)))))) (hb2.mono (by first | omega | (simp <;> omega)))
          clear q1
          have c2a := after4 hb2 (w.heap.size) (by first | omega | (simp <;> omega))
          have f2a := after_f hb2 (w.heap.size) (by first | omega | (simp <;> omega))
          have c2b := after4 hb2 (w.heap.size + 1) (by first | omega | (simp <;> omega))
          have f2b := after_f hb2 (w.heap.size + 1) (by first | omega | (simp <;> omega))
          have c2c := after4 hb2 (w.heap.size + 1 + 1) (by first | omega | (simp <;> omega))
          have f2c := after_f hb2 (w.heap.size + 1 + 1) (by first | omega | (simp <;> omega))
          have c2d := after4 hb2 (w.heap.size + 1 + 1 + 1) (by first | omega | (simp <;> omega))
          have f2d := after_f hb2 (w.heap.size + 1 + 1 + 1) (by first | omega | (simp <;> omega))
          try simp [go_sem, c1a0, c1a1, c1a2, c1a3, f1a, c1b0, c1b1, c1b2, c1b3, f1b, c1c0, c1c1, c1c2, c1c3, f1c, c1d0, c1d1, c1d2, c1d3, f1d, l1a, n1a, l1b, n1b, l1c, n1c, l1d, n1d] at c2a f2a c2b f2b c2c f2c c2d f2d
          obtain ⟨c2a0, c2a1, c2a2, c2a3⟩ := c2a
          obtain ⟨c2b0, c2b1, c2b2, c2b3⟩ := c2b
          obtain ⟨c2c0, c2c1, c2c2, c2c3⟩ := c2c
          obtain ⟨c2d0, c2d1, c2d2, c2d3⟩ := c2d
          have zz2 := hb2.size
          try simp at zz2
          have l2a : w.heap.size < w2.heap.size := by omega
          have n2a : w.heap.size ≠ w2.heap.size := by omega
          have l2b : w.heap.size + 1 < w2.heap.size := by omega
          have n2b : w.heap.size + 1 ≠ w2.heap.size := by omega
          have l2c : w.heap.size + 1 + 1 < w2.heap.size := by omega
          have n2c : w.heap.size + 1 + 1 ≠ w2.heap.size := by omega
          have l2d : w.heap.size + 1 + 1 + 1 < w2.heap.size := by omega
          have n2d : w.heap.size + 1 + 1 + 1 ≠ w2.heap.size := by omega
          clear hb2 zz2
          clear c1a0 c1a1 c1a2 c1a3 f1a c1b0 c1b1 c1b2 c1b3 f1b c1c0 c1c1 c1c2 c1c3 f1c c1d0 c1d1 c1d2 c1d3 f1d l1a n1a l1b n1b l1c n1c l1d n1d hbit hq
          go_wp2_with fail
          have hi := I.out
          go_roundg i
          case measure => omega
          case rel =>
            refine ⟨rfl, by omega, t0, t1, t2, t3, ?_, ?_, ?_, ?_, ?_, ?_, ?_, ?_, ?_, ?_, ?_⟩
            · simp [go_sem, c2a0, c2a1, c2a2, c2a3, f2a, c2b0, c2b1, c2b2, c2b3, f2b, c2c0, c2c1, c2c2, c2c3, f2c, c2d0, c2d1, c2d2, c2d3, f2d, l2a, n2a, l2b, n2b, l2c, n2c, l2d, n2d]
            · simp [go_sem, c2a0, c2a1, c2a2, c2a3, f2a, c2b0, c2b1, c2b2, c2b3, f2b, c2c0, c2c1, c2c2, c2c3, f2c, c2d0, c2d1, c2d2, c2d3, f2d, l2a, n2a, l2b, n2b, l2c, n2c, l2d, n2d]
            · simp [go_sem, c2a0, c2a1, c2a2, c2a3, f2a, c2b0, c2b1, c2b2, c2b3, f2b, c2c0, c2c1, c2c2, c2c3, f2c, c2d0, c2d1, c2d2, c2d3, f2d, l2a, n2a, l2b, n2b, l2c, n2c, l2d, n2d]
            · simp [go_sem, c2a0, c2a1, c2a2, c2a3, f2a, c2b0, c2b1, c2b2, c2b3, f2b, c2c0, c2c1, c2c2, c2c3, f2c, c2d0, c2d1, c2d2, c2d3, f2d, l2a, n2a, l2b, n2b, l2c, n2c, l2d, n2d]
            · intro j; simp [go_sem, c2a0, c2a1, c2a2, c2a3, f2a, c2b0, c2b1, c2b2, c2b3, f2b, c2c0, c2c1, c2c2, c2c3, f2c, c2d0, c2d1, c2d2, c2d3, f2d, l2a, n2a, l2b, n2b, l2c, n2c, l2d, n2d]
            · intro j; simp [go_sem, c2a0, c2a1, c2a2, c2a3, f2a, c2b0, c2b1, c2b2, c2b3, f2b, c2c0, c2c1, c2c2, c2c3, f2c, c2d0, c2d1, c2d2, c2d3, f2d, l2a, n2a, l2b, n2b, l2c, n2c, l2d, n2d]
            · intro j; simp [go_sem, c2a0, c2a1, c2a2, c2a3, f2a, c2b0, c2b1, c2b2, c2b3, f2b, c2c0, c2c1, c2c2, c2c3, f2c, c2d0, c2d1, c2d2, c2d3, f2d, l2a, n2a, l2b, n2b, l2c, n2c, l2d, n2d]
            · intro j; simp [go_sem, c2a0, c2a1, c2a2, c2a3, f2a, c2b0, c2b1, c2b2, c2b3, f2b, c2c0, c2c1, c2c2, c2c3, f2c, c2d0, c2d1, c2d2, c2d3, f2d, l2a, n2a, l2b, n2b, l2c, n2c, l2d, n2d]
            · simp; omega
            · have q2 := B2.out
              repeat (first | with_reducible exact Below.refl _ _ | with_reducible assumption | with_reducible refine Below.drew ?_ | (with_reducible refine Below.alloc ?_ ?hB _; (case hB => first | omega | (simp <;> omega))) | (with_reducible refine Below.setCell ?_ ?hB _; (case hB => first | omega | (simp <;> omega))))
            · exact ⟨H2.out.1, by rw [H2.out.2]; exact pow_one_bit _ _ _ i (by omega) (by omega) HY.out.2 H1.out.2⟩

      · by_cases c1 : i < 128
        · have hq : (i : Int) / 64 = 1 := by omega
          have hbit := bit_1 (i % 64) (by omega)
          have I : Hid _ := hi
          go_wp2_with fail
          refine (product_at _ _ s0 s1 s2 s3 x0 x1 x2 x3 _ rfl rfl H1.out.1 HX.out).mono ?_
          rintro e w2 ⟨t0, t1, t2, t3, rfl, hb2, H2⟩
          have q1 := B1.out
          have B2 : Hid (Below w.heap.size w w2) := Below.trans (by (repeat (first | with_reducible exact Below.refl _ _ | with_reducible assumption | with_reducible refine Below.drew ?_ | (with_reducible refine Below.alloc ?_ ?hB _; (case hB => first | omega | (simp <;> omega))) | (with_reducible refine Below.setCell ?_ ?hB _; (case hB => first | omega | (simp <;> omega)))))) (hb2.mono (by first | omega | (simp <;> omega)))
          clear q1
          have c2a := after4 hb2 (w.heap.size) (by first | omega | (simp <;> omega))
          have f2a := after_f hb2 (w.heap.size) (by first | omega | (simp <;> omega))
          have c2b := after4 hb2 (w.heap.size + 1) (by first | omega | (simp <;> omega))
          have f2b := after_f hb2 (w.heap.size + 1) (by first | omega | (simp <;> omega))
          have c2c := after4 hb2 (w.heap.size + 1 + 1) (by first | omega | (simp <;> omega))
          have f2c := after_f hb2 (w.heap.size + 1 + 1) (by first | omega | (simp <;> omega))
          have c2d := after4 hb2 (w.heap.size + 1 + 1 + 1) (by first | omega | (simp <;> omega))
          have f2d := after_f hb2 (w.heap.size + 1 + 1 + 1) (by first | omega | (simp <;> omega))
          try simp [go_sem, c1a0, c1a1, c1a2, c1a3, f1a, c1b0, c1b1, c1b2, c1b3, f1b, c1c0, c1c1, c1c2, c1c3, f1c, c1d0, c1d1, c1d2, c1d3, f1d, l1a, n1a, l1b, n1b, l1c, n1c, l1d, n1d] at c2a f2a c2b f2b c2c f2c c2d f2d
          obtain ⟨c2a0, c2a1, c2a2, c2a3⟩ := c2a
          obtain ⟨c2b0, c2b1, c2b2, c2b3⟩ := c2b
          obtain ⟨c2c0, c2c1, c2c2, c2c3⟩ := c2c
          obtain ⟨c2d0, c2d1, c2d2, c2d3⟩ := c2d
          have zz2 := hb2.size
          try simp at zz2
          have l2a : w.heap.size < w2.heap.size := by omega
          have n2a : w.heap.size ≠ w2.heap.size := by omega
          have l2b : w.heap.size + 1 < w2.heap.size := by omega
          have n2b : w.heap.size + 1 ≠ w2.heap.size := by omega
          have l2c : w.heap.size + 1 + 1 < w2.heap.size := by omega
          have n2c : w.heap.size + 1 + 1 ≠ w2.heap.size := by omega
          have l2d : w.heap.size + 1 + 1 + 1 < w2.heap.size := by omega
          have n2d : w.heap.size + 1 + 1 + 1 ≠ w2.heap.size := by omega
          clear hb2 zz2
          clear c1a0 c1a1 c1a2 c1a3 f1a c1b0 c1b1 c1b2 c1b3 f1b c1c0 c1c1 c1c2 c1c3 f1c c1d0 c1d1 c1d2 c1d3 f1d l1a n1a l1b n1b l1c n1c l1d n1d hbit hq
          go_wp2_with fail
          have hi := I.out
          go_roundg i
          case measure => omega
          case rel =>
            refine ⟨rfl, by omega, t0, t1, t2, t3, ?_, ?_, ?_, ?_, ?_, ?_, ?_, ?_, ?_, ?_, ?_⟩
            · simp [go_sem, c2a0, c2a1, c2a2, c2a3, f2a, c2b0, c2b1, c2b2, c2b3, f2b, c2c0, c2c1, c2c2, c2c3, f2c, c2d0, c2d1, c2d2, c2d3, f2d, l2a, n2a, l2b, n2b, l2c, n2c, l2d, n2d]
            · simp [go_sem, c2a0, c2a1, c2a2, c2a3, f2a, c2b0, c2b1, c2b2, c2b3, f2b, c2c0, c2c1, c2c2, c2c3, f2c, c2d0, c2d1, c2d2, c2d3, f2d, l2a, n2a, l2b, n2b, l2c, n2c, l2d, n2d]
            · simp [go_sem, c2a0, c2a1, c2a2, c2a3, f2a, c2b0, c2b1, c2b2, c2b3, f2b, c2c0, c2c1, c2c2, c2c3, f2c, c2d0, c2d1, c2d2, c2d3, f2d, l2a, n2a, l2b, n2b, l2c, n2c, l2d, n2d]
            · simp [go_sem, c2a0, c2a1, c2a2, c2a3, f2a, c2b0, c2b1, c2b2, c2b3, f2b, c2c0, c2c1, c2c2, c2c3, f2c, c2d0, c2d1, c2d2, c2d3, f2d, l2a, n2a, l2b, n2b, l2c, n2c, l2d, n2d]
            · intro j; simp [go_sem, c2a0, c2a1, c2a2, c2a3, f2a, c2b0, c2b1, c2b2, c2b3, f2b, c2c0, c2c1, c2c2, c2c3, f2c, c2d0, c2d1, c2d2, c2d3, f2d, l2a, n2a, l2b, n2b, l2c, n2c, l2d, n2d]
            · intro j; simp [go_sem, c2a0, c2a1, c2a2, c2a3, f2a, c2b0, c2b1, c2b2, c2b3, f2b, c2c0, c2c1, c2c2, c2c3, f2c, c2d0, c2d1, c2d2, c2d3, f2d, l2a, n2a, l2b, n2b, l2c, n2c, l2d, n2d]
            · intro j; simp [go_sem, c2a0, c2a1, c2a2, c2a3, f2a, c2b0, c2b1, c2b2, c2b3, f2b, c2c0, c2c1, c2c2, c2c3, f2c, c2d0, c2d1, c2d2, c2d3, f2d, l2a, n2a, l2b, n2b, l2c, n2c, l2d, n2d]
            · intro j; simp [go_sem, c2a0, c2a1, c2a2, c2a3, f2a, c2b0, c2b1, c2b2, c2b3, f2b, c2c0, c2c1, c2c2, c2c3, f2c, c2d0, c2d1, c2d2, c2d3, f2d, l2a, n2a, l2b, n2b, l2c, n2c, l2d, n2d]
            · simp; omega
            · have q2 := B2.out
              repeat (first | with_reducible exact Below.refl _ _ | with_reducible assumption | with_reducible refine Below.drew ?_ | (with_reducible refine Below.alloc ?_ ?hB _; (case hB => first | omega | (simp <;> omega))) | (with_reducible refine Below.setCell ?_ ?hB _; (case hB => first | omega | (simp <;> omega))))
            · exact ⟨H2.out.1, by rw [H2.out.2]; exact pow_one_bit _ _ _ i (by omega) (by omega) HY.out.2 H1.out.2⟩

        · by_cases c2 : i < 192
          · have hq : (i : Int) / 64 = 2 := by omega
            have hbit := bit_2 (i % 64) (by omega)
            have I : Hid _ := hi
            go_wp2_with fail
            refine (product_at _ _ s0 s1 s2 s3 x0 x1 x2 x3 _ rfl rfl H1.out.1 HX.out).mono ?_
            rintro e w2 ⟨t0, t1, t2, t3, rfl, hb2, H2⟩
            have q1 := B1.out
            have B2 : Hid (Below w.heap.size w w2) := Below.trans (by (repeat (first | with_reducible exact Below.refl _ _ | with_reducible assumption | with_reducible refine Below.drew ?_ | (with_reducible refine Below.alloc ?_ ?hB _; (case hB => first | omega | (simp <;> omega))) | (with_reducible refine Below.setCell ?_ ?hB _; (case hB => first | omega | (simp <;> omega)))))) (hb2.mono (by first | omega | (simp <;> omega)))
            clear q1
            have c2a := after4 hb2 (w.heap.size) (by first | omega | (simp <;> omega))
            have f2a := after_f hb2 (w.heap.size) (by first | omega | (simp <;> omega))
            have c2b := after4 hb2 (w.heap.size + 1) (by first | omega | (simp <;> omega))
            have f2b := after_f hb2 (w.heap.size + 1) (by first | omega | (simp <;> omega))
            have c2c := after4 hb2 (w.heap.size + 1 + 1) (by first | omega | (simp <;> omega))
            have f2c := after_f hb2 (w.heap.size + 1 + 1) (by first | omega | (simp <;> omega))
            have c2d := after4 hb2 (w.heap.size + 1 + 1 + 1) (by first | omega | (simp <;> omega))
            have f2d := after_f hb2 (w.heap.size + 1 + 1 + 1) (by first | omega | (simp <;> omega))
            try simp [go_sem, c1a0, c1a1, c1a2, c1a3, f1a, c1b0, c1b1, c1b2, c1b3, f1b, c1c0, c1c1, c1c2, c1c3, f1c, c1d0, c1d1, c1d2, c1d3, f1d, l1a, n1a, l1b, n1b, l1c, n1c, l1d, n1d] at c2a f2a c2b f2b c2c f2c c2d f2d
            obtain ⟨c2a0, c2a1, c2a2, c2a3⟩ := c2a
            obtain ⟨c2b0, c2b1, c2b2, c2b3⟩ := c2b
            obtain ⟨c2c0, c2c1, c2c2, c2c3⟩ := c2c
            obtain ⟨c2d0, c2d1, c2d2, c2d3⟩ := c2d
            have zz2 := hb2.size
            try simp at zz2
            have l2a : w.heap.size < w2.heap.size := by omega
            have n2a : w.heap.size ≠ w2.heap.size := by omega
            have l2b : w.heap.size + 1 < w2.heap.size := by omega
            have n2b : w.heap.size + 1 ≠ w2.heap.size := by omega
            have l2c : w.heap.size + 1 + 1 < w2.heap.size := by omega
            have n2c : w.heap.size + 1 + 1 ≠ w2.heap.size := by omega
            have l2d : w.heap.size + 1 + 1 + 1 < w2.heap.size := by omega
            have n2d : w.heap.size + 1 + 1 + 1 ≠ w2.heap.size := by omega
            clear hb2 zz2
            clear c1a0 c1a1 c1a2 c1a3 f1a c1b0 c1b1 c1b2 c1b3 f1b c1c0 c1c1 c1c2 c1c3 f1c c1d0 c1d1 c1d2 c1d3 f1d l1a n1a l1b n1b l1c n1c l1d n1d hbit hq
            go_wp2_with fail
            have hi := I.out
            go_roundg i
            case measure => omega
            case rel =>
              refine ⟨rfl, by omega, t0, t1, t2, t3, ?_, ?_, ?_, ?_, ?_, ?_, ?_, ?_, ?_, ?_, ?_⟩
              · simp [go_sem, c2a0, c2a1, c2a2, c2a3, f2a, c2b0, c2b1, c2b2, c2b3, f2b, c2c0, c2c1, c2c2, c2c3, f2c, c2d0, c2d1, c2d2, c2d3, f2d, l2a, n2a, l2b, n2b, l2c, n2c, l2d, n2d]
              · simp [go_sem, c2a0, c2a1, c2a2, c2a3, f2a, c2b0, c2b1, c2b2, c2b3, f2b, c2c0, c2c1, c2c2, c2c3, f2c, c2d0, c2d1, c2d2, c2d3, f2d, l2a, n2a, l2b, n2b, l2c, n2c, l2d, n2d]
              · simp [go_sem, c2a0, c2a1, c2a2, c2a3, f2a, c2b0, c2b1, c2b2, c2b3, f2b, c2c0, c2c1, c2c2, c2c3, f2c, c2d0, c2d1, c2d2, c2d3, f2d, l2a, n2a, l2b, n2b, l2c, n2c, l2d, n2d]
              · simp [go_sem, c2a0, c2a1, c2a2, c2a3, f2a, c2b0, c2b1, c2b2, c2b3, f2b, c2c0, c2c1, c2c2, c2c3, f2c, c2d0, c2d1, c2d2, c2d3, f2d, l2a, n2a, l2b, n2b, l2c, n2c, l2d, n2d]
              · intro j; simp [go_sem, c2a0, c2a1, c2a2, c2a3, f2a, c2b0, c2b1, c2b2, c2b3, f2b, c2c0, c2c1, c2c2, c2c3, f2c, c2d0, c2d1, c2d2, c2d3, f2d, l2a, n2a, l2b, n2b, l2c, n2c, l2d, n2d]
              · intro j; simp [go_sem, c2a0, c2a1, c2a2, c2a3, f2a, c2b0, c2b1, c2b2, c2b3, f2b, c2c0, c2c1, c2c2, c2c3, f2c, c2d0, c2d1, c2d2, c2d3, f2d, l2a, n2a, l2b, n2b, l2c, n2c, l2d, n2d]
              · intro j; simp [go_sem, c2a0, c2a1, c2a2, c2a3, f2a, c2b0, c2b1, c2b2, c2b3, f2b, c2c0, c2c1, c2c2, c2c3, f2c, c2d0, c2d1, c2d2, c2d3, f2d, l2a, n2a, l2b, n2b, l2c, n2c, l2d, n2d]
              · intro j; simp [go_sem, c2a0, c2a1, c2a2, c2a3, f2a, c2b0, c2b1, c2b2, c2b3, f2b, c2c0, c2c1, c2c2, c2c3, f2c, c2d0, c2d1, c2d2, c2d3, f2d, l2a, n2a, l2b, n2b, l2c, n2c, l2d, n2d]
              · simp; omega
              · have q2 := B2.out
                repeat (first | with_reducible exact Below.refl _ _ | with_reducible assumption | with_reducible refine Below.drew ?_ | (with_reducible refine Below.alloc ?_ ?hB _; (case hB => first | omega | (simp <;> omega))) | (with_reducible refine Below.setCell ?_ ?hB _; (case hB => first | omega | (simp <;> omega))))
              · exact ⟨H2.out.1, by rw [H2.out.2]; exact pow_one_bit _ _ _ i (by omega) (by omega) HY.out.2 H1.out.2⟩

          · have hq : (i : Int) / 64 = 3 := by omega
            have hbit := bit_3 (i % 64) (by omega)
            have I : Hid _ := hi
            go_wp2_with fail
            refine (product_at _ _ s0 s1 s2 s3 x0 x1 x2 x3 _ rfl rfl H1.out.1 HX.out).mono ?_
            rintro e w2 ⟨t0, t1, t2, t3, rfl, hb2, H2⟩
            have q1 := B1.out
            have B2 : Hid (Below w.heap.size w w2) := Below.trans (by (repeat (first | with_reducible exact Below.refl _ _ | with_reducible assumption | with_reducible refine Below.drew ?_ | (with_reducible refine Below.alloc ?_ ?hB _; (case hB => first | omega | (simp <;> omega))) | (with_reducible refine Below.setCell ?_ ?hB _; (case hB => first | omega | (simp <;> omega)))))) (hb2.mono (by first | omega | (simp <;> omega)))
            clear q1
            have c2a := after4 hb2 (w.heap.size) (by first | omega | (simp <;> omega))
            have f2a := after_f hb2 (w.heap.size) (by first | omega | (simp <;> omega))
            have c2b := after4 hb2 (w.heap.size + 1) (by first | omega | (simp <;> omega))
            have f2b := after_f hb2 (w.heap.size + 1) (by first | omega | (simp <;> omega))
            have c2c := after4 hb2 (w.heap.size + 1 + 1) (by first | omega | (simp <;> omega))
            have f2c := after_f hb2 (w.heap.size + 1 + 1) (by first | omega | (simp <;> omega))
            have c2d := after4 hb2 (w.heap.size + 1 + 1 + 1) (by first | omega | (simp <;> omega))
            have f2d := after_f hb2 (w.heap.size + 1 + 1 + 1) (by first | omega | (simp <;> omega))
            try simp [go_sem, c1a0, c1a1, c1a2, c1a3, f1a, c1b0, c1b1, c1b2, c1b3, f1b, c1c0, c1c1, c1c2, c1c3, f1c, c1d0, c1d1, c1d2, c1d3, f1d, l1a, n1a, l1b, n1b, l1c, n1c, l1d, n1d] at c2a f2a c2b f2b c2c f2c c2d f2d
            obtain ⟨c2a0, c2a1, c2a2, c2a3⟩ := c2a
            obtain ⟨c2b0, c2b1, c2b2, c2b3⟩ := c2b
            obtain ⟨c2c0, c2c1, c2c2, c2c3⟩ := c2c
            obtain ⟨c2d0, c2d1, c2d2, c2d3⟩ := c2d
            have zz2 := hb2.size
            try simp at zz2
            have l2a : w.heap.size < w2.heap.size := by omega
            have n2a : w.heap.size ≠ w2.heap.size := by omega
            have l2b : w.heap.size + 1 < w2.heap.size := by omega
            have n2b : w.heap.size + 1 ≠ w2.heap.size := by omega
            have l2c : w.heap.size + 1 + 1 < w2.heap.size := by omega
            have n2c : w.heap.size + 1 + 1 ≠ w2.heap.size := by omega
            have l2d : w.heap.size + 1 + 1 + 1 < w2.heap.size := by omega
            have n2d : w.heap.size + 1 + 1 + 1 ≠ w2.heap.size := by omega
            clear hb2 zz2
            clear c1a0 c1a1 c1a2 c1a3 f1a c1b0 c1b1 c1b2 c1b3 f1b c1c0 c1c1 c1c2 c1c3 f1c c1d0 c1d1 c1d2 c1d3 f1d l1a n1a l1b n1b l1c n1c l1d n1d hbit hq
            go_wp2_with fail
            have hi := I.out
            go_roundg i
            case measure => omega
            case rel =>
              refine ⟨rfl, by omega, t0, t1, t2, t3, ?_, ?_, ?_, ?_, ?_, ?_, ?_, ?_, ?_, ?_, ?_⟩
              · simp [go_sem, c2a0, c2a1, c2a2, c2a3, f2a, c2b0, c2b1, c2b2, c2b3, f2b, c2c0, c2c1, c2c2, c2c3, f2c, c2d0, c2d1, c2d2, c2d3, f2d, l2a, n2a, l2b, n2b, l2c, n2c, l2d, n2d]
              · simp [go_sem, c2a0, c2a1, c2a2, c2a3, f2a, c2b0, c2b1, c2b2, c2b3, f2b, c2c0, c2c1, c2c2, c2c3, f2c, c2d0, c2d1, c2d2, c2d3, f2d, l2a, n2a, l2b, n2b, l2c, n2c, l2d, n2d]
              · simp [go_sem, c2a0, c2a1, c2a2, c2a3, f2a, c2b0, c2b1, c2b2, c2b3, f2b, c2c0, c2c1, c2c2, c2c3, f2c, c2d0, c2d1, c2d2, c2d3, f2d, l2a, n2a, l2b, n2b, l2c, n2c, l2d, n2d]
              · simp [go_sem, c2a0, c2a1, c2a2, c2a3, f2a, c2b0, c2b1, c2b2, c2b3, f2b, c2c0, c2c1, c2c2, c2c3, f2c, c2d0, c2d1, c2d2, c2d3, f2d, l2a, n2a, l2b, n2b, l2c, n2c, l2d, n2d]
              · intro j; simp [go_sem, c2a0, c2a1, c2a2, c2a3, f2a, c2b0, c2b1, c2b2, c2b3, f2b, c2c0, c2c1, c2c2, c2c3, f2c, c2d0, c2d1, c2d2, c2d3, f2d, l2a, n2a, l2b, n2b, l2c, n2c, l2d, n2d]
              · intro j; simp [go_sem, c2a0, c2a1, c2a2, c2a3, f2a, c2b0, c2b1, c2b2, c2b3, f2b, c2c0, c2c1, c2c2, c2c3, f2c, c2d0, c2d1, c2d2, c2d3, f2d, l2a, n2a, l2b, n2b, l2c, n2c, l2d, n2d]
              · intro j; simp [go_sem, c2a0, c2a1, c2a2, c2a3, f2a, c2b0, c2b1, c2b2, c2b3, f2b, c2c0, c2c1, c2c2, c2c3, f2c, c2d0, c2d1, c2d2, c2d3, f2d, l2a, n2a, l2b, n2b, l2c, n2c, l2d, n2d]
              · intro j; simp [go_sem, c2a0, c2a1, c2a2, c2a3, f2a, c2b0, c2b1, c2b2, c2b3, f2b, c2c0, c2c1, c2c2, c2c3, f2c, c2d0, c2d1, c2d2, c2d3, f2d, l2a, n2a, l2b, n2b, l2c, n2c, l2d, n2d]
              · simp; omega
              · have q2 := B2.out
                repeat (first | with_reducible exact Below.refl _ _ | with_reducible assumption | with_reducible refine Below.drew ?_ | (with_reducible refine Below.alloc ?_ ?hB _; (case hB => first | omega | (simp <;> omega))) | (with_reducible refine Below.setCell ?_ ?hB _; (case hB => first | omega | (simp <;> omega))))
              · exact ⟨H2.out.1, by rw [H2.out.2]; exact pow_one_bit _ _ _ i (by omega) (by omega) HY.out.2 H1.out.2⟩

theorem inverse_at (X : Value) (x0 x1 x2 x3 : Nat) (w : World) (hX : X = L4 x0 x1 x2 x3) (hx : lt4 x0 x1 x2 x3) (hp : PrimeAt w) :
    Calls Tryz.prog 78 #[X] w
      fun e w' => ∃ z0 z1 z2 z3 : Nat, e = .returned (.agg #[.int .u64 (z0 : Int), .int .u64 (z1 : Int), .int .u64 (z2 : Int), .int .u64 (z3 : Int)]) ∧
        Below w.heap.size w w' ∧ Hid (lt4 z0 z1 z2 z3 ∧ v4 z0 z1 z2 z3 = v4 x0 x1 x2 x3 ^ 57896044618658097711785492504343953926634992332820282019728792003956564819947 % 57896044618658097711785492504343953926634992332820282019728792003956564819949) := by
  subst hX; exact inverse_any x0 x1 x2 x3 w hx hp
end Go.Proofs.YtjkdonjcngmjeaaGreatDoor
/-
  Powers modulo a number, reckoned by squares.
-/
namespace Go.Proofs.YtjkdonjcngmjeaaGreatDoor

def powOf (e p n : Nat) : Nat := n ^ e % p
theorem powOf_eq (e p n : Nat) : powOf e p n = n ^ e % p := rfl
theorem powOf_lt (e p n b : Nat) (hp : 0 < p) (hb : p < b) : powOf e p n < b := Nat.lt_trans (Nat.mod_lt _ hp) hb
/-- The power of p - 2, modulo p. -/
def invOf (n : Nat) : Nat := powOf 57896044618658097711785492504343953926634992332820282019728792003956564819947 57896044618658097711785492504343953926634992332820282019728792003956564819949 n
theorem invOf_eq (n : Nat) : invOf n = n ^ 57896044618658097711785492504343953926634992332820282019728792003956564819947 % 57896044618658097711785492504343953926634992332820282019728792003956564819949 := by
  unfold invOf
  exact powOf_eq 57896044618658097711785492504343953926634992332820282019728792003956564819947 57896044618658097711785492504343953926634992332820282019728792003956564819949 n
theorem invOf_lt (n : Nat) : invOf n < 115792089237316195423570985008687907853269984665640564039457584007913129639936 := powOf_lt _ _ n _ (by decide) (by decide)
end Go.Proofs.YtjkdonjcngmjeaaGreatDoor
