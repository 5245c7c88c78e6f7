/-
  What the small functions of package limb do: products of words, sums of four words, eight bytes as a word.
-/
import Derived.Test.YtanfjkmkfcekmaaDoorRows
import Derived.Test.YtanfjkmkfcekmaaDoorVals
import Derived.WalkKit
import Derived.WalkSpells
import Derived.WalkLawsBesides
import Derived.Laws.MathBits
import Derived.RegionTactic
import Derived.BigRegion
import Derived.Deep.QuietTactic
import Derived.BigQuiet
namespace Go.Proofs.YtanfjkmkfcekmaaDoor
open Go.RowKit

theorem call_add64 (x y c : Nat) (hc : c ≤ 1) : ∃ lo hi : Nat, (∀ w, (callFunc 57 #[.int .u64 (x : Int), .int .u64 (y : Int), .int .u64 (c : Int)]).run Tryd.prog w = .ok (.value (.tuple #[.int .u64 (lo : Int), .int .u64 (hi : Int)])) w) ∧
    Hid (lo < 18446744073709551616 ∧ lo + 18446744073709551616 * hi = x + y + c) := by
  refine ⟨(x + y + c) % 18446744073709551616, (x + y + c) / 18446744073709551616, fun w => ?_, ?_⟩
  · rw [run_callFunc_extern Tryd.func57 (by kernel_rfl) (by kernel_rfl) (by kernel_rfl) (e := add64Entry) (by kernel_rfl), run_add64 x y c (by omega) (by omega) (by omega) (by omega)]
    simp only [Result.andThen]
    congr 5 <;> omega
  · show _ ∧ _
    omega

theorem call_add64_0 (x y : Nat) : ∃ lo hi : Nat, (∀ w, (callFunc 57 #[.int .u64 (x : Int), .int .u64 (y : Int), .int .u64 0]).run Tryd.prog w = .ok (.value (.tuple #[.int .u64 (lo : Int), .int .u64 (hi : Int)])) w) ∧
    Hid (lo < 18446744073709551616 ∧ lo + 18446744073709551616 * hi = x + y) := by
  obtain ⟨lo, hi, h, H⟩ := call_add64 x y 0 (by omega)
  exact ⟨lo, hi, h, H⟩

def sub64Entry : Array Value → Sem Value := fun args => do
  let (x, y, b) ← Extern.MathBitsCarry.three "Sub64" args
  pure (Extern.MathBitsCarry.pair ((x + Extern.MathBitsCarry.m64 - y - b) % Extern.MathBitsCarry.m64) (if x < y + b then 1 else 0))

theorem call_sub64 (x y b : Nat) (hb : b ≤ 1) (hx : x < 18446744073709551616) (hy : y < 18446744073709551616) : ∃ lo hi : Nat, (∀ w, (callFunc 52 #[.int .u64 (x : Int), .int .u64 (y : Int), .int .u64 (b : Int)]).run Tryd.prog w = .ok (.value (.tuple #[.int .u64 (lo : Int), .int .u64 (hi : Int)])) w) ∧
    Hid (lo < 18446744073709551616 ∧ hi ≤ 1 ∧ x + 18446744073709551616 * hi = lo + y + b) := by
  refine ⟨(x + 18446744073709551616 - y - b) % 18446744073709551616, if x < y + b then 1 else 0, fun w => ?_, ?_⟩
  · rw [run_callFunc_extern Tryd.func52 (by kernel_rfl) (by kernel_rfl) (by kernel_rfl) (e := sub64Entry) (by kernel_rfl)]
    have : b = 0 ∨ b = 1 := by omega
    rcases this with rfl | rfl <;> rfl
  · show _ ∧ _ ∧ _
    split <;> omega

theorem call_sub64_0 (x y : Nat) (hx : x < 18446744073709551616) (hy : y < 18446744073709551616) : ∃ lo hi : Nat, (∀ w, (callFunc 52 #[.int .u64 (x : Int), .int .u64 (y : Int), .int .u64 0]).run Tryd.prog w = .ok (.value (.tuple #[.int .u64 (lo : Int), .int .u64 (hi : Int)])) w) ∧
    Hid (lo < 18446744073709551616 ∧ hi ≤ 1 ∧ x + 18446744073709551616 * hi = lo + y) := by
  obtain ⟨lo, hi, h, H⟩ := call_sub64 x y 0 (by omega) hx hy
  exact ⟨lo, hi, h, H⟩

set_option maxHeartbeats 400000 in
theorem mul64_walk (x y : Int) (w : World) (hx0 : 0 ≤ x) (hx : x < 18446744073709551616) (hy0 : 0 ≤ y) (hy : y < 18446744073709551616) :
    Calls Tryd.prog 60 #[.int .u64 x, .int .u64 y] w fun e w' => e = .returned (.tuple #[.int .u64 (x * y / 18446744073709551616), .int .u64 (x * y % 18446744073709551616)]) ∧ w' = w := by
  go_enter Tryd.func60, Tryd.ntmps60
  go_wp2
  go_ret2
  refine ⟨ret_two ?_ ?_, rfl⟩
  · have hm := mul64_arith x y hx0 hx hy0 hy
    simp only [IntKind.wrap_u64]
    rw [and_low32 x hx0 hx, and_low32 y hy0 hy, and_low32 _ (by omega) (by omega)]
    exact hm
  · rw [IntKind.wrap_u64]

theorem mul64_any (x y : Nat) (w : World) (hx : x < 18446744073709551616) (hy : y < 18446744073709551616) :
    Calls Tryd.prog 60 #[.int .u64 (x : Int), .int .u64 (y : Int)] w fun e w' => ∃ hi lo : Nat, e = .returned (.tuple #[.int .u64 (hi : Int), .int .u64 (lo : Int)]) ∧ w' = w ∧
      Hid (lo < 18446744073709551616 ∧ hi ≤ 18446744073709551614 ∧ lo + 18446744073709551616 * hi = x * y) := by
  refine (mul64_walk x y w (by omega) (by omega) (by omega) (by omega)).mono ?_
  rintro e w' ⟨rfl, rfl⟩
  refine ⟨x * y / 18446744073709551616, x * y % 18446744073709551616, ?_, rfl, ?_⟩
  · simp
  · have : x * y ≤ 18446744073709551615 * 18446744073709551615 := Nat.mul_le_mul (by omega) (by omega)
    show _ ∧ _ ∧ _
    omega

set_option maxHeartbeats 400000 in
theorem step_any (x y u m : Nat) (w : World) (hx : x < 18446744073709551616) (hy : y < 18446744073709551616) (hu : u < 18446744073709551616) (hm : m < 18446744073709551616) :
    Calls Tryd.prog 54 #[.int .u64 (x : Int), .int .u64 (y : Int), .int .u64 (u : Int), .int .u64 (m : Int)] w fun e w' => ∃ lo hi : Nat, e = .returned (.tuple #[.int .u64 (lo : Int), .int .u64 (hi : Int)]) ∧ w' = w ∧
      Hid (lo < 18446744073709551616 ∧ hi < 18446744073709551616 ∧ lo + 18446744073709551616 * hi = x + y * u + m) := by
  have hP : Hid (y * u ≤ 18446744073709551615 * 18446744073709551615) := Nat.mul_le_mul (by omega) (by omega)
  have HB : Hid (x < 18446744073709551616 ∧ m < 18446744073709551616) := ⟨hx, hm⟩
  go_enter Tryd.func54, Tryd.ntmps54
  go_wp2_with fail
  refine (mul64_any _ _ _ hy hu).mono ?_
  rintro e w' ⟨hi, lo, rfl, rfl, H⟩
  clear hx hy hu hm
  obtain ⟨z0, c0, h0, H0⟩ := call_add64_0 lo m
  obtain ⟨z1, c1, h1, H1⟩ := call_add64_0 z0 x
  go_wp2
  go_ret2
  have b1 := H.out; have b2 := H0.out; have b3 := H1.out; have b4 := HB.out; have b5 := hP.out
  generalize y * u = P at *
  refine ⟨z1, hi + c0 + c1, ret_two rfl ?_, rfl, ?_⟩
  · simp only [IntKind.wrap_u64]; omega
  · show _ ∧ _ ∧ _
    omega

set_option maxHeartbeats 1000000 in
theorem add_any (x0 x1 x2 x3 y0 y1 y2 y3 : Nat) (w : World) (hx : x0 < 18446744073709551616 ∧ x1 < 18446744073709551616 ∧ x2 < 18446744073709551616 ∧ x3 < 18446744073709551616) (hy : y0 < 18446744073709551616 ∧ y1 < 18446744073709551616 ∧ y2 < 18446744073709551616 ∧ y3 < 18446744073709551616) :
    Calls Tryd.prog 47 #[.agg #[.int .u64 (x0 : Int), .int .u64 (x1 : Int), .int .u64 (x2 : Int), .int .u64 (x3 : Int)], .agg #[.int .u64 (y0 : Int), .int .u64 (y1 : Int), .int .u64 (y2 : Int), .int .u64 (y3 : Int)]] w
      fun e w' => ∃ z0 z1 z2 z3 c : Nat, e = .returned (.tuple #[.agg #[.int .u64 (z0 : Int), .int .u64 (z1 : Int), .int .u64 (z2 : Int), .int .u64 (z3 : Int)], .int .u64 (c : Int)]) ∧
        Below w.heap.size w w' ∧ Hid (z0 < 18446744073709551616 ∧ z1 < 18446744073709551616 ∧ z2 < 18446744073709551616 ∧ z3 < 18446744073709551616 ∧ v4 z0 z1 z2 z3 + 115792089237316195423570985008687907853269984665640564039457584007913129639936 * c = v4 x0 x1 x2 x3 + v4 y0 y1 y2 y3) := by
  obtain ⟨z0, c0, h0, H0⟩ := call_add64_0 x0 y0
  obtain ⟨z1, c1, h1, H1⟩ := call_add64 x1 y1 c0 (by have := H0.out; omega)
  obtain ⟨z2, c2, h2, H2⟩ := call_add64 x2 y2 c1 (by have := H1.out; have := H0.out; omega)
  obtain ⟨z3, c3, h3, H3⟩ := call_add64 x3 y3 c2 (by have := H2.out; have := H1.out; have := H0.out; omega)
  have HF : Hid (z0 < 18446744073709551616 ∧ z1 < 18446744073709551616 ∧ z2 < 18446744073709551616 ∧ z3 < 18446744073709551616 ∧ v4 z0 z1 z2 z3 + 115792089237316195423570985008687907853269984665640564039457584007913129639936 * c3 = v4 x0 x1 x2 x3 + v4 y0 y1 y2 y3) := by
    have := H0.out; have := H1.out; have := H2.out; have := H3.out
    show _ ∧ _
    unfold v4
    omega
  clear H0 H1 H2 H3 hx hy
  go_enter Tryd.func47, Tryd.ntmps47
  go_wp2
  refine wp_loop_rounds 5 ?_
  rw [rounds_succ]
  go_wp2
  go_region
  go_wp2
  rw [rounds_succ]
  go_wp2
  go_region
  go_wp2
  rw [rounds_succ]
  go_wp2
  go_region
  go_wp2
  rw [rounds_succ]
  go_wp2
  go_region
  go_wp2
  rw [rounds_succ]
  go_wp2
  refine bodyPost_ret (v := .tuple #[.agg #[.int .u64 (z0 : Int), .int .u64 (z1 : Int), .int .u64 (z2 : Int), .int .u64 (z3 : Int)], .int .u64 (c3 : Int)]) (by simp [results, Tryd.results47, go_sem]) rfl ⟨z0, z1, z2, z3, c3, rfl, ?_, HF⟩
  repeat (first | exact Below.refl _ _ | refine Below.drew ?_ | refine Below.alloc ?_ (by simp <;> omega) _ | refine Below.setCell ?_ (by simp <;> omega) _)

set_option maxHeartbeats 1000000 in
theorem word_walk (g off cap : Nat) (b0 b1 b2 b3 b4 b5 b6 b7 : Nat) (w : World)
   (c0 : w.cell? ⟨g, off, none⟩ = some (.int .u8 (b0 : Int))) (c1 : w.cell? ⟨g, off + 1, none⟩ = some (.int .u8 (b1 : Int))) (c2 : w.cell? ⟨g, off + 2, none⟩ = some (.int .u8 (b2 : Int))) (c3 : w.cell? ⟨g, off + 3, none⟩ = some (.int .u8 (b3 : Int)))
   (c4 : w.cell? ⟨g, off + 4, none⟩ = some (.int .u8 (b4 : Int))) (c5 : w.cell? ⟨g, off + 5, none⟩ = some (.int .u8 (b5 : Int))) (c6 : w.cell? ⟨g, off + 6, none⟩ = some (.int .u8 (b6 : Int))) (c7 : w.cell? ⟨g, off + 7, none⟩ = some (.int .u8 (b7 : Int)))
   (hb : Hid (b0 < 256 ∧ b1 < 256 ∧ b2 < 256 ∧ b3 < 256 ∧ b4 < 256 ∧ b5 < 256 ∧ b6 < 256 ∧ b7 < 256)) :
    Calls Tryd.prog 48 #[.slice (some ⟨g, off, none⟩) 8 cap] w
      fun e w' => e = .returned (.int .u64 ((b0 + b1 * 256 + b2 * 65536 + b3 * 16777216 + b4 * 4294967296 + b5 * 1099511627776 + b6 * 281474976710656 + b7 * 72057594037927936 : Nat) : Int)) ∧ Below w.heap.size w w' := by
  go_enter Tryd.func48, Tryd.ntmps48
  go_wp2
  go_quiet (fail)
  go_wp2
  go_ret
  obtain ⟨h0, h1, h2, h3, h4, h5, h6, h7⟩ := hb.out
  refine ⟨ret_int (word_bits b0 b1 b2 b3 b4 b5 b6 b7 h0 h1 h2 h3 h4 h5 h6 h7), ?_⟩
  exact ⟨rfl, rfl, rfl, Nat.le_refl _, fun _ _ => rfl⟩

theorem word_any (g off cap n : Nat) (w : World) (hc : ∀ i, i < 8 → w.cell? ⟨g, off + i, none⟩ = some (.int .u8 ((n / 256 ^ (off + i) % 256 : Nat) : Int))) :
    Calls Tryd.prog 48 #[.slice (some ⟨g, off, none⟩) 8 cap] w
      fun e w' => e = .returned (.int .u64 ((n / 256 ^ off % 18446744073709551616 : Nat) : Int)) ∧ Below w.heap.size w w' := by
  have hp : ∀ i, n / 256 ^ (off + i) = n / 256 ^ off / 256 ^ i := div_pow_add n off
  refine (word_walk g off cap _ _ _ _ _ _ _ _ w (hc 0 (by omega)) (hc 1 (by omega)) (hc 2 (by omega)) (hc 3 (by omega)) (hc 4 (by omega)) (hc 5 (by omega)) (hc 6 (by omega)) (hc 7 (by omega)) ?_).mono ?_
  · show _ ∧ _
    omega
  · rintro e w' ⟨rfl, hb⟩
    refine ⟨ret_int ?_, hb⟩
    rw [hp 0, hp 1, hp 2, hp 3, hp 4, hp 5, hp 6, hp 7, ← word_of (n / 256 ^ off)]
    simp only [Nat.reducePow, Nat.div_one]
end Go.Proofs.YtanfjkmkfcekmaaDoor
