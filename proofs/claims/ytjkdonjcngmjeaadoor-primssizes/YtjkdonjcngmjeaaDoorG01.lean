/-
  General pieces, joined: Vals W1 Tail Q RM R1 R2 R3 R4.
-/
import Derived.WalkKit
import Derived.Laws.BitsAllLaws
import Derived.Test.YtjkdonjcngmjeaaDoorRows
import Derived.WalkSpells
import Derived.WalkLawsBesides
import Derived.Laws.MathBits
import Derived.RegionTactic
import Derived.BigRegion
import Derived.Deep.QuietTactic
import Derived.BigQuiet
import Derived.Deep.Quiet
import Derived.StillTail
import Derived.Tactics
import Derived.Laws.Rows
import Derived.Laws.StructEq
import Derived.Deep.LoopGhost
/-
  Values of numbers: 32 bytes, four words of 64 bits; small arithmetic on them. Nothing of the program is named here.
-/
namespace Go.Proofs.YtjkdonjcngmjeaaDoor
open Go.RowKit

/-- 2^64, 2^128, 2^192, 2^256 and p are written out as numerals below. -/
def v4 (a b c d : Nat) : Nat := a + 18446744073709551616 * b + 340282366920938463463374607431768211456 * c + 6277101735386680763835789423207666416102355444464034512896 * d

/-- The bytes of a number, the lowest one first. -/
def numA (n : Nat) : Array Value := ((List.range 32).map fun i => Value.int .u8 ((n / 256 ^ i % 256 : Nat) : Int)).toArray

theorem numA_size (n : Nat) : (numA n).size = 32 := by simp [numA]

theorem numA_get (n i : Nat) (h : i < 32) : (numA n)[i]? = some (.int .u8 ((n / 256 ^ i % 256 : Nat) : Int)) := by
  simp [numA, h]

theorem numA_one (n : Nat) : (numA n).all (·.oneCell') = true := by
  simp [numA, Value.oneCell']

theorem or_shift (k x y : Nat) (hx : x < 2 ^ k) (h : x + y * 2 ^ k < 18446744073709551616) :
    bits .or .u64 (x : Int) ((y * 2 ^ k : Nat) : Int) = ((x + y * 2 ^ k : Nat) : Int) := by
  rw [u64_or_nat _ _ (by omega) (by omega)]
  have := Nat.two_pow_add_eq_or_of_lt hx y
  rw [Nat.or_comm, Nat.mul_comm y, ← this, Nat.add_comm]

/-- Eight bytes of a number are a word of it. -/
theorem word_of (n : Nat) : n % 256 + n / 256 % 256 * 256 + n / 65536 % 256 * 65536 + n / 16777216 % 256 * 16777216 + n / 4294967296 % 256 * 4294967296 + n / 1099511627776 % 256 * 1099511627776 + n / 281474976710656 % 256 * 281474976710656 + n / 72057594037927936 % 256 * 72057594037927936 = n % 18446744073709551616 := by
  omega

theorem div_pow_add (n off i : Nat) : n / 256 ^ (off + i) = n / 256 ^ off / 256 ^ i := by
  rw [Nat.pow_add, Nat.div_div_eq_div_mul]

theorem word_bits (b0 b1 b2 b3 b4 b5 b6 b7 : Nat) (h0 : b0 < 256) (h1 : b1 < 256) (h2 : b2 < 256) (h3 : b3 < 256) (h4 : b4 < 256) (h5 : b5 < 256) (h6 : b6 < 256) (h7 : b7 < 256) :
    (bits BinOp.or IntKind.u64
      (bits BinOp.or IntKind.u64
        (bits BinOp.or IntKind.u64
          (bits BinOp.or IntKind.u64
            (bits BinOp.or IntKind.u64
              (bits BinOp.or IntKind.u64
                (bits BinOp.or IntKind.u64 (IntKind.u64.wrap ↑b0)
                  (IntKind.u64.wrap (IntKind.u64.wrap ↑b1 * 256)))
                (IntKind.u64.wrap (IntKind.u64.wrap ↑b2 * 65536)))
              (IntKind.u64.wrap (IntKind.u64.wrap ↑b3 * 16777216)))
            (IntKind.u64.wrap (IntKind.u64.wrap ↑b4 * 4294967296)))
          (IntKind.u64.wrap (IntKind.u64.wrap ↑b5 * 1099511627776)))
        (IntKind.u64.wrap (IntKind.u64.wrap ↑b6 * 281474976710656)))
      (IntKind.u64.wrap (IntKind.u64.wrap ↑b7 * 72057594037927936))) = ((b0 + b1 * 256 + b2 * 65536 + b3 * 16777216 + b4 * 4294967296 + b5 * 1099511627776 + b6 * 281474976710656 + b7 * 72057594037927936 : Nat) : Int) := by
  simp only [IntKind.wrap_u64]
  have e0 : (b0 : Int) % 18446744073709551616 = ((b0 : Nat) : Int) := by omega
  have e1 : ((b1 : Int) % 18446744073709551616 * 256) % 18446744073709551616 = ((b1 * 2 ^ 8 : Nat) : Int) := by omega
  have e2 : ((b2 : Int) % 18446744073709551616 * 65536) % 18446744073709551616 = ((b2 * 2 ^ 16 : Nat) : Int) := by omega
  have e3 : ((b3 : Int) % 18446744073709551616 * 16777216) % 18446744073709551616 = ((b3 * 2 ^ 24 : Nat) : Int) := by omega
  have e4 : ((b4 : Int) % 18446744073709551616 * 4294967296) % 18446744073709551616 = ((b4 * 2 ^ 32 : Nat) : Int) := by omega
  have e5 : ((b5 : Int) % 18446744073709551616 * 1099511627776) % 18446744073709551616 = ((b5 * 2 ^ 40 : Nat) : Int) := by omega
  have e6 : ((b6 : Int) % 18446744073709551616 * 281474976710656) % 18446744073709551616 = ((b6 * 2 ^ 48 : Nat) : Int) := by omega
  have e7 : ((b7 : Int) % 18446744073709551616 * 72057594037927936) % 18446744073709551616 = ((b7 * 2 ^ 56 : Nat) : Int) := by omega
  rw [e0, e1, e2, e3, e4, e5, e6, e7]
  rw [or_shift 8 b0 b1 (by omega) (by omega), or_shift 16 _ b2 (by omega) (by omega), or_shift 24 _ b3 (by omega) (by omega), or_shift 32 _ b4 (by omega) (by omega), or_shift 40 _ b5 (by omega) (by omega), or_shift 48 _ b6 (by omega) (by omega), or_shift 56 _ b7 (by omega) (by omega)]

theorem ret_int {k : IntKind} {a b : Int} (h : a = b) : Ending.returned (.int k a) = .returned (.int k b) := by rw [h]
theorem ret_two {k l : IntKind} {a b c d : Int} (h : a = c) (h' : b = d) : Ending.returned (.tuple #[.int k a, .int l b]) = .returned (.tuple #[.int k c, .int l d]) := by rw [h, h']

end Go.Proofs.YtjkdonjcngmjeaaDoor
/-
  What the small functions of package limb do: products of words, sums of four words, eight bytes as a word.
-/
namespace Go.Proofs.YtjkdonjcngmjeaaDoor
open Go.RowKit

theorem call_add64 (x y c : Nat) (hc : c ≤ 1) : ∃ lo hi : Nat, (∀ w, (callFunc 105 #[.int .u64 (x : Int), .int .u64 (y : Int), .int .u64 (c : Int)]).run Tryd.prog w = .ok (.value (.tuple #[.int .u64 (lo : Int), .int .u64 (hi : Int)])) w) ∧
    Hid (lo < 18446744073709551616 ∧ lo + 18446744073709551616 * hi = x + y + c) := by
  refine ⟨(x + y + c) % 18446744073709551616, (x + y + c) / 18446744073709551616, fun w => ?_, ?_⟩
  · rw [run_callFunc_extern Tryd.func105 (by kernel_rfl) (by kernel_rfl) (by kernel_rfl) (e := add64Entry) (by kernel_rfl), run_add64 x y c (by omega) (by omega) (by omega) (by omega)]
    simp only [Result.andThen]
    congr 5 <;> omega
  · show _ ∧ _
    omega

theorem call_add64_0 (x y : Nat) : ∃ lo hi : Nat, (∀ w, (callFunc 105 #[.int .u64 (x : Int), .int .u64 (y : Int), .int .u64 0]).run Tryd.prog w = .ok (.value (.tuple #[.int .u64 (lo : Int), .int .u64 (hi : Int)])) w) ∧
    Hid (lo < 18446744073709551616 ∧ lo + 18446744073709551616 * hi = x + y) := by
  obtain ⟨lo, hi, h, H⟩ := call_add64 x y 0 (by omega)
  exact ⟨lo, hi, h, H⟩

def sub64Entry : Array Value → Sem Value := fun args => do
  let (x, y, b) ← Extern.MathBitsCarry.three "Sub64" args
  pure (Extern.MathBitsCarry.pair ((x + Extern.MathBitsCarry.m64 - y - b) % Extern.MathBitsCarry.m64) (if x < y + b then 1 else 0))

theorem call_sub64 (x y b : Nat) (hb : b ≤ 1) (hx : x < 18446744073709551616) (hy : y < 18446744073709551616) : ∃ lo hi : Nat, (∀ w, (callFunc 104 #[.int .u64 (x : Int), .int .u64 (y : Int), .int .u64 (b : Int)]).run Tryd.prog w = .ok (.value (.tuple #[.int .u64 (lo : Int), .int .u64 (hi : Int)])) w) ∧
    Hid (lo < 18446744073709551616 ∧ hi ≤ 1 ∧ x + 18446744073709551616 * hi = lo + y + b) := by
  refine ⟨(x + 18446744073709551616 - y - b) % 18446744073709551616, if x < y + b then 1 else 0, fun w => ?_, ?_⟩
  · rw [run_callFunc_extern Tryd.func104 (by kernel_rfl) (by kernel_rfl) (by kernel_rfl) (e := sub64Entry) (by kernel_rfl)]
    have : b = 0 ∨ b = 1 := by omega
    rcases this with rfl | rfl <;> rfl
  · show _ ∧ _ ∧ _
    split <;> omega

theorem call_sub64_0 (x y : Nat) (hx : x < 18446744073709551616) (hy : y < 18446744073709551616) : ∃ lo hi : Nat, (∀ w, (callFunc 104 #[.int .u64 (x : Int), .int .u64 (y : Int), .int .u64 0]).run Tryd.prog w = .ok (.value (.tuple #[.int .u64 (lo : Int), .int .u64 (hi : Int)])) w) ∧
    Hid (lo < 18446744073709551616 ∧ hi ≤ 1 ∧ x + 18446744073709551616 * hi = lo + y) := by
  obtain ⟨lo, hi, h, H⟩ := call_sub64 x y 0 (by omega) hx hy
  exact ⟨lo, hi, h, H⟩

set_option maxHeartbeats 400000 in
theorem mul64_walk (x y : Int) (w : World) (hx0 : 0 ≤ x) (hx : x < 18446744073709551616) (hy0 : 0 ≤ y) (hy : y < 18446744073709551616) :
    Calls Tryd.prog 58 #[.int .u64 x, .int .u64 y] w fun e w' => e = .returned (.tuple #[.int .u64 (x * y / 18446744073709551616), .int .u64 (x * y % 18446744073709551616)]) ∧ w' = w := by
  go_enter Tryd.func58, Tryd.ntmps58
  go_wp2
  go_ret2
  refine ⟨ret_two ?_ ?_, rfl⟩
  · have hm := mul64_arith x y hx0 hx hy0 hy
    simp only [IntKind.wrap_u64]
    rw [and_low32 x hx0 hx, and_low32 y hy0 hy, and_low32 _ (by omega) (by omega)]
    exact hm
  · rw [IntKind.wrap_u64]

theorem mul64_any (x y : Nat) (w : World) (hx : x < 18446744073709551616) (hy : y < 18446744073709551616) :
    Calls Tryd.prog 58 #[.int .u64 (x : Int), .int .u64 (y : Int)] w fun e w' => ∃ hi lo : Nat, e = .returned (.tuple #[.int .u64 (hi : Int), .int .u64 (lo : Int)]) ∧ w' = w ∧
      Hid (lo < 18446744073709551616 ∧ hi ≤ 18446744073709551614 ∧ lo + 18446744073709551616 * hi = x * y) := by
  refine (mul64_walk x y w (by omega) (by omega) (by omega) (by omega)).mono ?_
  rintro e w' ⟨rfl, rfl⟩
  refine ⟨x * y / 18446744073709551616, x * y % 18446744073709551616, ?_, rfl, ?_⟩
  · simp
  · have : x * y ≤ 18446744073709551615 * 18446744073709551615 := Nat.mul_le_mul (by omega) (by omega)
    show _ ∧ _ ∧ _
    omega

set_option maxHeartbeats 400000 in
theorem step_any (x y u m : Nat) (w : World) (hx : x < 18446744073709551616) (hy : y < 18446744073709551616) (hu : u < 18446744073709551616) (hm : m < 18446744073709551616) :
    Calls Tryd.prog 100 #[.int .u64 (x : Int), .int .u64 (y : Int), .int .u64 (u : Int), .int .u64 (m : Int)] w fun e w' => ∃ lo hi : Nat, e = .returned (.tuple #[.int .u64 (lo : Int), .int .u64 (hi : Int)]) ∧ w' = w ∧
      Hid (lo < 18446744073709551616 ∧ hi < 18446744073709551616 ∧ lo + 18446744073709551616 * hi = x + y * u + m) := by
  have hP : Hid (y * u ≤ 18446744073709551615 * 18446744073709551615) := Nat.mul_le_mul (by omega) (by omega)
  have HB : Hid (x < 18446744073709551616 ∧ m < 18446744073709551616) := ⟨hx, hm⟩
  go_enter Tryd.func100, Tryd.ntmps100
  go_wp2_with fail
  refine (mul64_any _ _ _ hy hu).mono ?_
  rintro e w' ⟨hi, lo, rfl, rfl, H⟩
  clear hx hy hu hm
  obtain ⟨z0, c0, h0, H0⟩ := call_add64_0 lo m
  obtain ⟨z1, c1, h1, H1⟩ := call_add64_0 z0 x
  go_wp2
  go_ret2
  have b1 := H.out; have b2 := H0.out; have b3 := H1.out; have b4 := HB.out; have b5 := hP.out
  generalize y * u = P at *
  refine ⟨z1, hi + c0 + c1, ret_two rfl ?_, rfl, ?_⟩
  · simp only [IntKind.wrap_u64]; omega
  · show _ ∧ _ ∧ _
    omega

set_option maxHeartbeats 1000000 in
theorem add_any (x0 x1 x2 x3 y0 y1 y2 y3 : Nat) (w : World) (hx : x0 < 18446744073709551616 ∧ x1 < 18446744073709551616 ∧ x2 < 18446744073709551616 ∧ x3 < 18446744073709551616) (hy : y0 < 18446744073709551616 ∧ y1 < 18446744073709551616 ∧ y2 < 18446744073709551616 ∧ y3 < 18446744073709551616) :
    Calls Tryd.prog 103 #[.agg #[.int .u64 (x0 : Int), .int .u64 (x1 : Int), .int .u64 (x2 : Int), .int .u64 (x3 : Int)], .agg #[.int .u64 (y0 : Int), .int .u64 (y1 : Int), .int .u64 (y2 : Int), .int .u64 (y3 : Int)]] w
      fun e w' => ∃ z0 z1 z2 z3 c : Nat, e = .returned (.tuple #[.agg #[.int .u64 (z0 : Int), .int .u64 (z1 : Int), .int .u64 (z2 : Int), .int .u64 (z3 : Int)], .int .u64 (c : Int)]) ∧
        Below w.heap.size w w' ∧ Hid (z0 < 18446744073709551616 ∧ z1 < 18446744073709551616 ∧ z2 < 18446744073709551616 ∧ z3 < 18446744073709551616 ∧ v4 z0 z1 z2 z3 + 115792089237316195423570985008687907853269984665640564039457584007913129639936 * c = v4 x0 x1 x2 x3 + v4 y0 y1 y2 y3) := by
  obtain ⟨z0, c0, h0, H0⟩ := call_add64_0 x0 y0
  obtain ⟨z1, c1, h1, H1⟩ := call_add64 x1 y1 c0 (by have := H0.out; omega)
  obtain ⟨z2, c2, h2, H2⟩ := call_add64 x2 y2 c1 (by have := H1.out; have := H0.out; omega)
  obtain ⟨z3, c3, h3, H3⟩ := call_add64 x3 y3 c2 (by have := H2.out; have := H1.out; have := H0.out; omega)
  have HF : Hid (z0 < 18446744073709551616 ∧ z1 < 18446744073709551616 ∧ z2 < 18446744073709551616 ∧ z3 < 18446744073709551616 ∧ v4 z0 z1 z2 z3 + 115792089237316195423570985008687907853269984665640564039457584007913129639936 * c3 = v4 x0 x1 x2 x3 + v4 y0 y1 y2 y3) := by
    have := H0.out; have := H1.out; have := H2.out; have := H3.out
    show _ ∧ _
    unfold v4
    omega
  clear H0 H1 H2 H3 hx hy
  go_enter Tryd.func103, Tryd.ntmps103
  go_wp2
  refine wp_loop_rounds 5 ?_
  rw [rounds_succ]
  go_wp2
  go_region
  go_wp2
  rw [rounds_succ]
  go_wp2
  go_region
  go_wp2
  rw [rounds_succ]
  go_wp2
  go_region
  go_wp2
  rw [rounds_succ]
  go_wp2
  go_region
  go_wp2
  rw [rounds_succ]
  go_wp2
  refine bodyPost_ret (v := .tuple #[.agg #[.int .u64 (z0 : Int), .int .u64 (z1 : Int), .int .u64 (z2 : Int), .int .u64 (z3 : Int)], .int .u64 (c3 : Int)]) (by simp [results, Tryd.results103, go_sem]) rfl ⟨z0, z1, z2, z3, c3, rfl, ?_, HF⟩
  repeat (first | exact Below.refl _ _ | refine Below.drew ?_ | refine Below.alloc ?_ (by simp <;> omega) _ | refine Below.setCell ?_ (by simp <;> omega) _)

set_option maxHeartbeats 1000000 in
theorem word_walk (g off cap : Nat) (b0 b1 b2 b3 b4 b5 b6 b7 : Nat) (w : World)
   (c0 : w.cell? ⟨g, off, none⟩ = some (.int .u8 (b0 : Int))) (c1 : w.cell? ⟨g, off + 1, none⟩ = some (.int .u8 (b1 : Int))) (c2 : w.cell? ⟨g, off + 2, none⟩ = some (.int .u8 (b2 : Int))) (c3 : w.cell? ⟨g, off + 3, none⟩ = some (.int .u8 (b3 : Int)))
   (c4 : w.cell? ⟨g, off + 4, none⟩ = some (.int .u8 (b4 : Int))) (c5 : w.cell? ⟨g, off + 5, none⟩ = some (.int .u8 (b5 : Int))) (c6 : w.cell? ⟨g, off + 6, none⟩ = some (.int .u8 (b6 : Int))) (c7 : w.cell? ⟨g, off + 7, none⟩ = some (.int .u8 (b7 : Int)))
   (hb : Hid (b0 < 256 ∧ b1 < 256 ∧ b2 < 256 ∧ b3 < 256 ∧ b4 < 256 ∧ b5 < 256 ∧ b6 < 256 ∧ b7 < 256)) :
    Calls Tryd.prog 102 #[.slice (some ⟨g, off, none⟩) 8 cap] w
      fun e w' => e = .returned (.int .u64 ((b0 + b1 * 256 + b2 * 65536 + b3 * 16777216 + b4 * 4294967296 + b5 * 1099511627776 + b6 * 281474976710656 + b7 * 72057594037927936 : Nat) : Int)) ∧ Below w.heap.size w w' := by
  go_enter Tryd.func102, Tryd.ntmps102
  go_wp2
  go_quiet (fail)
  go_wp2
  go_ret
  obtain ⟨h0, h1, h2, h3, h4, h5, h6, h7⟩ := hb.out
  refine ⟨ret_int (word_bits b0 b1 b2 b3 b4 b5 b6 b7 h0 h1 h2 h3 h4 h5 h6 h7), ?_⟩
  exact ⟨rfl, rfl, rfl, Nat.le_refl _, fun _ _ => rfl⟩

theorem word_any (g off cap n : Nat) (w : World) (hc : ∀ i, i < 8 → w.cell? ⟨g, off + i, none⟩ = some (.int .u8 ((n / 256 ^ (off + i) % 256 : Nat) : Int))) :
    Calls Tryd.prog 102 #[.slice (some ⟨g, off, none⟩) 8 cap] w
      fun e w' => e = .returned (.int .u64 ((n / 256 ^ off % 18446744073709551616 : Nat) : Int)) ∧ Below w.heap.size w w' := by
  have hp : ∀ i, n / 256 ^ (off + i) = n / 256 ^ off / 256 ^ i := div_pow_add n off
  refine (word_walk g off cap _ _ _ _ _ _ _ _ w (hc 0 (by omega)) (hc 1 (by omega)) (hc 2 (by omega)) (hc 3 (by omega)) (hc 4 (by omega)) (hc 5 (by omega)) (hc 6 (by omega)) (hc 7 (by omega)) ?_).mono ?_
  · show _ ∧ _
    omega
  · rintro e w' ⟨rfl, hb⟩
    refine ⟨ret_int ?_, hb⟩
    rw [hp 0, hp 1, hp 2, hp 3, hp 4, hp 5, hp 6, hp 7, ← word_of (n / 256 ^ off)]
    simp only [Nat.reducePow, Nat.div_one]
end Go.Proofs.YtjkdonjcngmjeaaDoor
/-
  A region that draws its order, whose first operations only read, or call what makes memory alone, and whose last ones each wait for all of those: one walk, in the order of the text, serves every order. Conditions: the Bools that are named in it.
-/
namespace Go.Proofs.YtjkdonjcngmjeaaDoor
open Go
set_option linter.unusedVariables false
set_option linter.unusedSimpArgs false

/-- The post of the head: behind it the tail is walked. -/
def headPost (P : Program) (F : Array Oper) (Q : Exit → Act → World → Prop) (t : List Oper) : Exit → Act → World → Prop
  | .normal, a, w => wpList P F Q t a w
  | e, a, w => Q e a w

theorem upon_headPost {P : Program} {F : Array Oper} {Q : Exit → Act → World → Prop} {t : List Oper} {o : Oper} {a : Act} {w : World} {K K' : Act → World → Prop} (hK : ∀ a w, K a w → K' a w)
    (h : o.wp P a w K (headPost P F Q t)) : o.wp P a w K' Q := by
  unfold Oper.wp at *
  generalize (execOp a.eval o).run P w = r at *
  cases r with
  | ok x w' =>
    cases x with
    | value v => exact hK _ _ h
    | skip => exact hK _ _ h
    | defer d => exact hK _ _ h
    | enter f args =>
      refine Calls.mono h ?_
      intro e w'' hr
      cases e with
      | returned v => exact hK _ _ hr
      | panicked c => exact hr
      | outgrown => exact hr
    | row r args => exact Rows.mono h fun v w'' hr => hK _ _ hr
    | _ => exact h
  | halt x w' =>
    cases x <;> exact h

def edgesIn (h : List Oper) : Bool := h.zipIdx.all fun (o, i) => o.after.all fun e => !Region.binds .any e || decide (e.on < i)
def guardsIn (h : List Oper) : Bool := h.all fun o => match o.guard with | none => true | some (j, _) => decide (j < h.length)
def tailWaits (h t : List Oper) : Bool := t.all fun o => (List.range h.length).all fun j => o.after.any fun e => Region.binds .any e && e.on == j

section
variable {P : Program} {Q : Exit → Act → World → Prop} {h t : List Oper}

theorem edge_lt (hb : edgesIn h = true) {i : Nat} {o : Oper} (ho : h[i]? = some o) {e : Edge} (he : e ∈ o.after) (hbind : Region.binds .any e = true) : e.on < i := by
  have hm : (o, i) ∈ h.zipIdx := by rw [List.mem_zipIdx_iff_getElem?]; exact ho
  have h1 := List.all_eq_true.1 hb _ hm
  have h2 := Array.all_eq_true_iff_forall_mem.1 h1 e he
  simpa [hbind] using h2

theorem wanted_head (hg : guardsIn h = true) {o : Oper} (ho : o ∈ h) (tmps : Array Value) : Region.wanted o (yielded (h ++ t).toArray tmps) = Region.wanted o (yielded h.toArray tmps) := by
  have h1 := List.all_eq_true.1 hg _ ho
  unfold Region.wanted
  cases hq : o.guard with
  | none => rfl
  | some jb =>
    obtain ⟨j, b⟩ := jb
    rw [hq] at h1
    have hj : j < h.length := by simpa using h1
    have e : (h ++ t).toArray[j]? = h.toArray[j]? := by simp [List.getElem?_append_left hj]
    simp only [yielded, e]

theorem getD_app {listed : Array Bool} {m j : Nat} (d : Bool) (hj : j < listed.size) : (listed ++ Array.replicate m false).getD j d = listed.getD j d := by
  simp [Array.getElem?_append_left hj]

theorem set_app {listed : Array Bool} {m i : Nat} (hi : i < listed.size) : (listed ++ Array.replicate m false).setIfInBounds i true = listed.setIfInBounds i true ++ Array.replicate m false := by
  apply Array.ext_getElem?
  intro k
  by_cases hk : k < listed.size
  · have e1 : (listed ++ Array.replicate m false)[k]? = listed[k]? := Array.getElem?_append_left hk
    have e2 : (listed.setIfInBounds i true ++ Array.replicate m false)[k]? = (listed.setIfInBounds i true)[k]? := Array.getElem?_append_left (by simpa using hk)
    rw [e2, Array.getElem?_setIfInBounds, Array.getElem?_setIfInBounds, e1]
    by_cases hik : i = k
    · subst hik
      rw [if_pos rfl, if_pos rfl, if_pos hk, if_pos (by simp; omega)]
    · rw [if_neg hik, if_neg hik]
  · have e1 : (listed ++ Array.replicate m false)[k]? = (Array.replicate m false)[k - listed.size]? := Array.getElem?_append_right (by omega)
    have e2 : (listed.setIfInBounds i true ++ Array.replicate m false)[k]? = (Array.replicate m false)[k - listed.size]? := by
      rw [Array.getElem?_append_right (by simp; omega)]
      simp
    rw [e2, Array.getElem?_setIfInBounds, if_neg (by omega), e1]

/-- How many are not listed yet. -/
def open_ (listed : Array Bool) : Nat := listed.toList.count false

theorem all_true {listed : Array Bool} (h0 : open_ listed = 0) : listed = Array.replicate listed.size true := by
  apply Array.ext_getElem?
  intro k
  by_cases hk : k < listed.size
  · rw [Array.getElem?_eq_getElem hk, Array.getElem?_replicate, if_pos hk]
    have : ∀ b ∈ listed.toList, b ≠ false := by
      intro b hb hf
      subst hf
      have := List.count_pos_iff.2 hb
      unfold open_ at h0
      omega
    have h1 := this listed[k] (by simp)
    cases hq : listed[k] with
    | true => rfl
    | false => exact absurd hq h1
  · rw [Array.getElem?_eq_none (by omega), Array.getElem?_replicate, if_neg hk]

theorem open_set {listed : Array Bool} {i : Nat} (hi : listed.getD i true = false) : open_ (listed.setIfInBounds i true) + 1 = open_ listed := by
  have hlt : i < listed.size := by
    rcases Nat.lt_or_ge i listed.size with h' | h'
    · exact h'
    · simp [Array.getElem?_eq_none h'] at hi
  have hv : listed.toList[i]'(by simpa using hlt) = false := by simpa [hlt] using hi
  unfold open_
  rw [Array.toList_setIfInBounds]
  have hc := List.count_set (a := true) (b := false) (l := listed.toList) (i := i) (by simpa using hlt)
  have hp : 0 < listed.toList.count false := List.count_pos_iff.2 (by rw [← hv]; exact List.getElem_mem _)
  rw [hc, if_pos (by rw [hv]; rfl), if_neg (by decide)]
  omega

theorem exists_first {p : Nat → Prop} (hp : ∃ n, p n) : ∃ n, p n ∧ ∀ m, m < n → ¬ p m := by
  obtain ⟨n, hn⟩ := hp
  induction n using Nat.strongRecOn with
  | _ n ih =>
    by_cases hm : ∃ m, m < n ∧ p m
    · obtain ⟨m, hlt, hpm⟩ := hm
      exact ih m hlt hpm
    · exact ⟨n, hn, fun m hlt hpm => hm ⟨m, hlt, hpm⟩⟩

/-- The first one that is not listed. -/
theorem least_open {listed : Array Bool} (h0 : open_ listed ≠ 0) : ∃ i, listed.getD i true = false ∧ ∀ j, j < i → listed.getD j false = true := by
  have : ∃ i, listed.getD i true = false := by
    have hp : 0 < listed.toList.count false := by unfold open_ at h0; omega
    obtain ⟨i, hi, hv⟩ := List.getElem_of_mem (List.count_pos_iff.1 hp)
    exact ⟨i, by simp at hi; simpa [hi] using hv⟩
  obtain ⟨i, hi, hmin⟩ := exists_first this
  refine ⟨i, hi, fun j hj => ?_⟩
  have hne := hmin j hj
  have hlt : i < listed.size := by
    rcases Nat.lt_or_ge i listed.size with h' | h'
    · exact h'
    · simp [Array.getElem?_eq_none h'] at hi
  have hjl : j < listed.size := by omega
  simp [hjl] at hne ⊢
  exact hne

theorem lift_any (hE : edgesIn h = true) (hG : guardsIn h = true) (hT : tailWaits h t = true)
    (hS : Region.seqB .any (h ++ t).toArray t.length h.length (Array.replicate h.length true ++ Array.replicate t.length false) = true) :
    ∀ (f : Nat) (listed : Array Bool) (a : Act) (w : World), listed.size = h.length → open_ listed = f →
      wpAny P .any h.toArray (headPost P (h ++ t).toArray Q t) f listed a w → wpAny P .any (h ++ t).toArray Q (f + t.length) (listed ++ Array.replicate t.length false) a w := by
  intro f
  induction f with
  | zero =>
    intro listed a w hs ho H
    have e := all_true ho
    rw [hs] at e
    rw [Nat.zero_add, e]
    exact wpAny_of_seq t h.length _ a w (fun j => by rw [List.getElem?_toArray, List.getElem?_append_right (by omega), Nat.add_sub_cancel_left]) hS H.2
  | succ f ih =>
    intro listed a w hs ho H
    obtain ⟨i0, hi0, hlow⟩ := least_open (listed := listed) (by omega)
    have hi0s : i0 < listed.size := by
      rcases Nat.lt_or_ge i0 listed.size with h' | h'
      · exact h'
      · simp [Array.getElem?_eq_none h'] at hi0
    rw [show f + 1 + t.length = (f + t.length) + 1 by omega]
    refine ⟨fun h0 => ?_, fun i hi => ?_⟩
    · have : i0 ∈ Region.ready .any (h ++ t).toArray (listed ++ Array.replicate t.length false) := by
        rw [mem_ready]
        have hih : i0 < h.length := by omega
        refine ⟨by rw [getD_app true hi0s]; exact hi0, h[i0], by simp [List.getElem?_append_left hih], fun e he hb => ?_⟩
        have := edge_lt hE (List.getElem?_eq_getElem hih) he hb
        rw [getD_app false (by omega)]
        exact hlow _ this
      rw [h0] at this
      cases this
    · obtain ⟨hun, o, hoo, hall⟩ := mem_ready.1 hi
      have hih : i < h.length := by
        rcases Nat.lt_or_ge i h.length with h' | h'
        · exact h'
        · exfalso
          have hot : o ∈ t := by
            simp [List.getElem?_append_right h'] at hoo
            exact List.mem_of_getElem? hoo
          have h1 := List.all_eq_true.1 (List.all_eq_true.1 hT o hot) i0 (List.mem_range.2 (by omega))
          obtain ⟨e, he, hbe⟩ := Array.any_eq_true'.1 h1
          simp only [Bool.and_eq_true, beq_iff_eq] at hbe
          have h2 := hall e he hbe.1
          rw [hbe.2, getD_app false hi0s] at h2
          simp [hi0s] at hi0 h2
          rw [hi0] at h2
          cases h2
      have hoh : h[i]? = some o := by simpa [List.getElem?_append_left hih] using hoo
      have hun' : listed.getD i true = false := by rw [getD_app true (by omega)] at hun; exact hun
      have hr : i ∈ Region.ready .any h.toArray listed := by
        rw [mem_ready]
        refine ⟨hun', o, by simpa using hoh, fun e he hb => ?_⟩
        have hlt := edge_lt hE hoh he hb
        have := hall e he hb
        rwa [getD_app false (by omega)] at this
      have H1 := H.2 i hr
      have hK : ∀ a' w', wpAny P .any h.toArray (headPost P (h ++ t).toArray Q t) f (listed.setIfInBounds i true) a' w' → wpAny P .any (h ++ t).toArray Q (f + t.length) ((listed ++ Array.replicate t.length false).setIfInBounds i true) a' w' := by
        intro a' w' hh
        rw [set_app (by omega)]
        exact ih _ a' w' (by simpa using hs) (by have := open_set hun'; omega) hh
      unfold wpOp at H1 ⊢
      have ho' : h.toArray[i]? = some o := by simpa using hoh
      simp only [hoo, ho'] at H1 ⊢
      rw [wanted_head hG (List.mem_of_getElem? hoh)]
      split
      · rename_i hw
        simp only [hw, if_true] at H1
        rcases H1 with H1 | ⟨h1, h2⟩
        · exact .inl (upon_headPost hK H1)
        · exact .inr ⟨h1, h2⟩
      · rename_i hw
        simp only [hw] at H1
        exact hK _ _ H1

/-- One walk of the head in the order of the text, then the tail, serves every order. -/
theorem wp_region_quiet_tail {id : Nat} {C : World → Prop} {a : Act} {w : World} (h t : List Oper) (hm : P.follows .mixedOrders = true) (hB : Region.lexB .any h.toArray = true)
    (hE : edgesIn h = true) (hG : guardsIn h = true) (hT : tailWaits h t = true)
    (hS : Region.seqB .any (h ++ t).toArray t.length h.length (Array.replicate h.length true ++ Array.replicate t.length false) = true)
    (hC : C { w with drawn := w.drawn + 1 })
    (H : wpQuiet P h.toArray C (fun a' => ∀ w', C w' → wpList P (h ++ t).toArray Q t a' w') h a) : (Code.region id (h ++ t).toArray true).wp P Q a w := by
  refine wp_region_any hm ?_
  simp only [Region.lexB, Bool.and_eq_true] at hB
  have h1 := wpAnyQ_lex (P := P) (C := C) (md := .any) hB.1 h 0 (Array.replicate h.length false) a (by simp) (by simpa using hB.2) H
  have h2 := wpAny_of_quiet (Q' := headPost P (h ++ t).toArray Q t) (fun _ w' hw' hh => hh w' hw') _ _ _ _ hC h1
  have h3 := lift_any (Q := Q) hE hG hT hS h.length (Array.replicate h.length false) a _ (by simp) (by simp [open_]) h2
  have e1 : (h ++ t).toArray.size = h.length + t.length := by simp
  rw [e1, show Array.replicate (h.length + t.length) false = Array.replicate h.length false ++ Array.replicate t.length false by simp]
  exact h3

/-- The same for a region that is written out, its first n operations the head. -/
theorem wp_region_quiet_cut {id : Nat} {C : World → Prop} {a : Act} {w : World} (n : Nat) {l : List Oper} (hm : P.follows .mixedOrders = true) (hB : Region.lexB .any (l.take n).toArray = true)
    (hE : edgesIn (l.take n) = true) (hG : guardsIn (l.take n) = true) (hT : tailWaits (l.take n) (l.drop n) = true)
    (hS : Region.seqB .any l.toArray (l.drop n).length (l.take n).length (Array.replicate (l.take n).length true ++ Array.replicate (l.drop n).length false) = true)
    (hC : C { w with drawn := w.drawn + 1 })
    (H : wpQuiet P (l.take n).toArray C (fun a' => ∀ w', C w' → wpList P l.toArray Q (l.drop n) a' w') (l.take n) a) : (Code.region id l.toArray true).wp P Q a w := by
  have e : l.take n ++ l.drop n = l := List.take_append_drop n l
  have := wp_region_quiet_tail (id := id) (C := C) (Q := Q) (P := P) (a := a) (w := w) (l.take n) (l.drop n) hm hB hE hG hT (by rw [e]; exact hS) hC (by rw [e]; exact H)
  rwa [e] at this
end
end Go.Proofs.YtjkdonjcngmjeaaDoor
/-
  One operation of a quiet walk: a whole array is read, a function is called, two arrays of numbers are compared, a value is reckoned.
-/
namespace Go.Proofs.YtjkdonjcngmjeaaDoor
open Go Go.RowKit
set_option linter.unusedVariables false
set_option linter.unusedSimpArgs false

section
variable {P : Program} {ops : Array Oper} {C : World → Prop} {Q : Act → Prop} {a : Act} {o : Oper} {rest : List Oper}

theorem q_load (hw : Region.wanted o (yielded ops a.tmps) = true) (ty : TypeId) (x : Operand) (g : Nat) (t : TypeId) (cs : Array Value) (fr : Nat × Nat) (d : TypeDesc) (ho : o.op = .load ty x) (hx : a.eval x = .pointer (some ⟨g, 0, none⟩))
    (hC : ∀ w, C w → w.heap[g]? = some (.cells cs t fr)) (hu : P.underlying ty = some d) (hd : (match d with | .struct _ | .array _ _ => true | _ => false) = true) (hi : (P.info? ty).map (·.size) = some cs.size)
    (h : wpQuiet P ops C Q rest (a.put o.dst (.agg cs))) : wpQuiet P ops C Q (o :: rest) a := by
  refine BigFrame.wpQuiet_want hw fun K hK => ⟨.agg cs, fun w hc => ?_, hK _ h⟩
  unfold Oper.quietAt execOp
  simp only [ho, hx, Instr.loadAt, Instr.sureAddr, Sem.run_bind, Sem.run_pure, Result.andThen_ok, run_loadVar_row w g t ty cs fr d (hC w hc) hu hd hi]
  exact ⟨rfl, rfl⟩

theorem q_call (hw : Region.wanted o (yielded ops a.tmps) = true) (f : FuncId) (fn : Func) (c : Code) (args : List Operand) (ts : Array TypeId) (vs : List Value) (v : Value) (ho : o.op = .call { callee := .value (.func f), args := args.toArray, argTypes := ts })
    (hargs : args.map a.eval = vs) (hf : P.funcs[f]? = some fn) (hname : (fn.name == "runtime.NumGoroutine") = false) (hb : fn.body = some c)
    (hc : ∀ w, C w → Calls P f vs.toArray w fun e w' => e = .returned v ∧ C w')
    (h : wpQuiet P ops C Q rest (a.put o.dst v)) : wpQuiet P ops C Q (o :: rest) a := by
  refine BigFrame.wpQuiet_want hw fun K hK => ⟨v, fun w hC => ?_, hK _ h⟩
  have h1 : fn.name ≠ "runtime.NumGoroutine" := by simpa using hname
  have ha : args.toArray.map a.eval = vs.toArray := by rw [List.map_toArray, hargs]
  have hrun : (execOp a.eval o).run P w = .ok (.enter f vs.toArray) w := by
    unfold execOp
    simp only [ho, resolve, ha]
    simp [Deferred.ofValue, Act.eval, invoke, callFunc, hf, h1, hb]
  unfold Oper.quietAt
  rw [hrun]
  exact ⟨rfl, hc w hC⟩

theorem q_val (hw : Region.wanted o (yielded ops a.tmps) = true) (v : Value) (hrun : ∀ w, (execOp a.eval o).run P w = .ok (.value v) w)
    (h : wpQuiet P ops C Q rest (a.put o.dst v)) : wpQuiet P ops C Q (o :: rest) a := by
  refine BigFrame.wpQuiet_want hw fun K hK => ⟨v, fun w hC => ?_, hK _ h⟩
  unfold Oper.quietAt
  rw [hrun]
  exact ⟨rfl, rfl⟩
end

section
variable {P : Program}

end

end Go.Proofs.YtjkdonjcngmjeaaDoor
/-
  Plain arithmetic of digits of base 256: values of rows, carries, folding, borrowing. Nothing of the program is named here.
-/
namespace Go.Proofs.YtjkdonjcngmjeaaDoor

/-- A fact set aside, that no unifier looks into. -/
structure Kept (p : Prop) : Prop where
  out : p

/-- The number of a row of digits, the lowest first. -/
def val : List Nat → Nat
  | [] => 0
  | d :: r => d + 256 * val r

end Go.Proofs.YtjkdonjcngmjeaaDoor
/-
  What the small functions of the reference package of layer 1 do: the digits of a number, the digits of p.
-/
namespace Go.Proofs.YtjkdonjcngmjeaaDoor
open Go.RowKit
set_option linter.unusedSimpArgs false
set_option linter.unusedVariables false

/-- The first k digits of a number. -/
def digs (n k : Nat) : List Nat := (List.range k).map fun i => n / 256 ^ i % 256
theorem digs_len (n k : Nat) : (digs n k).length = k := by simp [digs]

theorem cell_row {w : World} {g : Nat} {A : Array Value} {t : TypeId} {fr : Nat × Nat} {j : Nat} {v : Value} (hg : w.heap[g]? = some (.cells A t fr)) (hv : A[j]? = some v) : w.cell? ⟨g, j, none⟩ = some v := by
  simp [World.cell?, hg, hv]

theorem heap_new (w : World) (o : Obj) : (w.alloc o).heap[w.heap.size]? = some o := by
  show (w.heap.push o)[w.heap.size]? = some o
  simp

/-- A block holds a row of ints at its head. -/
def Holds (w : World) (g : Nat) (l : List Nat) : Prop := g < w.heap.size ∧ ∀ j, j < l.length → w.cell? ⟨g, j, none⟩ = some (.int .i64 ((l.getD j 0 : Nat) : Int))
theorem Holds.below {w w' : World} {g B : Nat} {l : List Nat} (h : Holds w g l) (hb : Below B w w') (hB : g < B) : Holds w' g l :=
  ⟨Nat.lt_of_lt_of_le h.1 hb.size, fun j hj => (hb.cell (p := ⟨g, j, none⟩) hB).trans (h.2 j hj)⟩
theorem Holds.under {w w' : World} {g : Nat} {l : List Nat} (h : Holds w g l) (hb : Below w.heap.size w w') : Holds w' g l := h.below hb h.1
end Go.Proofs.YtjkdonjcngmjeaaDoor
/-
  What the reference package's carry and high do: the same number in digits below 256; has it a digit above the 32nd.
-/
namespace Go.Proofs.YtjkdonjcngmjeaaDoor
open Go.RowKit
set_option linter.unusedSimpArgs false
set_option linter.unusedVariables false

end Go.Proofs.YtjkdonjcngmjeaaDoor
/-
  What the reference package's below does: is a number of 32 digits below p.
-/
namespace Go.Proofs.YtjkdonjcngmjeaaDoor
open Go.RowKit
set_option linter.unusedSimpArgs false
set_option linter.unusedVariables false

theorem digs_at (V m k : Nat) (h : k < m) : (digs V m).getD k 0 = V / 256 ^ k % 256 := by simp [digs, List.getD, h]

end Go.Proofs.YtjkdonjcngmjeaaDoor
/-
  What the reference package's fold does: a number below 2^512 comes to one below 2^256 that is the same modulo p.
-/
namespace Go.Proofs.YtjkdonjcngmjeaaDoor
open Go.RowKit
set_option linter.unusedSimpArgs false
set_option linter.unusedVariables false

theorem Holds.take {w : World} {g V m k : Nat} (h : Holds w g (digs V m)) (hk : k ≤ m) : Holds w g (digs V k) :=
  ⟨h.1, fun j hj => by
    rw [digs_len] at hj
    have := h.2 j (by rw [digs_len]; omega)
    rw [digs_at V m j (by omega)] at this
    rw [digs_at V k j hj]
    exact this⟩

end Go.Proofs.YtjkdonjcngmjeaaDoor
