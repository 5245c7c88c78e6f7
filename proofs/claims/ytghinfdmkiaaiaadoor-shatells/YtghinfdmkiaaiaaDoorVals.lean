/-
  Values of numbers: 32 bytes, four words of 64 bits; small arithmetic on them. Nothing of the program is named here.
-/
import Derived.WalkKit
import Derived.Laws.BitsAllLaws
namespace Go.Proofs.YtghinfdmkiaaiaaDoor
open Go.RowKit

/-- 2^64, 2^128, 2^192, 2^256 and p are written out as numerals below. -/
def v4 (a b c d : Nat) : Nat := a + 18446744073709551616 * b + 340282366920938463463374607431768211456 * c + 6277101735386680763835789423207666416102355444464034512896 * d

/-- The bytes of a number, the lowest one first. -/
def numA (n : Nat) : Array Value := ((List.range 32).map fun i => Value.int .u8 ((n / 256 ^ i % 256 : Nat) : Int)).toArray

theorem numA_size (n : Nat) : (numA n).size = 32 := by simp [numA]

theorem numA_get (n i : Nat) (h : i < 32) : (numA n)[i]? = some (.int .u8 ((n / 256 ^ i % 256 : Nat) : Int)) := by
  simp [numA, h]

theorem numA_one (n : Nat) : (numA n).all (·.oneCell') = true := by
  simp [numA, Value.oneCell']

theorem or_shift (k x y : Nat) (hx : x < 2 ^ k) (h : x + y * 2 ^ k < 18446744073709551616) :
    bits .or .u64 (x : Int) ((y * 2 ^ k : Nat) : Int) = ((x + y * 2 ^ k : Nat) : Int) := by
  rw [u64_or_nat _ _ (by omega) (by omega)]
  have := Nat.two_pow_add_eq_or_of_lt hx y
  rw [Nat.or_comm, Nat.mul_comm y, ← this, Nat.add_comm]

/-- Eight bytes of a number are a word of it. -/
theorem word_of (n : Nat) : n % 256 + n / 256 % 256 * 256 + n / 65536 % 256 * 65536 + n / 16777216 % 256 * 16777216 + n / 4294967296 % 256 * 4294967296 + n / 1099511627776 % 256 * 1099511627776 + n / 281474976710656 % 256 * 281474976710656 + n / 72057594037927936 % 256 * 72057594037927936 = n % 18446744073709551616 := by
  omega

theorem div_pow_add (n off i : Nat) : n / 256 ^ (off + i) = n / 256 ^ off / 256 ^ i := by
  rw [Nat.pow_add, Nat.div_div_eq_div_mul]

theorem word_bits (b0 b1 b2 b3 b4 b5 b6 b7 : Nat) (h0 : b0 < 256) (h1 : b1 < 256) (h2 : b2 < 256) (h3 : b3 < 256) (h4 : b4 < 256) (h5 : b5 < 256) (h6 : b6 < 256) (h7 : b7 < 256) :
    (bits BinOp.or IntKind.u64
      (bits BinOp.or IntKind.u64
        (bits BinOp.or IntKind.u64
          (bits BinOp.or IntKind.u64
            (bits BinOp.or IntKind.u64
              (bits BinOp.or IntKind.u64
                (bits BinOp.or IntKind.u64 (IntKind.u64.wrap ↑b0)
                  (IntKind.u64.wrap (IntKind.u64.wrap ↑b1 * 256)))
                (IntKind.u64.wrap (IntKind.u64.wrap ↑b2 * 65536)))
              (IntKind.u64.wrap (IntKind.u64.wrap ↑b3 * 16777216)))
            (IntKind.u64.wrap (IntKind.u64.wrap ↑b4 * 4294967296)))
          (IntKind.u64.wrap (IntKind.u64.wrap ↑b5 * 1099511627776)))
        (IntKind.u64.wrap (IntKind.u64.wrap ↑b6 * 281474976710656)))
      (IntKind.u64.wrap (IntKind.u64.wrap ↑b7 * 72057594037927936))) = ((b0 + b1 * 256 + b2 * 65536 + b3 * 16777216 + b4 * 4294967296 + b5 * 1099511627776 + b6 * 281474976710656 + b7 * 72057594037927936 : Nat) : Int) := by
  simp only [IntKind.wrap_u64]
  have e0 : (b0 : Int) % 18446744073709551616 = ((b0 : Nat) : Int) := by omega
  have e1 : ((b1 : Int) % 18446744073709551616 * 256) % 18446744073709551616 = ((b1 * 2 ^ 8 : Nat) : Int) := by omega
  have e2 : ((b2 : Int) % 18446744073709551616 * 65536) % 18446744073709551616 = ((b2 * 2 ^ 16 : Nat) : Int) := by omega
  have e3 : ((b3 : Int) % 18446744073709551616 * 16777216) % 18446744073709551616 = ((b3 * 2 ^ 24 : Nat) : Int) := by omega
  have e4 : ((b4 : Int) % 18446744073709551616 * 4294967296) % 18446744073709551616 = ((b4 * 2 ^ 32 : Nat) : Int) := by omega
  have e5 : ((b5 : Int) % 18446744073709551616 * 1099511627776) % 18446744073709551616 = ((b5 * 2 ^ 40 : Nat) : Int) := by omega
  have e6 : ((b6 : Int) % 18446744073709551616 * 281474976710656) % 18446744073709551616 = ((b6 * 2 ^ 48 : Nat) : Int) := by omega
  have e7 : ((b7 : Int) % 18446744073709551616 * 72057594037927936) % 18446744073709551616 = ((b7 * 2 ^ 56 : Nat) : Int) := by omega
  rw [e0, e1, e2, e3, e4, e5, e6, e7]
  rw [or_shift 8 b0 b1 (by omega) (by omega), or_shift 16 _ b2 (by omega) (by omega), or_shift 24 _ b3 (by omega) (by omega), or_shift 32 _ b4 (by omega) (by omega), or_shift 40 _ b5 (by omega) (by omega), or_shift 48 _ b6 (by omega) (by omega), or_shift 56 _ b7 (by omega) (by omega)]

theorem ret_int {k : IntKind} {a b : Int} (h : a = b) : Ending.returned (.int k a) = .returned (.int k b) := by rw [h]
theorem ret_two {k l : IntKind} {a b c d : Int} (h : a = c) (h' : b = d) : Ending.returned (.tuple #[.int k a, .int l b]) = .returned (.tuple #[.int k c, .int l d]) := by rw [h, h']

/-- What a product of two words and two words more come to, as the program reckons it. -/
theorem step_low (x m P : Nat) (hx : x < 18446744073709551616) (hm : m < 18446744073709551616) (hP : P ≤ 340282366920938463426481119284349108225) :
    (P % 18446744073709551616 + m) / 18446744073709551616 + P / 18446744073709551616 + ((P % 18446744073709551616 + m) % 18446744073709551616 + x) / 18446744073709551616 = (x + P + m) / 18446744073709551616 ∧
    ((P % 18446744073709551616 + m) % 18446744073709551616 + x) % 18446744073709551616 = (x + P + m) % 18446744073709551616 ∧ (x + P + m) / 18446744073709551616 < 18446744073709551616 := by
  omega
end Go.Proofs.YtghinfdmkiaaiaaDoor
