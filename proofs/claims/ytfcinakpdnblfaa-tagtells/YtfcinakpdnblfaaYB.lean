/-
  Sums and products of words, and the word of eight bytes, by the program.
-/
import Derived.Test.YtfcinakpdnblfaaYA
namespace Go.Proofs.Ytfcinakpdnblfaa.sh
open Go Go.RowKit
set_option linter.unusedVariables false
set_option linter.unusedSimpArgs false

theorem call_addD (x y c : Nat) (hc : c ≤ 1) (w : World) : (callFunc 24 #[.int .u64 (x : Int), .int .u64 (y : Int), .int .u64 (c : Int)]).run Try.prog w = .ok (.value (.tuple #[.int .u64 (((x + y + c) % 18446744073709551616 : Nat) : Int), .int .u64 (((x + y + c) / 18446744073709551616 : Nat) : Int)])) w := by
  rw [run_callFunc_extern Try.func24 (by kernel_rfl) (by kernel_rfl) (by kernel_rfl) (e := add64Entry) (by kernel_rfl), Go.run_add64 x y c (by omega) (by omega) (by omega) (by omega)]
  simp only [Result.andThen]
  congr 5 <;> omega
theorem run_callAdd {o : Oper} {a : Act} {x y z : Operand} {ts : Array TypeId} {X Y C lo hi : Nat} (ho : o.op = .call { callee := .value (.func 24), args := #[x, y, z], argTypes := ts }) (hx : a.eval x = .int .u64 (X : Int)) (hy : a.eval y = .int .u64 (Y : Int)) (hz : a.eval z = .int .u64 (C : Int)) (hc : C ≤ 1) (hlo : lo = (X + Y + C) % 18446744073709551616) (hhi : hi = (X + Y + C) / 18446744073709551616) (w : World) :
    (execOp a.eval o).run Try.prog w = .ok (.value (.tuple #[.int .u64 (lo : Int), .int .u64 (hi : Int)])) w := by
  have h := call_addD X Y C hc w
  rw [hlo, hhi]
  unfold execOp
  simp only [ho, resolve]
  simp [Deferred.ofValue, invoke, Act.eval] at *
  simp [hx, hy, hz]
  exact h
theorem run_ext {o : Oper} {a : Act} {x : Operand} {A : Array Value} {i : Nat} {v : Value} (ho : o.op = .extract x i) (hx : a.eval x = .tuple A) (hv : A[i]? = some v) (w : World) : (execOp a.eval o).run Try.prog w = .ok (.value v) w := by
  unfold execOp
  simp only [ho, hx]
  simp [go_sem, hv]

theorem stepD (x y u m : Nat) (hx : x < 18446744073709551616) (hy : y < 18446744073709551616) (hu : u < 18446744073709551616) (hm : m < 18446744073709551616) (w : World) :
    Calls Try.prog 26 #[.int .u64 (x : Int), .int .u64 (y : Int), .int .u64 (u : Int), .int .u64 (m : Int)] w fun e w' => e = .returned (.tuple #[.int .u64 (((x + y * u + m) % 18446744073709551616 : Nat) : Int), .int .u64 (((x + y * u + m) / 18446744073709551616 : Nat) : Int)]) ∧ w' = w := by
  have hP : Kept (y * u ≤ 18446744073709551615 * 18446744073709551615) := ⟨Nat.mul_le_mul (by omega) (by omega)⟩
  have HB : Kept (x < 18446744073709551616 ∧ m < 18446744073709551616) := ⟨hx, hm⟩
  go_enter Try.func26, Try.ntmps26
  go_wp2_with fail
  refine (mul64_any _ _ _ hy hu).mono ?_
  rintro e w' ⟨hi, lo, rfl, rfl, H⟩
  clear hx hy hu hm
  obtain ⟨z0, c0, h0, H0⟩ := call_add64_0 lo m
  obtain ⟨z1, c1, h1, H1⟩ := call_add64_0 z0 x
  go_wp2
  go_ret2
  have b1 := H.out; have b2 := H0.out; have b3 := H1.out; have b4 := HB.out; have b5 := hP.out
  generalize y * u = P at *
  refine ⟨ret_two ?_ ?_, rfl⟩
  · congr 1; omega
  · simp only [IntKind.wrap_u64]; omega

set_option maxHeartbeats 1000000 in
theorem word_walk (g off cap : Nat) (b0 b1 b2 b3 b4 b5 b6 b7 : Nat) (w : World)
   (c0 : w.cell? ⟨g, off, none⟩ = some (.int .u8 (b0 : Int))) (c1 : w.cell? ⟨g, off + 1, none⟩ = some (.int .u8 (b1 : Int))) (c2 : w.cell? ⟨g, off + 2, none⟩ = some (.int .u8 (b2 : Int))) (c3 : w.cell? ⟨g, off + 3, none⟩ = some (.int .u8 (b3 : Int)))
   (c4 : w.cell? ⟨g, off + 4, none⟩ = some (.int .u8 (b4 : Int))) (c5 : w.cell? ⟨g, off + 5, none⟩ = some (.int .u8 (b5 : Int))) (c6 : w.cell? ⟨g, off + 6, none⟩ = some (.int .u8 (b6 : Int))) (c7 : w.cell? ⟨g, off + 7, none⟩ = some (.int .u8 (b7 : Int)))
   (hb : Kept (b0 < 256 ∧ b1 < 256 ∧ b2 < 256 ∧ b3 < 256 ∧ b4 < 256 ∧ b5 < 256 ∧ b6 < 256 ∧ b7 < 256)) :
    Calls Try.prog 23 #[.slice (some ⟨g, off, none⟩) 8 cap] w
      fun e w' => e = .returned (.int .u64 ((b0 + b1 * 256 + b2 * 65536 + b3 * 16777216 + b4 * 4294967296 + b5 * 1099511627776 + b6 * 281474976710656 + b7 * 72057594037927936 : Nat) : Int)) ∧ Below w.heap.size w w' := by
  go_enter Try.func23, Try.ntmps23
  go_wp2
  go_quiet (fail)
  go_wp2
  go_ret
  obtain ⟨h0, h1, h2, h3, h4, h5, h6, h7⟩ := hb.out
  refine ⟨ret_int (word_bits b0 b1 b2 b3 b4 b5 b6 b7 h0 h1 h2 h3 h4 h5 h6 h7), ?_⟩
  exact ⟨rfl, rfl, rfl, Nat.le_refl _, fun _ _ => rfl⟩
theorem val8 (b0 b1 b2 b3 b4 b5 b6 b7 : Nat) : val [b0, b1, b2, b3, b4, b5, b6, b7] = b0 + b1 * 256 + b2 * 65536 + b3 * 16777216 + b4 * 4294967296 + b5 * 1099511627776 + b6 * 281474976710656 + b7 * 72057594037927936 := by
  simp only [val]
  omega
/-- The word of eight bytes in the midst of a block. -/
theorem wordD (g off cap : Nat) (t : TypeId) (L : List Nat) (w : World) (hB : Blk w g t (ints .u8 L)) (hy : Bytes L) (hl : off + 8 ≤ L.length) (z : Nat) (hz : z = val ((L.drop off).take 8)) :
    Calls Try.prog 23 #[.slice (some ⟨g, off, none⟩) 8 cap] w fun e w' => e = .returned (.int .u64 (z : Int)) ∧ Below w.heap.size w w' := by
  have hg : ∀ i, i < 8 → ∃ x, L[off + i]? = some x ∧ x < 256 := fun i hi => ⟨_, List.getElem?_eq_getElem (by omega), hy _ _ (List.getElem?_eq_getElem (by omega))⟩
  obtain ⟨b0, g0, l0⟩ := hg 0 (by omega)
  obtain ⟨b1, g1, l1⟩ := hg 1 (by omega)
  obtain ⟨b2, g2, l2⟩ := hg 2 (by omega)
  obtain ⟨b3, g3, l3⟩ := hg 3 (by omega)
  obtain ⟨b4, g4, l4⟩ := hg 4 (by omega)
  obtain ⟨b5, g5, l5⟩ := hg 5 (by omega)
  obtain ⟨b6, g6, l6⟩ := hg 6 (by omega)
  obtain ⟨b7, g7, l7⟩ := hg 7 (by omega)
  have e : (L.drop off).take 8 = [b0, b1, b2, b3, b4, b5, b6, b7] := by
    apply List.ext_getElem?
    intro i
    by_cases hi : i < 8
    · rw [List.getElem?_take_of_lt hi, List.getElem?_drop]
      match i, hi with
      | 0, _ => exact g0
      | 1, _ => exact g1
      | 2, _ => exact g2
      | 3, _ => exact g3
      | 4, _ => exact g4
      | 5, _ => exact g5
      | 6, _ => exact g6
      | 7, _ => exact g7
    · rw [List.getElem?_eq_none (by simp; omega), List.getElem?_eq_none (by simp; omega)]
  rw [hz, e, val8]
  exact word_walk g off cap b0 b1 b2 b3 b4 b5 b6 b7 w (hB.cell (ints_get g0)) (hB.cell (ints_get g1)) (hB.cell (ints_get g2)) (hB.cell (ints_get g3)) (hB.cell (ints_get g4)) (hB.cell (ints_get g5)) (hB.cell (ints_get g6)) (hB.cell (ints_get g7)) ⟨l0, l1, l2, l3, l4, l5, l6, l7⟩
end Go.Proofs.Ytfcinakpdnblfaa.sh
