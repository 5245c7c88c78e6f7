/-
  What the reference's Clamp and bit answer.
-/
import Derived.Test.YtjagicnkfmndeaaDoorD5
namespace Go.Proofs.YtjagicnkfmndeaaDoor
open Go Go.RowKit
set_option linter.unusedVariables false
set_option linter.unusedSimpArgs false

set_option maxHeartbeats 400000 in
theorem rClamp_any (n : Nat) (w : World) (hn : n < 115792089237316195423570985008687907853269984665640564039457584007913129639936) :
    Calls Tryd.prog 31 #[.agg (numA n)] w fun e w' => e = .returned (.agg (numA (clampN n))) ∧ Below w.heap.size w w' := by
  have L : Kept _ := ⟨hn⟩
  obtain ⟨r, hr⟩ : ∃ r, r = clampN n := ⟨_, rfl⟩
  rw [← hr]
  have E : Kept _ := ⟨hr⟩
  clear hn hr
  have A0 : At ((w.alloc (.cells (numA n) 22)).alloc (.cells #[.int .u8 0, .int .u8 0, .int .u8 0, .int .u8 0, .int .u8 0, .int .u8 0, .int .u8 0, .int .u8 0, .int .u8 0, .int .u8 0, .int .u8 0, .int .u8 0, .int .u8 0, .int .u8 0, .int .u8 0, .int .u8 0, .int .u8 0, .int .u8 0, .int .u8 0, .int .u8 0, .int .u8 0, .int .u8 0, .int .u8 0, .int .u8 0, .int .u8 0, .int .u8 0, .int .u8 0, .int .u8 0, .int .u8 0, .int .u8 0, .int .u8 0, .int .u8 0] 22)) w.heap.size n := (at_new w n).alloc _
  have R1 : Room ((w.alloc (.cells (numA n) 22)).alloc (.cells #[.int .u8 0, .int .u8 0, .int .u8 0, .int .u8 0, .int .u8 0, .int .u8 0, .int .u8 0, .int .u8 0, .int .u8 0, .int .u8 0, .int .u8 0, .int .u8 0, .int .u8 0, .int .u8 0, .int .u8 0, .int .u8 0, .int .u8 0, .int .u8 0, .int .u8 0, .int .u8 0, .int .u8 0, .int .u8 0, .int .u8 0, .int .u8 0, .int .u8 0, .int .u8 0, .int .u8 0, .int .u8 0, .int .u8 0, .int .u8 0, .int .u8 0, .int .u8 0] 22)) (w.heap.size + 1) := room_top _ _ (by simp)
  have QB : Below w.heap.size w ((w.alloc (.cells (numA n) 22)).alloc (.cells #[.int .u8 0, .int .u8 0, .int .u8 0, .int .u8 0, .int .u8 0, .int .u8 0, .int .u8 0, .int .u8 0, .int .u8 0, .int .u8 0, .int .u8 0, .int .u8 0, .int .u8 0, .int .u8 0, .int .u8 0, .int .u8 0, .int .u8 0, .int .u8 0, .int .u8 0, .int .u8 0, .int .u8 0, .int .u8 0, .int .u8 0, .int .u8 0, .int .u8 0, .int .u8 0, .int .u8 0, .int .u8 0, .int .u8 0, .int .u8 0, .int .u8 0, .int .u8 0] 22)) := ((Below.refl _ _).alloc (Nat.le_refl _) _).alloc (by simp) _
  obtain ⟨x, hx⟩ : ∃ x, x = n % 256 := ⟨_, rfl⟩
  obtain ⟨y, hy⟩ : ∃ y, y = n / 452312848583266388373324160190187140051835877600158453279131187530910662656 % 256 := ⟨_, rfl⟩
  have hxl : x < 256 := by omega
  have hyl : y < 256 := by omega
  have g0 : (numA n)[0]? = some (.int .u8 (x : Int)) := by rw [numA_get n 0 (by decide), hx, Nat.pow_zero, Nat.div_one]
  have g31 : (numA n)[31]? = some (.int .u8 (y : Int)) := by rw [numA_get n 31 (by decide), hy, show (256 : Nat) ^ 31 = 452312848583266388373324160190187140051835877600158453279131187530910662656 from by decide]
  have KF : Kept (((numA n).setIfInBounds 0 (.int .u8 ((x - x % 8 : Nat) : Int))).setIfInBounds 31 (.int .u8 ((y % 64 + 64 : Nat) : Int)) = numA r) := ⟨by
    rw [numA_ends n _ _ L.out (by omega) (by omega), E.out]
    unfold clampN
    congr 2 <;> omega⟩
  clear hx hy
  go_enter Tryd.func31, Tryd.ntmps31
  go_wp2_with (first | (refine wpList_get rfl (.tmp 1) rfl _ n rfl A0 ?_) | (refine wpList_put rfl (.tmp 3) (.tmp 4) rfl (w.heap.size + 1 + 1) n rfl rfl (room_top _ _ (by simp)) ?_))
  intro w0 A1 P0
  have R2 := P0.room (R1.alloc _) (by omega)
  have QB0 : Below w.heap.size w w0 := (QB.alloc (by simp; omega) _).trans (P0.below (by omega))
  clear A0 R1 QB P0
  go_wp2_with (first | (refine wpList_byte rfl (.tmp 5) rfl _ 0 rfl (numA n) _ A1 g0 ?_) | (refine wpList_byte rfl (.tmp 7) rfl _ 0 rfl (numA n) _ A1 g0 ?_) | (refine wpList_setbyte rfl (.tmp 11) (.tmp 10) rfl _ 0 _ rfl rfl (numA n) A1 (by rw [numA_size]; decide) ?_))
  intro w1 A2 P1
  rw [show ((x : Int) - (x : Int) % 8) = ((x - x % 8 : Nat) : Int) from by omega] at A2
  have R3 := P1.room R2 (by omega)
  have QB1 := QB0.trans (P1.below (B := w.heap.size) (by omega))
  have g31' : ((numA n).setIfInBounds 0 (.int .u8 ((x - x % 8 : Nat) : Int)))[31]? = some (.int .u8 (y : Int)) := by rw [Array.getElem?_setIfInBounds_ne (by decide)]; exact g31
  clear A1 R2 QB0 P1 g0 g31
  go_wp2_with (first | (refine wpList_byte rfl (.tmp 12) rfl _ 31 rfl _ _ A2 g31' ?_) | (refine wpList_setbyte rfl (.tmp 16) (.tmp 15) rfl _ 31 _ rfl rfl _ A2 (by simp [numA_size]) ?_))
  intro w2 A3 P2
  rw [show ((y : Int) % 64 + 64) = ((y % 64 + 64 : Nat) : Int) from by omega, KF.out] at A3
  have R4 := P2.room R3 (by omega)
  have QB2 := QB1.trans (P2.below (B := w.heap.size) (by omega))
  clear A2 R3 QB1 P2 g31'
  go_wp2_with (first | (refine wpList_get rfl (.tmp 3) rfl _ r rfl A3 ?_) | (refine wpList_put rfl (.tmp 2) (.tmp 17) rfl _ r rfl rfl R4 ?_))
  intro w3 A4 P3
  go_wp2
  exact bodyPost_ret (v := .agg (numA r)) (ret_num (Q := fun _ _ => True) Tryd.results31 _ [] _ _ r rfl A4) rfl ⟨rfl, QB2.trans (P3.below (by omega))⟩

theorem halve (z j : Nat) : z / 2 ^ j / 2 = z / 2 ^ (j + 1) := by rw [Nat.pow_succ, Nat.div_div_eq_div_mul]

set_option maxHeartbeats 400000 in
theorem rbit_any (n i : Nat) (w : World) (hi : i < 256) :
    Calls Tryd.prog 44 #[.agg (numA n), .int .i64 (i : Int)] w fun e w' => e = .returned (.bool (decide (n / 2 ^ i % 2 = 1))) ∧ Below w.heap.size w w' := by
  have A0 : At (w.alloc (.cells (numA n) 22)) w.heap.size n := at_new w n
  have QB : Below w.heap.size w (w.alloc (.cells (numA n) 22)) := (Below.refl _ _).alloc (Nat.le_refl _) _
  obtain ⟨z, hz⟩ : ∃ z, z = n / 256 ^ (i / 8) % 256 := ⟨_, rfl⟩
  have hz8 : z < 256 := by rw [hz]; exact Nat.mod_lt _ (by decide)
  have gz : (numA n)[i / 8]? = some (.int .u8 (z : Int)) := by rw [numA_get n (i / 8) (by omega), hz]
  have KF : Kept (z / 2 ^ (i % 8) % 2 = n / 2 ^ i % 2) := ⟨by rw [hz]; exact bit_eq n i⟩
  clear hz
  go_enter Tryd.func44, Tryd.ntmps44
  go_wp2_with (first | (refine wpList_byte rfl (.tmp 9) rfl _ (i / 8) rfl (numA n) _ A0 gz ?_))
  go_loop [5, 6] (fun b k => ∃ j y : Nat, j ≤ i % 8 ∧ k = .int .i64 j ∧ b = .int .u8 (y : Int) ∧ y < 256 ∧ Kept (y = z / 2 ^ j)) (fun _ k => 8 - (intOf k).toNat)
  case atStart => exact ⟨0, z, by omega, rfl, rfl, hz8, ⟨by simp⟩⟩
  case round =>
    obtain ⟨j, y, hj, rfl, rfl, hy, KY⟩ := hrel
    by_cases hlt : j < i % 8
    · go_wp2
      go_round
      case rel => exact ⟨j + 1, y / 2, by omega, by go_num, by go_num, by omega, ⟨by rw [KY.out, halve]⟩⟩
      case measure => simp [intOf]; omega
    · have e : j = i % 8 := by omega
      go_wp2
      go_ret
      refine ⟨?_, QB⟩
      have h : y % 2 = n / 2 ^ i % 2 := by rw [KY.out, e]; exact KF.out
      have h2 : ((y : Int) % 2 == 1) = decide (n / 2 ^ i % 2 = 1) := by
        rw [← h]
        by_cases hp : y % 2 = 1
        · rw [decide_eq_true hp]; simp; omega
        · rw [decide_eq_false hp]; simp; omega
      exact congrArg (fun b => Ending.returned (Value.bool b)) h2
end Go.Proofs.YtjagicnkfmndeaaDoor
