/-
  The reference's words are the program's; a block more by the reference is as bytes one by one.
-/
import Derived.Test.YthnkipicehppmaaDoorTL
namespace Go.Proofs.YthnkipicehppmaaDoor.sh
open Go Go.RowKit
set_option linter.unusedVariables false
set_option linter.unusedSimpArgs false

theorem or_byte (x y : Nat) (hx : x < 16777216) (hy : y < 256) : (x * 256 % 4294967296) ||| y = x * 256 + y := by
  rw [Nat.mod_eq_of_lt (by omega)]
  have h := Nat.two_pow_add_eq_or_of_lt (i := 8) (show y < 2 ^ 8 from hy) x
  rw [Nat.mul_comm x 256]
  exact h.symm
theorem getD_set_eq (l : List Nat) (i v : Nat) (h : i < l.length) : (l.set i v).getD i 0 = v := by simp [List.getD_eq_getElem?_getD, h]
theorem getD_set_other (l : List Nat) (i j v : Nat) (h : i ≠ j) : (l.set i v).getD j 0 = l.getD j 0 := by simp [List.getD_eq_getElem?_getD, List.getElem?_set_ne h]
theorem pack_word (b : List Nat) (hb : Bytes b) : ∀ m, m ≤ 64 → ∀ i, i < 16 → (packTo b m).getD i 0 = wordTo b i (min (m - 4 * i) 4)
  | 0, _, i, hi => by
    rw [packTo_zero, show min (0 - 4 * i) 4 = 0 from by omega, wordTo]
    rw [List.getD_eq_getElem?_getD, List.getElem?_replicate, if_pos (by omega)]
    rfl
  | m + 1, hm, i, hi => by
    have ih := pack_word b hb m (by omega)
    rw [packTo]
    by_cases h : m / 4 = i
    · obtain ⟨r, hr⟩ : ∃ r, r = m - 4 * i := ⟨_, rfl⟩
      have r4 : r < 4 := by omega
      have ei := ih i hi
      rw [show min (m - 4 * i) 4 = r from by omega] at ei
      rw [h, getD_set_eq _ _ _ (by rw [packTo_len]; omega), ei, show min (m + 1 - 4 * i) 4 = r + 1 from by omega, wordTo, show 4 * i + r = m from by omega]
      refine or_byte _ _ ?_ (getD_byte hb m)
      exact Nat.lt_of_lt_of_le (wordTo_lt b hb i r) (Nat.pow_le_pow_right (n := 256) (by decide) (show r ≤ 3 by omega))
    · rw [getD_set_other _ _ _ _ h, ih i hi]
      congr 1
      omega
theorem pack16 (b : List Nat) (hb : Bytes b) : (packTo b 64).take 16 = w16 b 16 := by
  apply List.ext_getElem?
  intro i
  by_cases hi : i < 16
  · have h := pack_word b hb 64 (Nat.le_refl _) i hi
    rw [show min (64 - 4 * i) 4 = 4 from by omega] at h
    have hl : i < (packTo b 64).length := by rw [packTo_len]; omega
    rw [List.getElem?_take_of_lt hi, List.getElem?_eq_getElem hl]
    rw [List.getD_eq_getElem?_getD, List.getElem?_eq_getElem hl, Option.getD_some] at h
    rw [h]
    simp [w16, hi]
  · rw [List.getElem?_eq_none (by simp; omega), List.getElem?_eq_none (by simp [w16]; omega)]
theorem getD_take (l : List Nat) (n k : Nat) (h : k < n) : (l.take n).getD k 0 = l.getD k 0 := by rw [List.getD_eq_getElem?_getD, List.getElem?_take_of_lt h, List.getD_eq_getElem?_getD]
theorem ext_take (b : List Nat) (hb : Bytes b) : ∀ j, j ≤ 48 → (extTo (packTo b 64) j).take (16 + j) = wsTo b j
  | 0, _ => by rw [extTo_zero, wsTo_zero]; exact pack16 b hb
  | j + 1, hj => by
    have ih := ext_take b hb j (by omega)
    have hl : (extTo (packTo b 64) j).length = 64 := by rw [extTo_len, packTo_len]
    rw [extTo_succ, wsTo, ← ih, getD_take _ _ _ (by omega), getD_take _ _ _ (by omega), getD_take _ _ _ (by omega), getD_take _ _ _ (by omega)]
    unfold extAt
    rw [show 16 + (j + 1) = (16 + j) + 1 from by omega, List.take_add_one, List.getElem?_set_self (by omega), List.take_set_of_le (Nat.le_refl _)]
    rfl
theorem words_eq (b : List Nat) (hb : Bytes b) : wsTo b 48 = spreadL b := by
  rw [← ext_take b hb 48 (Nat.le_refl _)]
  unfold spreadL
  exact List.take_of_length_le (by rw [extTo_len, packTo_len]; decide)

theorem plus_assoc : ∀ (a b c : List Nat), plusL a (plusL b c) = plusL (plusL a b) c
  | [], _, _ => by simp [plusL]
  | _ :: _, [], _ => by simp [plusL]
  | _ :: _, _ :: _, [] => by simp [plusL]
  | x :: a, y :: b, z :: c => by
    have ih := plus_assoc a b c
    unfold plusL at *
    rw [List.zipWith_cons_cons, List.zipWith_cons_cons, List.zipWith_cons_cons, List.zipWith_cons_cons, ih]
    congr 1
    omega
/-- So many blocks by the reference. -/
def refTo (F : List Nat) : Nat → List Nat
  | 0 => firstL
  | j + 1 => plusL (refTo F j) (mixedL (refTo F j) ((F.drop (64 * j)).take 64))
theorem refTo_zero (F : List Nat) : refTo F 0 = firstL := rfl
theorem refTo_succ (F : List Nat) (j : Nat) : refTo F (j + 1) = plusL (refTo F j) (mixedL (refTo F j) ((F.drop (64 * j)).take 64)) := rfl
theorem refTo_len (F : List Nat) : ∀ j, (refTo F j).length = 8
  | 0 => firstL_len
  | j + 1 => by
    have := refTo_len F j
    rw [refTo_succ, plusL_len _ _ (by rw [mixedL_len _ _ this, this])]
    exact this
theorem refTo_small (F : List Nat) : ∀ j, Small (refTo F j)
  | 0 => firstL_small
  | j + 1 => plusL_small _ _
theorem feed_blocks (F : List Nat) : ∀ j, 64 * j ≤ F.length → ∃ G, G.length = 8 ∧ feed initD (F.take (64 * j)) = (G, List.replicate 64 0, 64 * j) ∧ plusL firstL G = refTo F j
  | 0, _ => ⟨List.replicate 8 0, by simp, by rw [Nat.mul_zero, List.take_zero, feed_nil]; rfl, (by decide : plusL firstL (List.replicate 8 0) = firstL)⟩
  | j + 1, h => by
    obtain ⟨G, hG, h1, h2⟩ := feed_blocks F j (by omega)
    have hc : ((F.drop (64 * j)).take 64).length = 64 := by rw [List.length_take, List.length_drop]; omega
    have e : F.take (64 * (j + 1)) = F.take (64 * j) ++ (F.drop (64 * j)).take 64 := by rw [show 64 * (j + 1) = 64 * j + 64 from by omega, List.take_add]
    have hf := feed_chunk G ((F.drop (64 * j)).take 64) (List.replicate 64 0) (64 * j) (by simp) (by rw [hc]; omega)
    refine ⟨plusL G (mixedL (plusL firstL G) ((F.drop (64 * j)).take 64)), ?_, ?_, ?_⟩
    · rw [plusL_len _ _ (by rw [mixedL_len _ _ (by rw [plusL_len _ _ (by rw [firstL_len, hG])]; exact firstL_len), hG])]
      exact hG
    · rw [e, feed_append, h1, hf, show 64 * j % 64 = 0 from by omega, splice_all _ _ (by rw [hc]; simp), hc]
      rfl
    · rw [plus_assoc, h2, refTo_succ]
theorem fillL_len (n : Nat) : (fillL n).length = 1 + zerosN n + 8 := fillTo_len n 8
/-- The digest of bytes by the reference's blocks. -/
theorem sum_blocks (bs : List Nat) (J : Nat) (h : (bs ++ fillL bs.length).length = 64 * J) : sumL bs = bytesL (refTo (bs ++ fillL bs.length) J) := by
  obtain ⟨G, _, h1, h2⟩ := feed_blocks (bs ++ fillL bs.length) J (by omega)
  rw [List.take_of_length_le (by omega)] at h1
  unfold sumL sumD
  rw [dgs_n, ← feed_append, h1, h2]
theorem fill_blocks (bs : List Nat) : ∃ J, (bs ++ fillL bs.length).length = 64 * J := by
  refine ⟨(bs.length + (1 + zerosN bs.length + 8)) / 64, ?_⟩
  rw [List.length_append, fillL_len]
  unfold zerosN
  omega
end Go.Proofs.YthnkipicehppmaaDoor.sh
