/-
  An argument that is a secret, a point and two bytes of bits: its cells.
-/
import Derived.Test.YtjagicnkfmndeaaDoorE5
import Derived.Test.YtjagicnkfmndeaaDoorOpen
import Derived.Lib.SmallJoins
namespace Go.Proofs.YtjagicnkfmndeaaDoor
open Go Go.ChangeShapes Go.WideShapes Go.ChangeAt Go.RowKit
set_option linter.unusedVariables false
set_option linter.unusedSimpArgs false

theorem num_cells6 {H : Type} {enc : TypeId × Value → H} {W : World} {base : Nat} {sp : Nat → Bool} {held : Bool} {fuel : Nat} {cs : List Value} {x : DataW H × List MemPlace}
    (hs : cs.length = 32) (hf : DataW.trod enc Tryd.prog W base sp held fuel 22 cs = some x) : ∃ n, cs.toArray = numA n ∧ n < 115792089237316195423570985008687907853269984665640564039457584007913129639936 := by
  obtain ⟨xs, m, rfl, hx, hlen, hn, hel⟩ := DataW.trod_array Tryd.underlying22 hf
  refine numA_of cs.toArray (by simpa using hs) (fun i hi => ?_)
  have h1 := hel i hi
  rw [c5, Nat.mul_one] at h1
  have hxi : xs[i]? = some (xs[i]'(by omega)) := List.getElem?_eq_getElem _
  rw [hxi] at h1
  obtain ⟨k, e1, e2, hwf⟩ := DataW.trod_int Tryd.underlying5 h1
  have hi' : i < cs.length := by omega
  have e3 : (cs.drop i).take 1 = [cs[i]] := by
    rw [List.drop_eq_getElem_cons hi']
    rfl
  rw [e3] at e1
  refine ⟨k, ?_, bounds_u8 hwf⟩
  rw [List.getElem?_toArray, List.getElem?_eq_getElem hi']
  simpa using e1

theorem split66 {α : Type} (L : List α) (h : L.length = 66) : L = L.take 32 ++ (L.drop 32).take 32 ++ ((L.drop 64).take 1 ++ (L.drop 65).take 1) := by
  have e1 : (L.drop 65).take 1 = L.drop 65 := List.take_of_length_le (by rw [List.length_drop]; omega)
  have e2 : (L.drop 64).take 1 ++ L.drop 65 = L.drop 64 := by
    have := List.take_append_drop 1 (L.drop 64)
    rw [List.drop_drop] at this
    exact this
  have e3 : (L.drop 32).take 32 ++ L.drop 64 = L.drop 32 := by
    have := List.take_append_drop 32 (L.drop 32)
    rw [List.drop_drop] at this
    exact this
  rw [e1, e2, List.append_assoc, e3, List.take_append_drop]

theorem cBits : Tryd.prog.cellsOf 37 = 66 := by kernel_rfl

theorem open_bits {H : Type} {enc : TypeId × Value → H} {W : World} {r : Reach} {b0 base : Nat} {sp : Nat → Bool} {held : Bool} {v : Value} {d : DataW H} {p : List MemPlace}
    (hv : Value.okWide Tryd.prog W r b0 37 v) (h : DataW.Trod enc Tryd.prog W base sp held 37 v d p) :
    ∃ k u lo hi, v = .agg (bitsA k u lo hi) ∧ k < 115792089237316195423570985008687907853269984665640564039457584007913129639936 ∧ u < 115792089237316195423570985008687907853269984665640564039457584007913129639936 ∧ lo < 256 ∧ hi < 256 := by
  obtain ⟨cs, rfl, hsz⟩ := okWide_struct Tryd.underlying37 hv
  rw [cBits] at hsz
  obtain ⟨fuel, hf⟩ := h
  obtain ⟨y0, y1, y2, y3, n, hx, hl, h0, h1, h2, h3⟩ := Go.Joins.trod_struct4 Tryd.underlying37 hf
  clear hx hl hf
  have hL : cs.toList.length = 66 := by simpa using hsz
  change DataW.trod enc Tryd.prog W base sp held n 22 ((cs.toList.drop 0).take (Tryd.prog.cellsOf 22)) = some y0 at h0
  change DataW.trod enc Tryd.prog W base sp held n 22 ((cs.toList.drop 32).take (Tryd.prog.cellsOf 22)) = some y1 at h1
  change DataW.trod enc Tryd.prog W base sp held n 5 ((cs.toList.drop 64).take (Tryd.prog.cellsOf 5)) = some y2 at h2
  change DataW.trod enc Tryd.prog W base sp held n 5 ((cs.toList.drop 65).take (Tryd.prog.cellsOf 5)) = some y3 at h3
  rw [c22] at h0 h1
  rw [c5] at h2 h3
  rw [List.drop_zero] at h0
  generalize hcs : cs.toList = L at *
  obtain ⟨k, ek, lk⟩ := num_cells6 (by rw [List.length_take]; omega) h0
  obtain ⟨u, eu, lu⟩ := num_cells6 (by rw [List.length_take, List.length_drop]; omega) h1
  obtain ⟨lo, e2, _, w2⟩ := DataW.trod_int Tryd.underlying5 h2
  obtain ⟨hi, e3, _, w3⟩ := DataW.trod_int Tryd.underlying5 h3
  have b2 : 0 ≤ lo ∧ lo ≤ 255 := bounds_u8 w2
  have b3 : 0 ≤ hi ∧ hi ≤ 255 := bounds_u8 w3
  refine ⟨k, u, lo.toNat, hi.toNat, ?_, lk, lu, by omega, by omega⟩
  have hs := split66 L hL
  rw [e2, e3] at hs
  have tk : (numA k).toList = L.take 32 := by rw [← ek]
  have tu : (numA u).toList = (L.drop 32).take 32 := by rw [← eu]
  have hb : (bitsA k u lo.toNat hi.toNat).toList = (numA k).toList ++ (numA u).toList ++ ([.int .u8 lo] ++ [.int .u8 hi]) := by
    unfold bitsA
    rw [Int.toNat_of_nonneg b2.1, Int.toNat_of_nonneg b3.1, Array.toList_append, Array.toList_append]
    rfl
  rw [tk, tu, ← hs, ← hcs] at hb
  exact congrArg Value.agg (Array.ext' hb.symm)
end Go.Proofs.YtjagicnkfmndeaaDoor
