/-
  Arguments that are strings, and slices of strings.
-/
import Derived.Test.YtfkpbmkhkhnehaaSC
import Derived.SliceStrings
import Derived.ProofKit
import Derived.LaidMore
import Derived.OpenShut
import Derived.ChangeOld
namespace Go.Proofs.Ytfkpbmkhkhnehaa.sh
open Go Go.ChangeShapes Go.WideShapes Go.ChangeAt Go.RowKit
set_option linter.unusedVariables false
set_option linter.unusedSimpArgs false

/-- A string among the arguments. -/
theorem open_str {H : Type} {enc : TypeId × Value → H} {W : World} {base : Nat} {sp : Nat → Bool} {held : Bool} {v : Value} {d : DataW H} {p : List MemPlace} {e : TypeId}
    (he : Try.prog.underlying e = some .string) (h1 : v.cells = #[v]) (h : DataW.Trod enc Try.prog W base sp held e v d p) : ∃ l : List Nat, v = .string (strOf l) ∧ Bytes l ∧ l.length ≤ maxLen := by
  obtain ⟨fuel, hf⟩ := h
  obtain ⟨s, e1, e2, hw⟩ := DataW.trod_string he hf
  rw [h1] at e1
  refine ⟨strL s, ?_, strL_bytes s, ?_⟩
  · rw [strOf_strL]
    simpa using e1
  · rw [show (strL s).length = s.size by rw [← strOf_size, strOf_strL]]
    exact hw
/-- A slice of strings among the arguments. -/
theorem open_strs {H : Type} {enc : TypeId × Value → H} {W : World} {r : Reach} {b0 base : Nat} {sp : Nat → Bool} {held : Bool} {v : Value} {d : DataW H} {p : List MemPlace} {t e : TypeId}
    (ht : Try.prog.underlying t = some (.slice e)) (he : Try.prog.underlying e = some .string) (hc : Try.prog.cellsOf e = 1)
    (hv : Value.okWide Try.prog W r b0 t v) (h : DataW.Trod enc Try.prog W base sp held t v d p) : ∃ ll : List (List Nat), ValsV v W (strs ll) ∧ (∀ l ∈ ll, Bytes l ∧ l.length ≤ maxLen) ∧ ll.length ≤ maxLen := by
  obtain ⟨a0, len, cap, rfl⟩ := okWide_slice ht hv
  obtain ⟨fuel, hf⟩ := h
  rcases open_strings ht he hc hf with ⟨hcs, hx⟩ | ⟨a, len', cap', ss, hcs, _, hl, hm, hz, hx, hcell, hsz⟩
  · simp [Value.cells] at hcs
    obtain ⟨rfl, rfl, rfl⟩ := hcs
    exact ⟨[], vals_nil W, fun l hl => by simp at hl, Nat.zero_le _⟩
  · simp [Value.cells] at hcs
    obtain ⟨rfl, rfl, rfl⟩ := hcs
    have hlm : len ≤ ss.length := by rw [hz]; split <;> omega
    have h1 : ((ss.take len).map strL).length = len := by simp; omega
    have cell : ∀ (j : Nat) (x : Value), (strs ((ss.take len).map strL))[j]? = some x → W.cell? (a.add j) = some x := fun j x hx => by
      unfold strs at hx
      rw [List.map_map, List.getElem?_map] at hx
      obtain ⟨s, hs, rfl⟩ := Option.map_eq_some_iff.1 hx
      have hj : j < len := by
        have := (List.getElem?_eq_some_iff.1 hs).1
        simp at this
        omega
      rw [List.getElem?_take_of_lt hj] at hs
      rw [hcell j (by omega), List.getD_eq_getElem?_getD, hs]
      exact congrArg (fun z => some (Value.string z)) (strOf_strL s).symm
    refine ⟨(ss.take len).map strL, ⟨some a, cap, by rw [strs_len, h1], by rw [strs_len, h1]; exact hl, fun hne => ⟨a, rfl, ?_, cell⟩⟩, fun l hl => ?_, by rw [h1]; omega⟩
    · have h0 : 0 < len := by
        rcases Nat.eq_zero_or_pos len with h | h
        · subst h; exact absurd rfl hne
        · exact h
      have := World.block_lt_of_cell? _ _ (hcell 0 (by omega))
      rwa [add_block] at this
    · obtain ⟨s, hs, rfl⟩ := List.mem_map.1 hl
      refine ⟨strL_bytes s, ?_⟩
      rw [show (strL s).length = s.size by rw [← strOf_size, strOf_strL]]
      exact hsz s (List.mem_of_mem_take hs)
end Go.Proofs.Ytfkpbmkhkhnehaa.sh
