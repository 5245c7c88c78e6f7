/-
  An argument that is a slice of numbers: where its numbers lie.
-/
import Derived.Test.YtjagicnkfmndeaaDoorOpen
import Derived.Test.YtjagicnkfmndeaaDoorL3
import Derived.Deep.Slices
namespace Go.Proofs.YtjagicnkfmndeaaDoor
open Go Go.ChangeShapes Go.WideShapes Go.ChangeAt Go.RowKit
set_option linter.unusedVariables false
set_option linter.unusedSimpArgs false

theorem num_cells {H : Type} {enc : TypeId × Value → H} {W : World} {base : Nat} {sp : Nat → Bool} {held : Bool} {fuel : Nat} {cs : List Value} {x : DataW H × List MemPlace}
    (hs : cs.length = 32) (hf : DataW.trod enc Tryd.prog W base sp held fuel 22 cs = some x) : ∃ n, cs.toArray = numA n ∧ n < 115792089237316195423570985008687907853269984665640564039457584007913129639936 := by
  obtain ⟨xs, m, rfl, hx, hlen, hn, hel⟩ := DataW.trod_array Tryd.underlying22 hf
  refine numA_of cs.toArray (by simpa using hs) (fun i hi => ?_)
  have h1 := hel i hi
  rw [c5, Nat.mul_one] at h1
  have hxi : xs[i]? = some (xs[i]'(by omega)) := List.getElem?_eq_getElem _
  rw [hxi] at h1
  obtain ⟨k, e1, e2, hwf⟩ := DataW.trod_int Tryd.underlying5 h1
  have hi' : i < cs.length := by omega
  have e3 : (cs.drop i).take 1 = [cs[i]] := by
    rw [List.drop_eq_getElem_cons hi']
    rfl
  rw [e3] at e1
  refine ⟨k, ?_, bounds_u8 hwf⟩
  rw [List.getElem?_toArray, List.getElem?_eq_getElem hi']
  simpa using e1

theorem open_nums {H : Type} {enc : TypeId × Value → H} {W : World} {r : Reach} {b0 : Nat} {v : Value} {d : DataW H} {p : List MemPlace}
    (hv : Value.okWide Tryd.prog W r b0 30 v) (h : DataW.Trod enc Tryd.prog W 0 (fun _ => true) true 30 v d p) :
    v = .slice none 0 0 ∨ ∃ A len cap f, v = .slice (some A) len cap ∧ (len = 0 ∨ Lies W A len f) ∧ ∀ i, i < len → f i < 115792089237316195423570985008687907853269984665640564039457584007913129639936 := by
  obtain ⟨a0, len, cap, rfl⟩ := okWide_slice Tryd.underlying30 hv
  obtain ⟨fuel, hf⟩ := h
  rcases Go.Deep.open_slice Tryd.underlying30 hf with ⟨hcs, hx⟩ | ⟨a, len', cap', m, n, D, Pl, hcs, _, hl, hm, hmm, hx, hel⟩
  · left
    simpa [Value.cells] using hcs
  · right
    simp [Value.cells] at hcs
    obtain ⟨rfl, rfl, rfl⟩ := hcs
    have hlm : len ≤ m := by rw [hmm]; split <;> omega
    have key : ∀ i, ∃ n, i < len → n < 115792089237316195423570985008687907853269984665640564039457584007913129639936 ∧ ∀ j v, (numA n)[j]? = some v → W.cell? ((a.add (i * 32)).add j) = some v := by
      intro i
      by_cases hi : i < len
      · obtain ⟨cs', h1, h2⟩ := hel i (by omega)
        rw [c22] at h1
        obtain ⟨_, h3, h4⟩ := World.cells?_some h1
        obtain ⟨n, e, hn⟩ := num_cells h3 h2
        refine ⟨n, fun _ => ⟨hn, fun j v hv => ?_⟩⟩
        have hj : j < 32 := by
          have := (Array.getElem?_eq_some_iff.1 hv).1
          rw [numA_size] at this
          exact this
        rw [h4 j hj]
        rw [← e, List.getElem?_toArray] at hv
        exact hv
      · exact ⟨0, fun h => absurd h hi⟩
    let f : Nat → Nat := fun i => Classical.choose (key i)
    have hk : ∀ i, i < len → f i < 115792089237316195423570985008687907853269984665640564039457584007913129639936 ∧ ∀ j v, (numA (f i))[j]? = some v → W.cell? ((a.add (i * 32)).add j) = some v := fun i => Classical.choose_spec (key i)
    refine ⟨a, len, cap, f, rfl, ?_, fun i hi => (hk i hi).1⟩
    by_cases h0 : len = 0
    · exact .inl h0
    · right
      refine ⟨?_, fun i hi => (hk i hi).2⟩
      have h1 := (hk 0 (by omega)).2 0 _ (numA_get _ 0 (by omega))
      have h2 := block_lt_of_cell h1
      rw [add_block, add_block] at h2
      exact h2
end Go.Proofs.YtjagicnkfmndeaaDoor
