/-
  Arguments that are arrays of ints.
-/
import Derived.Test.YthnkipicehppmaaDoorUA
namespace Go.Proofs.YthnkipicehppmaaDoor.sh
open Go Go.ChangeShapes Go.WideShapes Go.ChangeAt Go.RowKit
set_option linter.unusedVariables false
set_option linter.unusedSimpArgs false

theorem open_arr {H : Type} {enc : TypeId × Value → H} {W : World} {r : Reach} {b0 base : Nat} {sp : Nat → Bool} {held : Bool} {v : Value} {d : DataW H} {p : List MemPlace} {t e : TypeId} {n B : Nat} {kd : IntKind} (ht : Tryd.prog.underlying t = some (.array n e)) (he : Tryd.prog.underlying e = some (.int kd)) (ct : Tryd.prog.cellsOf t = n) (ce : Tryd.prog.cellsOf e = 1) (hB : ∀ k : Int, (Lit.int kd k).wf = true → 0 ≤ k ∧ k < B)
    (hv : Value.okWide Tryd.prog W r b0 t v) (h : DataW.Trod enc Tryd.prog W base sp held t v d p) : ∃ l : List Nat, v = .agg (ints kd l) ∧ l.length = n ∧ ∀ (i x : Nat), l[i]? = some x → x < B := by
  unfold Value.okWide at hv
  rw [ht] at hv
  obtain ⟨cs, rfl, hsz, _⟩ := hv
  rw [ct] at hsz
  obtain ⟨fuel, hf⟩ := h
  obtain ⟨xs, m, rfl, hx, hlen, hn, hel⟩ := DataW.trod_array ht hf
  have hb : ∀ i, ∃ k : Nat, i < n → cs[i]? = some (.int kd (k : Int)) ∧ k < B := by
    intro i
    by_cases hi : i < n
    · have h1 := hel i hi
      rw [ce, Nat.mul_one] at h1
      have hxi : xs[i]? = some (xs[i]'(by omega)) := List.getElem?_eq_getElem _
      rw [hxi] at h1
      obtain ⟨k, e1, e2, hwf⟩ := DataW.trod_int he h1
      have hi' : i < cs.size := by omega
      have e3 : ((Value.agg cs).cells.toList.drop i).take 1 = [cs[i]] := by
        simp only [Value.cells]
        rw [List.drop_eq_getElem_cons (by simpa using hi')]
        simp
      rw [e3] at e1
      obtain ⟨h2, h3⟩ := hB k hwf
      refine ⟨k.toNat, fun _ => ⟨?_, by omega⟩⟩
      rw [Int.toNat_of_nonneg h2, Array.getElem?_eq_getElem hi']
      simpa using e1
    · exact ⟨0, fun h' => absurd h' hi⟩
  let b : Nat → Nat := fun i => Classical.choose (hb i)
  have b1 : ∀ i, i < n → cs[i]? = some (.int kd (b i : Int)) ∧ b i < B := fun i => Classical.choose_spec (hb i)
  refine ⟨(List.range n).map b, ?_, by simp, fun i x hx => ?_⟩
  · congr 1
    apply Array.ext_getElem?
    intro j
    by_cases hj : j < n
    · rw [(b1 j hj).1]
      exact (ints_get (by simp [hj])).symm
    · rw [Array.getElem?_eq_none (by omega), Array.getElem?_eq_none (by rw [ints_size]; simp; omega)]
  · rw [List.getElem?_map] at hx
    obtain ⟨y, hy, rfl⟩ := Option.map_eq_some_iff.1 hx
    obtain ⟨h1, h2⟩ := List.getElem?_eq_some_iff.1 hy
    simp at h1 h2
    rw [← h2]
    exact (b1 _ h1).2
theorem c_32 : Tryd.prog.cellsOf 24 = 32 := by kernel_rfl
theorem open_arr32 {H : Type} {enc : TypeId × Value → H} {W : World} {r : Reach} {b0 base : Nat} {sp : Nat → Bool} {held : Bool} {v : Value} {d : DataW H} {p : List MemPlace}
    (hv : Value.okWide Tryd.prog W r b0 24 v) (h : DataW.Trod enc Tryd.prog W base sp held 24 v d p) : ∃ l : List Nat, v = .agg (ints .u8 l) ∧ l.length = 32 ∧ Bytes l :=
  open_arr (B := 256) Tryd.underlying24 Tryd.underlying5 c_32 cu8 (fun k hk => by have := bounds_u8 hk; omega) hv h
end Go.Proofs.YthnkipicehppmaaDoor.sh
