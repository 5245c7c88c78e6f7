/-
  Arguments: sixteen bytes; two slices of bytes; two slices, a number of 16 bits and a byte.
-/
import Derived.Test.YtfcinakpdnblfaaYI
import Derived.Deep.Strs
namespace Go.Proofs.Ytfcinakpdnblfaa.sh
open Go Go.ChangeShapes Go.WideShapes Go.ChangeAt Go.RowKit
set_option linter.unusedVariables false
set_option linter.unusedSimpArgs false

theorem c_16 : Try.prog.cellsOf 25 = 16 := by kernel_rfl
theorem c_p2 : Try.prog.cellsOf 33 = 2 := by kernel_rfl
theorem c_tw : Try.prog.cellsOf 30 = 4 := by kernel_rfl
theorem c_u16b : Try.prog.cellsOf 28 = 1 := by kernel_rfl
theorem open_arr16 {H : Type} {enc : TypeId × Value → H} {W : World} {r : Reach} {b0 base : Nat} {sp : Nat → Bool} {held : Bool} {v : Value} {d : DataW H} {p : List MemPlace}
    (hv : Value.okWide Try.prog W r b0 25 v) (h : DataW.Trod enc Try.prog W base sp held 25 v d p) : ∃ l : List Nat, v = .agg (ints .u8 l) ∧ l.length = 16 ∧ Bytes l :=
  open_arr (B := 256) Try.underlying25 Try.underlying5 c_16 cu8 (fun k hk => by have := bounds_u8 hk; omega) hv h
theorem open_pair {H : Type} {enc : TypeId × Value → H} {W : World} {r : Reach} {b0 base : Nat} {sp : Nat → Bool} {held : Bool} {v : Value} {d : DataW H} {p : List MemPlace}
    (hv : Value.okWide Try.prog W r b0 33 v) (h : DataW.Trod enc Try.prog W base sp held 33 v d p) : ∃ v0 v1 l0 l1, v = .agg #[v0, v1] ∧ BytesV v0 W l0 ∧ Bytes l0 ∧ l0.length ≤ maxLen ∧ BytesV v1 W l1 ∧ Bytes l1 ∧ l1.length ≤ maxLen := by
  unfold Value.okWide at hv
  rw [Try.underlying33] at hv
  obtain ⟨cs, rfl, hsz, _⟩ := hv
  rw [c_p2] at hsz
  obtain ⟨fuel, hf0⟩ := h
  have hf : DataW.trod enc Try.prog W base sp held fuel 33 cs.toList = some (d, p) := hf0
  obtain ⟨xs, m, _, hx, hlen, hn, hel⟩ := DataW.trod_array Try.underlying33 hf
  match xs, hn with
  | [x0, x1], _ =>
    have h0 := hel 0 (by decide)
    have h1 := hel 1 (by decide)
    rw [cbytes] at h0 h1
    obtain ⟨v0, l0, e0, a0, b0, c0⟩ := bytes_cells h0
    obtain ⟨v1, l1, e1, a1, b1, c1⟩ := bytes_cells h1
    refine ⟨v0, v1, l0, l1, ?_, a0, b0, c0, a1, b1, c1⟩
    congr 1
    apply Array.toList_inj.1
    have e : cs.toList = (cs.toList.drop (0 * 1)).take 1 ++ (cs.toList.drop (1 * 1)).take 1 := by
      have e2 : (cs.toList.drop (1 * 1)).take 1 = cs.toList.drop 1 := List.take_of_length_le (by simp; omega)
      rw [e2]
      exact (List.take_append_drop 1 cs.toList).symm
    rw [e0, e1] at e
    exact e
theorem open_two6 {H : Type} {enc : TypeId × Value → H} {W : World} {r : Reach} {b0 base : Nat} {sp : Nat → Bool} {held : Bool} {v : Value} {d : DataW H} {p : List MemPlace}
    (hv : Value.okWide Try.prog W r b0 30 v) (h : DataW.Trod enc Try.prog W base sp held 30 v d p) : ∃ (v0 v1 : Value) (l0 l1 : List Nat) (x y : Nat), v = .agg #[v0, v1, .int .u16 (x : Int), .int .u8 (y : Int)] ∧ BytesV v0 W l0 ∧ Bytes l0 ∧ l0.length ≤ maxLen ∧ BytesV v1 W l1 ∧ Bytes l1 ∧ l1.length ≤ maxLen ∧ x < 65536 ∧ y < 256 := by
  unfold Value.okWide at hv
  rw [Try.underlying30] at hv
  obtain ⟨cs, rfl, hsz, _⟩ := hv
  rw [c_tw] at hsz
  obtain ⟨fuel, hf0⟩ := h
  have hf : DataW.trod enc Try.prog W base sp held fuel 30 cs.toList = some (d, p) := hf0
  obtain ⟨xs, n, _, hx, hl, hlen, hff⟩ := DataW.trod_struct Try.underlying30 hf
  match xs, hlen with
  | [x0, x1, x2, x3], _ =>
    have h0 : DataW.trod enc Try.prog W base sp held n 23 ((cs.toList.drop 0).take (Try.prog.cellsOf 23)) = some x0 := hff 0 _ rfl
    have h1 : DataW.trod enc Try.prog W base sp held n 23 ((cs.toList.drop 1).take (Try.prog.cellsOf 23)) = some x1 := hff 1 _ rfl
    have h2 : DataW.trod enc Try.prog W base sp held n 28 ((cs.toList.drop 2).take (Try.prog.cellsOf 28)) = some x2 := hff 2 _ rfl
    have h3 : DataW.trod enc Try.prog W base sp held n 5 ((cs.toList.drop 3).take (Try.prog.cellsOf 5)) = some x3 := hff 3 _ rfl
    rw [cbytes] at h0 h1
    rw [c_u16b] at h2
    rw [cu8] at h3
    obtain ⟨v0, l0, e0, a0, b0, c0⟩ := bytes_cells h0
    obtain ⟨v1, l1, e1, a1, b1, c1⟩ := bytes_cells h1
    obtain ⟨z2, e2, _, w2⟩ := DataW.trod_int Try.underlying28 h2
    obtain ⟨z3, e3, _, w3⟩ := DataW.trod_int Try.underlying5 h3
    have g2 := bounds_u16 w2
    have g3 := bounds_u8 w3
    refine ⟨v0, v1, l0, l1, z2.toNat, z3.toNat, ?_, a0, b0, c0, a1, b1, c1, by omega, by omega⟩
    rw [Int.toNat_of_nonneg g2.1, Int.toNat_of_nonneg g3.1]
    congr 1
    apply Array.toList_inj.1
    have e : cs.toList = (cs.toList.drop 0).take 1 ++ ((cs.toList.drop 1).take 1 ++ ((cs.toList.drop 2).take 1 ++ (cs.toList.drop 3).take 1)) := by
      have k3 : (cs.toList.drop 3).take 1 = (cs.toList.drop 2).drop 1 := by rw [List.drop_drop]; exact List.take_of_length_le (by simp; omega)
      have k2 : cs.toList.drop 2 = (cs.toList.drop 1).drop 1 := by rw [List.drop_drop]
      rw [k3, List.take_append_drop, k2, List.take_append_drop, List.drop_zero, List.take_append_drop]
    rw [e0, e1, e2, e3] at e
    exact e
end Go.Proofs.Ytfcinakpdnblfaa.sh
