/-
  Arguments that are two ints of 16 bits.
-/
import Derived.Test.YthnkipicehppmaaDoorUO
namespace Go.Proofs.YthnkipicehppmaaDoor.sh
open Go Go.ChangeShapes Go.WideShapes Go.ChangeAt Go.RowKit
set_option linter.unusedVariables false
set_option linter.unusedSimpArgs false

theorem c_u16 : Tryd.prog.cellsOf 39 = 1 := by kernel_rfl
theorem c_2 : Tryd.prog.cellsOf 40 = 2 := by kernel_rfl
theorem open_two {H : Type} {enc : TypeId × Value → H} {W : World} {r : Reach} {b0 base : Nat} {sp : Nat → Bool} {held : Bool} {v : Value} {d : DataW H} {p : List MemPlace}
    (hv : Value.okWide Tryd.prog W r b0 40 v) (h : DataW.Trod enc Tryd.prog W base sp held 40 v d p) : ∃ a b : Nat, v = .agg (ints .u16 [a, b]) ∧ a < 65536 ∧ b < 65536 := by
  obtain ⟨l, rfl, hl, hB⟩ := open_arr (B := 65536) Tryd.underlying40 Tryd.underlying39 c_2 c_u16 (fun k hk => by have := bounds_u16 hk; omega) hv h
  match l, hl with
  | [a, b], _ => exact ⟨a, b, rfl, hB 0 a rfl, hB 1 b rfl⟩
end Go.Proofs.YthnkipicehppmaaDoor.sh
