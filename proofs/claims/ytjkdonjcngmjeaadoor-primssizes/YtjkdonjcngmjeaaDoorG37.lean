/-
  General pieces, joined: MK ML.
-/
import Derived.Test.YtjkdonjcngmjeaaDoorG32
/-
  PrimsTerms, walked.
-/
namespace Go.Proofs.YtjkdonjcngmjeaaDoor.sh
open Go Go.RowKit
set_option linter.unusedVariables false
set_option linter.unusedSimpArgs false

set_option maxRecDepth 100000 in
theorem KeysTb {tb : Nat} {x y : List Nat} {z : Int} {w : World} (hz : z < 1 ∨ 3 < z) :
    Calls Tryd.prog 107 #[.agg #[.pointer (some ⟨tb, 0, none⟩)], .string (strOf x), .string (strOf y), .int .i64 z] w fun e w' => e = .returned (.slice none 0 0) ∧ Below w.heap.size w w' := by
  have Q0 : Kept (Below w.heap.size w (w.alloc (.cells #[.pointer (some ⟨tb, 0, none⟩)] 41))) := ⟨(Below.refl _ _).alloc (Nat.le_refl _) _⟩
  rcases hz with h | h
  · go_enter Tryd.func107, Tryd.ntmps107
    go_wp2_with fail
    go_ret
    exact ⟨rfl, Q0.out⟩
  · have h0 : ¬ z < 1 := by omega
    go_enter Tryd.func107, Tryd.ntmps107
    go_wp2_with fail
    go_ret
    exact ⟨rfl, Q0.out⟩

end Go.Proofs.YtjkdonjcngmjeaaDoor.sh
/-
  Prims of terms: a box is opened.
-/
namespace Go.Proofs.YtjkdonjcngmjeaaDoor.sh
open Go Go.RowKit
set_option linter.unusedVariables false
set_option linter.unusedSimpArgs false

section
variable {P : Program} {h : List Oper} {A0 A : Act} {W0 : World} {S : Nat → Option (Value → World → Prop)} {sp O : List Nat} {E : List (Nat × Nat)} {i : Nat} {o : Oper}
end
end Go.Proofs.YtjkdonjcngmjeaaDoor.sh
