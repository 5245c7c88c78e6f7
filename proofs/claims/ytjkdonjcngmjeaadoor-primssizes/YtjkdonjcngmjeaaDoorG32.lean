/-
  General pieces, joined: MI.
-/
import Derived.Test.YtjkdonjcngmjeaaDoorG31
/-
  The statements' few and key.
-/
namespace Go.Proofs.YtjkdonjcngmjeaaDoor.sh
open Go Go.RowKit
set_option linter.unusedVariables false
set_option linter.unusedSimpArgs false

def Few (A B C T : List Nat) : Prop := A.length ≤ 1000 ∧ B.length ≤ 1000 ∧ C.length ≤ 1000 ∧ T.length ≤ 1000
instance (A B C T : List Nat) : Decidable (Few A B C T) := by unfold Few; infer_instance

end Go.Proofs.YtjkdonjcngmjeaaDoor.sh
