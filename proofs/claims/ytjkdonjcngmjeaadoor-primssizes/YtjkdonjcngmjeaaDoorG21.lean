/-
  General pieces, joined: XC.
-/
import Derived.Test.YtjkdonjcngmjeaaDoorG20
/-
  All rounds of a block, by the program.
-/
namespace Go.Proofs.YtjkdonjcngmjeaaDoor.sh
open Go Go.RowKit
set_option linter.unusedVariables false
set_option linter.unusedSimpArgs false

end Go.Proofs.YtjkdonjcngmjeaaDoor.sh
