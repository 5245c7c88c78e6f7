/-
  General pieces, joined: D7.
-/
import Derived.Test.YtjkdonjcngmjeaaDoorG08
/-
  What the ladder's Pub and Shared answer; the answers that the document fixes for the ladder.
-/
namespace Go.Proofs.YtjkdonjcngmjeaaDoor
open Go Go.RowKit
set_option linter.unusedVariables false
set_option linter.unusedSimpArgs false

theorem b9 (w : World) : (Instr.build 22 #[(0, .int .u8 ((9 : Nat) : Int))]).run Tryd.prog w = .ok (.agg (numA 9)) w := by kernel_rfl
end Go.Proofs.YtjkdonjcngmjeaaDoor
