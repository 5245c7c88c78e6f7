/-
  DERIVED. GIVEN WITH THE SEED: THE CARDS: each row of YtkibojjbghopkaaDoorRows.lean that lists a variable, with what it lists TIED to the program's text (the seventh form; the later family's looks); each row that meets fmt, with fmt's text TOLD by the authors' own Lean function (tested against real Go, not proved from fmt's source: count such statements apart). THE CARD IS WHAT COUNTS. Prove the row's statement (the work); the ties are given (YtkibojjbghopkaaDoorTie.lean); close each card by the builder's one call (the guide's Derived/Test/ToyasCard.lean, 'card_holds'). Laid BY PROGRAM, IN A SANDBOX (cutbox-door.mjs). By AI agents, Wed Nov 11 2026. No macro, syntax, notation, axiom, sorry.
-/
import Derived.Test.YtkibojjbghopkaaDoorRows
import GoSem.ClaimSeven
namespace Go.Proofs.YtkibojjbghopkaaDoor
namespace Rows

/-- THE TIED CARD OF 'signetringtop.WholeShared'. -/
def wholeSharedCard : Claim7 := { stood := { row := wholeSharedRow, standIns := [], harness := (true, "82247ed62acfe41d54edc5afe185818b9950c159b5be718dd67b31f7f3dbd81f"), looks := false }, kinds := [], alts := [], laidByText := true, laidKinds := [.data, .data], laidTests := true, laidLooks := .later }
def WholeSharedCardSaid : Prop := Claim7.holds Tryd.pinned (.plain (OpenSpec.ofChange wholeSharedSpec)) wholeSharedCard

/-- THE SECOND FORM's CARD OF 'signetringtop.WholeShared'. -/
def wholeSharedUptoCard : Claim7 := { stood := { row := wholeSharedUptoRow, standIns := [], harness := (true, "82247ed62acfe41d54edc5afe185818b9950c159b5be718dd67b31f7f3dbd81f"), looks := false }, kinds := [], alts := [], laidByText := true, laidKinds := [.data, .data], laidTests := true, laidLooks := .later }
def WholeSharedUptoCardSaid : Prop := Claim7.holds Tryd.pinned (.plain (OpenSpec.upto wholeSharedSpec)) wholeSharedUptoCard
end Rows
end Go.Proofs.YtkibojjbghopkaaDoor
