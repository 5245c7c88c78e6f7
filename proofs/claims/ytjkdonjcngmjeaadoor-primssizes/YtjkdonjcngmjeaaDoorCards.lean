/-
  DERIVED. GIVEN WITH THE SEED: THE CARDS: each row of YtjkdonjcngmjeaaDoorRows.lean that lists a variable, with what it lists TIED to the program's text (the seventh form; the later family's looks); each row that meets fmt, with fmt's text TOLD by the authors' own Lean function (tested against real Go, not proved from fmt's source: count such statements apart). THE CARD IS WHAT COUNTS. Prove the row's statement (the work); the ties are given (YtjkdonjcngmjeaaDoorTie.lean); close each card by the builder's one call (the guide's Derived/Test/ToyasCard.lean, 'card_holds'). Laid BY PROGRAM, IN A SANDBOX (cutbox-door.mjs). By AI agents, Wed Nov 11 2026. No macro, syntax, notation, axiom, sorry.
-/
import Derived.Test.YtjkdonjcngmjeaaDoorRows
import GoSem.ClaimSeven
namespace Go.Proofs.YtjkdonjcngmjeaaDoor
namespace Rows

/-- THE TIED CARD OF 'signetringlaw11.PrimsSizes'. -/
def primsSizesCard : Claim7 := { stood := { row := primsSizesRow, standIns := [], harness := (true, "9babd8760ce0b572c4a92e6d99d40c98e2abb41dae3ec8a74d94bd43aaba3585"), looks := false }, kinds := [], alts := [], laidByText := true, laidKinds := [.data], laidTests := true, laidLooks := .later }
def PrimsSizesCardSaid : Prop := Claim7.holds Tryd.pinned (.plain (OpenSpec.ofChange primsSizesSpec)) primsSizesCard

/-- THE SECOND FORM's CARD OF 'signetringlaw11.PrimsSizes'. -/
def primsSizesUptoCard : Claim7 := { stood := { row := primsSizesUptoRow, standIns := [], harness := (true, "9babd8760ce0b572c4a92e6d99d40c98e2abb41dae3ec8a74d94bd43aaba3585"), looks := false }, kinds := [], alts := [], laidByText := true, laidKinds := [.data], laidTests := true, laidLooks := .later }
def PrimsSizesUptoCardSaid : Prop := Claim7.holds Tryd.pinned (.plain (OpenSpec.upto primsSizesSpec)) primsSizesUptoCard
end Rows
end Go.Proofs.YtjkdonjcngmjeaaDoor
