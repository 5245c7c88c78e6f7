/-
  DERIVED. GIVEN WITH THE SEED: THE CARDS: each row of YtniogaimhkcedaaDoorRows.lean that lists a variable, with what it lists TIED to the program's text (the seventh form; the later family's looks); each row that meets fmt, with fmt's text TOLD by the authors' own Lean function (tested against real Go, not proved from fmt's source: count such statements apart). THE CARD IS WHAT COUNTS. Prove the row's statement (the work); the ties are given (YtniogaimhkcedaaDoorTie.lean); close each card by the builder's one call (the guide's Derived/Test/ToyasCard.lean, 'card_holds'). Laid BY PROGRAM, IN A SANDBOX (cutbox-door.mjs). By AI agents, Wed Nov 11 2026. No macro, syntax, notation, axiom, sorry.
-/
import Derived.Test.YtniogaimhkcedaaDoorRows
import GoSem.ClaimSeven
namespace Go.Proofs.YtniogaimhkcedaaDoor
namespace Rows

/-- THE TIED CARD OF 'signetringlaw10.KnowTells'. -/
def knowTellsCard : Claim7 := { stood := { row := knowTellsRow, standIns := [], harness := (true, "fbf4265afaa266d17b581a6483a5494581eb3fdf34f2e98cf41eb808bd233100"), looks := false }, kinds := [], alts := [], laidByText := true, laidKinds := [.data, .pinned], laidTests := true, laidLooks := .later }
def KnowTellsCardSaid : Prop := Claim7.holds Tryd.pinned (.plain (OpenSpec.ofChange knowTellsSpec)) knowTellsCard

/-- THE TIED CARD OF 'signetringlaw10.KnowMore'. -/
def knowMoreCard : Claim7 := { stood := { row := knowMoreRow, standIns := [], harness := (true, "fbf4265afaa266d17b581a6483a5494581eb3fdf34f2e98cf41eb808bd233100"), looks := false }, kinds := [], alts := [], laidByText := true, laidKinds := [.data, .pinned], laidTests := true, laidLooks := .later }
def KnowMoreCardSaid : Prop := Claim7.holds Tryd.pinned (.plain (OpenSpec.ofChange knowMoreSpec)) knowMoreCard

/-- THE TIED CARD OF 'signetringlaw10.KnowNothing'. -/
def knowNothingCard : Claim7 := { stood := { row := knowNothingRow, standIns := [], harness := (true, "fbf4265afaa266d17b581a6483a5494581eb3fdf34f2e98cf41eb808bd233100"), looks := false }, kinds := [], alts := [], laidByText := true, laidKinds := [.data, .pinned], laidTests := true, laidLooks := .later }
def KnowNothingCardSaid : Prop := Claim7.holds Tryd.pinned (.plain (OpenSpec.ofChange knowNothingSpec)) knowNothingCard

/-- THE TIED CARD OF 'signetringlaw10.KnowBoxes'. -/
def knowBoxesCard : Claim7 := { stood := { row := knowBoxesRow, standIns := [], harness := (true, "fbf4265afaa266d17b581a6483a5494581eb3fdf34f2e98cf41eb808bd233100"), looks := false }, kinds := [], alts := [], laidByText := true, laidKinds := [.data, .pinned], laidTests := true, laidLooks := .later }
def KnowBoxesCardSaid : Prop := Claim7.holds Tryd.pinned (.plain (OpenSpec.ofChange knowBoxesSpec)) knowBoxesCard

/-- THE TIED CARD OF 'signetringlaw10.KnowShared'. -/
def knowSharedCard : Claim7 := { stood := { row := knowSharedRow, standIns := [], harness := (true, "fbf4265afaa266d17b581a6483a5494581eb3fdf34f2e98cf41eb808bd233100"), looks := false }, kinds := [], alts := [], laidByText := true, laidKinds := [.data, .pinned], laidTests := true, laidLooks := .later }
def KnowSharedCardSaid : Prop := Claim7.holds Tryd.pinned (.plain (OpenSpec.ofChange knowSharedSpec)) knowSharedCard

/-- THE TIED CARD OF 'signetringlaw10.KnowHashes'. -/
def knowHashesCard : Claim7 := { stood := { row := knowHashesRow, standIns := [], harness := (true, "fbf4265afaa266d17b581a6483a5494581eb3fdf34f2e98cf41eb808bd233100"), looks := false }, kinds := [], alts := [], laidByText := true, laidKinds := [.data, .pinned], laidTests := true, laidLooks := .later }
def KnowHashesCardSaid : Prop := Claim7.holds Tryd.pinned (.plain (OpenSpec.ofChange knowHashesSpec)) knowHashesCard

/-- THE SECOND FORM's CARD OF 'signetringlaw10.KnowTells'. -/
def knowTellsUptoCard : Claim7 := { stood := { row := knowTellsUptoRow, standIns := [], harness := (true, "fbf4265afaa266d17b581a6483a5494581eb3fdf34f2e98cf41eb808bd233100"), looks := false }, kinds := [], alts := [], laidByText := true, laidKinds := [.data, .pinned], laidTests := true, laidLooks := .later }
def KnowTellsUptoCardSaid : Prop := Claim7.holds Tryd.pinned (.plain (OpenSpec.upto knowTellsSpec)) knowTellsUptoCard

/-- THE SECOND FORM's CARD OF 'signetringlaw10.KnowMore'. -/
def knowMoreUptoCard : Claim7 := { stood := { row := knowMoreUptoRow, standIns := [], harness := (true, "fbf4265afaa266d17b581a6483a5494581eb3fdf34f2e98cf41eb808bd233100"), looks := false }, kinds := [], alts := [], laidByText := true, laidKinds := [.data, .pinned], laidTests := true, laidLooks := .later }
def KnowMoreUptoCardSaid : Prop := Claim7.holds Tryd.pinned (.plain (OpenSpec.upto knowMoreSpec)) knowMoreUptoCard

/-- THE SECOND FORM's CARD OF 'signetringlaw10.KnowNothing'. -/
def knowNothingUptoCard : Claim7 := { stood := { row := knowNothingUptoRow, standIns := [], harness := (true, "fbf4265afaa266d17b581a6483a5494581eb3fdf34f2e98cf41eb808bd233100"), looks := false }, kinds := [], alts := [], laidByText := true, laidKinds := [.data, .pinned], laidTests := true, laidLooks := .later }
def KnowNothingUptoCardSaid : Prop := Claim7.holds Tryd.pinned (.plain (OpenSpec.upto knowNothingSpec)) knowNothingUptoCard

/-- THE SECOND FORM's CARD OF 'signetringlaw10.KnowBoxes'. -/
def knowBoxesUptoCard : Claim7 := { stood := { row := knowBoxesUptoRow, standIns := [], harness := (true, "fbf4265afaa266d17b581a6483a5494581eb3fdf34f2e98cf41eb808bd233100"), looks := false }, kinds := [], alts := [], laidByText := true, laidKinds := [.data, .pinned], laidTests := true, laidLooks := .later }
def KnowBoxesUptoCardSaid : Prop := Claim7.holds Tryd.pinned (.plain (OpenSpec.upto knowBoxesSpec)) knowBoxesUptoCard

/-- THE SECOND FORM's CARD OF 'signetringlaw10.KnowShared'. -/
def knowSharedUptoCard : Claim7 := { stood := { row := knowSharedUptoRow, standIns := [], harness := (true, "fbf4265afaa266d17b581a6483a5494581eb3fdf34f2e98cf41eb808bd233100"), looks := false }, kinds := [], alts := [], laidByText := true, laidKinds := [.data, .pinned], laidTests := true, laidLooks := .later }
def KnowSharedUptoCardSaid : Prop := Claim7.holds Tryd.pinned (.plain (OpenSpec.upto knowSharedSpec)) knowSharedUptoCard

/-- THE SECOND FORM's CARD OF 'signetringlaw10.KnowHashes'. -/
def knowHashesUptoCard : Claim7 := { stood := { row := knowHashesUptoRow, standIns := [], harness := (true, "fbf4265afaa266d17b581a6483a5494581eb3fdf34f2e98cf41eb808bd233100"), looks := false }, kinds := [], alts := [], laidByText := true, laidKinds := [.data, .pinned], laidTests := true, laidLooks := .later }
def KnowHashesUptoCardSaid : Prop := Claim7.holds Tryd.pinned (.plain (OpenSpec.upto knowHashesSpec)) knowHashesUptoCard
end Rows
end Go.Proofs.YtniogaimhkcedaaDoor
