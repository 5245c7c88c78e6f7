/-
  DERIVED. GIVEN WITH THE SEED: THE CARDS: each row of YthnkipicehppmaaDoorRows.lean that lists a variable, with what it lists TIED to the program's text (the seventh form; the later family's looks); each row that meets fmt, with fmt's text TOLD by the authors' own Lean function (tested against real Go, not proved from fmt's source: count such statements apart). THE CARD IS WHAT COUNTS. Prove the row's statement (the work); the ties are given (YthnkipicehppmaaDoorTie.lean); close each card by the builder's one call (the guide's Derived/Test/ToyasCard.lean, 'card_holds'). Laid BY PROGRAM, IN A SANDBOX (cutbox-door.mjs). By AI agents, Wed Nov 11 2026. No macro, syntax, notation, axiom, sorry.
-/
import Derived.Test.YthnkipicehppmaaDoorRows
import GoSem.ClaimSeven
namespace Go.Proofs.YthnkipicehppmaaDoor
namespace Rows

/-- THE TIED CARD OF 'signetringlaw04.MacTells'. -/
def macTellsCard : Claim7 := { stood := { row := macTellsRow, standIns := [], harness := (true, "32aca75a05a6ce71eb77171111a20c125d82950c6fc43c55d5711cd9d97bcf43"), looks := false }, kinds := [], alts := [], laidByText := true, laidKinds := [.data], laidTests := true, laidLooks := .later }
def MacTellsCardSaid : Prop := Claim7.holds Tryd.pinned (.plain (OpenSpec.ofChange macTellsSpec)) macTellsCard

/-- THE TIED CARD OF 'signetringlaw04.MacExpands'. -/
def macExpandsCard : Claim7 := { stood := { row := macExpandsRow, standIns := [], harness := (true, "32aca75a05a6ce71eb77171111a20c125d82950c6fc43c55d5711cd9d97bcf43"), looks := false }, kinds := [], alts := [], laidByText := true, laidKinds := [.data], laidTests := true, laidLooks := .later }
def MacExpandsCardSaid : Prop := Claim7.holds Tryd.pinned (.plain (OpenSpec.ofChange macExpandsSpec)) macExpandsCard

/-- THE TIED CARD OF 'signetringlaw04.MacBeginnings'. -/
def macBeginningsCard : Claim7 := { stood := { row := macBeginningsRow, standIns := [], harness := (true, "32aca75a05a6ce71eb77171111a20c125d82950c6fc43c55d5711cd9d97bcf43"), looks := false }, kinds := [], alts := [], laidByText := true, laidKinds := [.data], laidTests := true, laidLooks := .later }
def MacBeginningsCardSaid : Prop := Claim7.holds Tryd.pinned (.plain (OpenSpec.ofChange macBeginningsSpec)) macBeginningsCard

/-- THE TIED CARD OF 'signetringlaw04.MacFilled'. -/
def macFilledCard : Claim7 := { stood := { row := macFilledRow, standIns := [], harness := (true, "32aca75a05a6ce71eb77171111a20c125d82950c6fc43c55d5711cd9d97bcf43"), looks := false }, kinds := [], alts := [], laidByText := true, laidKinds := [.data], laidTests := true, laidLooks := .later }
def MacFilledCardSaid : Prop := Claim7.holds Tryd.pinned (.plain (OpenSpec.ofChange macFilledSpec)) macFilledCard

/-- THE TIED CARD OF 'signetringlaw04.MacLong'. -/
def macLongCard : Claim7 := { stood := { row := macLongRow, standIns := [], harness := (true, "32aca75a05a6ce71eb77171111a20c125d82950c6fc43c55d5711cd9d97bcf43"), looks := false }, kinds := [], alts := [], laidByText := true, laidKinds := [.data], laidTests := true, laidLooks := .later }
def MacLongCardSaid : Prop := Claim7.holds Tryd.pinned (.plain (OpenSpec.ofChange macLongSpec)) macLongCard

/-- THE TIED CARD OF 'signetringlaw04.MacPieces'. -/
def macPiecesCard : Claim7 := { stood := { row := macPiecesRow, standIns := [], harness := (true, "32aca75a05a6ce71eb77171111a20c125d82950c6fc43c55d5711cd9d97bcf43"), looks := false }, kinds := [], alts := [], laidByText := true, laidKinds := [.data], laidTests := true, laidLooks := .later }
def MacPiecesCardSaid : Prop := Claim7.holds Tryd.pinned (.plain (OpenSpec.ofChange macPiecesSpec)) macPiecesCard

/-- THE TIED CARD OF 'signetringlaw04.MacKeys'. -/
def macKeysCard : Claim7 := { stood := { row := macKeysRow, standIns := [], harness := (true, "32aca75a05a6ce71eb77171111a20c125d82950c6fc43c55d5711cd9d97bcf43"), looks := false }, kinds := [], alts := [], laidByText := true, laidKinds := [.data], laidTests := true, laidLooks := .later }
def MacKeysCardSaid : Prop := Claim7.holds Tryd.pinned (.plain (OpenSpec.ofChange macKeysSpec)) macKeysCard

/-- THE SECOND FORM's CARD OF 'signetringlaw04.MacTells'. -/
def macTellsUptoCard : Claim7 := { stood := { row := macTellsUptoRow, standIns := [], harness := (true, "32aca75a05a6ce71eb77171111a20c125d82950c6fc43c55d5711cd9d97bcf43"), looks := false }, kinds := [], alts := [], laidByText := true, laidKinds := [.data], laidTests := true, laidLooks := .later }
def MacTellsUptoCardSaid : Prop := Claim7.holds Tryd.pinned (.plain (OpenSpec.upto macTellsSpec)) macTellsUptoCard

/-- THE SECOND FORM's CARD OF 'signetringlaw04.MacExpands'. -/
def macExpandsUptoCard : Claim7 := { stood := { row := macExpandsUptoRow, standIns := [], harness := (true, "32aca75a05a6ce71eb77171111a20c125d82950c6fc43c55d5711cd9d97bcf43"), looks := false }, kinds := [], alts := [], laidByText := true, laidKinds := [.data], laidTests := true, laidLooks := .later }
def MacExpandsUptoCardSaid : Prop := Claim7.holds Tryd.pinned (.plain (OpenSpec.upto macExpandsSpec)) macExpandsUptoCard

/-- THE SECOND FORM's CARD OF 'signetringlaw04.MacBeginnings'. -/
def macBeginningsUptoCard : Claim7 := { stood := { row := macBeginningsUptoRow, standIns := [], harness := (true, "32aca75a05a6ce71eb77171111a20c125d82950c6fc43c55d5711cd9d97bcf43"), looks := false }, kinds := [], alts := [], laidByText := true, laidKinds := [.data], laidTests := true, laidLooks := .later }
def MacBeginningsUptoCardSaid : Prop := Claim7.holds Tryd.pinned (.plain (OpenSpec.upto macBeginningsSpec)) macBeginningsUptoCard

/-- THE SECOND FORM's CARD OF 'signetringlaw04.MacFilled'. -/
def macFilledUptoCard : Claim7 := { stood := { row := macFilledUptoRow, standIns := [], harness := (true, "32aca75a05a6ce71eb77171111a20c125d82950c6fc43c55d5711cd9d97bcf43"), looks := false }, kinds := [], alts := [], laidByText := true, laidKinds := [.data], laidTests := true, laidLooks := .later }
def MacFilledUptoCardSaid : Prop := Claim7.holds Tryd.pinned (.plain (OpenSpec.upto macFilledSpec)) macFilledUptoCard

/-- THE SECOND FORM's CARD OF 'signetringlaw04.MacLong'. -/
def macLongUptoCard : Claim7 := { stood := { row := macLongUptoRow, standIns := [], harness := (true, "32aca75a05a6ce71eb77171111a20c125d82950c6fc43c55d5711cd9d97bcf43"), looks := false }, kinds := [], alts := [], laidByText := true, laidKinds := [.data], laidTests := true, laidLooks := .later }
def MacLongUptoCardSaid : Prop := Claim7.holds Tryd.pinned (.plain (OpenSpec.upto macLongSpec)) macLongUptoCard

/-- THE SECOND FORM's CARD OF 'signetringlaw04.MacPieces'. -/
def macPiecesUptoCard : Claim7 := { stood := { row := macPiecesUptoRow, standIns := [], harness := (true, "32aca75a05a6ce71eb77171111a20c125d82950c6fc43c55d5711cd9d97bcf43"), looks := false }, kinds := [], alts := [], laidByText := true, laidKinds := [.data], laidTests := true, laidLooks := .later }
def MacPiecesUptoCardSaid : Prop := Claim7.holds Tryd.pinned (.plain (OpenSpec.upto macPiecesSpec)) macPiecesUptoCard

/-- THE SECOND FORM's CARD OF 'signetringlaw04.MacKeys'. -/
def macKeysUptoCard : Claim7 := { stood := { row := macKeysUptoRow, standIns := [], harness := (true, "32aca75a05a6ce71eb77171111a20c125d82950c6fc43c55d5711cd9d97bcf43"), looks := false }, kinds := [], alts := [], laidByText := true, laidKinds := [.data], laidTests := true, laidLooks := .later }
def MacKeysUptoCardSaid : Prop := Claim7.holds Tryd.pinned (.plain (OpenSpec.upto macKeysSpec)) macKeysUptoCard
end Rows
end Go.Proofs.YthnkipicehppmaaDoor
