/-
  DERIVED. GIVEN WITH THE SEED: THE CARDS: each row of YtainefilkccemaaDoorRows.lean that lists a variable, with what it lists TIED to the program's text (the seventh form; the later family's looks); each row that meets fmt, with fmt's text TOLD by the authors' own Lean function (tested against real Go, not proved from fmt's source: count such statements apart). THE CARD IS WHAT COUNTS. Prove the row's statement (the work); the ties are given (YtainefilkccemaaDoorTie.lean); close each card by the builder's one call (the guide's Derived/Test/ToyasCard.lean, 'card_holds'). Laid BY PROGRAM, IN A SANDBOX (cutbox-door.mjs). By AI agents, Wed Nov 11 2026. No macro, syntax, notation, axiom, sorry.
-/
import Derived.Test.YtainefilkccemaaDoorRows
import GoSem.ClaimSeven
namespace Go.Proofs.YtainefilkccemaaDoor
namespace Rows

/-- THE TIED CARD OF 'signetringlaw01.LimbTells'. -/
def limbTellsCard : Claim7 := { stood := { row := limbTellsRow, standIns := [], harness := (true, "f595a94ddf7df7e4f83a6a2b27559839aae4ed05e42f0a7fa31e853571c534ab"), looks := false }, kinds := [], alts := [], laidByText := true, laidKinds := [.data], laidTests := true, laidLooks := .later }
def LimbTellsCardSaid : Prop := Claim7.holds Tryd.pinned (.plain (OpenSpec.ofChange limbTellsSpec)) limbTellsCard

/-- THE TIED CARD OF 'signetringlaw01.LimbInverts'. -/
def limbInvertsCard : Claim7 := { stood := { row := limbInvertsRow, standIns := [], harness := (true, "f595a94ddf7df7e4f83a6a2b27559839aae4ed05e42f0a7fa31e853571c534ab"), looks := false }, kinds := [], alts := [], laidByText := true, laidKinds := [.data], laidTests := true, laidLooks := .later }
def LimbInvertsCardSaid : Prop := Claim7.holds Tryd.pinned (.plain (OpenSpec.ofChange limbInvertsSpec)) limbInvertsCard

/-- THE TIED CARD OF 'signetringlaw01.LimbField'. -/
def limbFieldCard : Claim7 := { stood := { row := limbFieldRow, standIns := [], harness := (true, "f595a94ddf7df7e4f83a6a2b27559839aae4ed05e42f0a7fa31e853571c534ab"), looks := false }, kinds := [], alts := [], laidByText := true, laidKinds := [.data], laidTests := true, laidLooks := .later }
def LimbFieldCardSaid : Prop := Claim7.holds Tryd.pinned (.plain (OpenSpec.ofChange limbFieldSpec)) limbFieldCard

/-- THE TIED CARD OF 'signetringlaw01.LimbBelow'. -/
def limbBelowCard : Claim7 := { stood := { row := limbBelowRow, standIns := [], harness := (true, "f595a94ddf7df7e4f83a6a2b27559839aae4ed05e42f0a7fa31e853571c534ab"), looks := false }, kinds := [], alts := [], laidByText := true, laidKinds := [.data], laidTests := true, laidLooks := .later }
def LimbBelowCardSaid : Prop := Claim7.holds Tryd.pinned (.plain (OpenSpec.ofChange limbBelowSpec)) limbBelowCard

/-- THE TIED CARD OF 'signetringlaw01.LimbProducts'. -/
def limbProductsCard : Claim7 := { stood := { row := limbProductsRow, standIns := [], harness := (true, "f595a94ddf7df7e4f83a6a2b27559839aae4ed05e42f0a7fa31e853571c534ab"), looks := false }, kinds := [], alts := [], laidByText := true, laidKinds := [.data], laidTests := true, laidLooks := .later }
def LimbProductsCardSaid : Prop := Claim7.holds Tryd.pinned (.plain (OpenSpec.ofChange limbProductsSpec)) limbProductsCard

/-- THE TIED CARD OF 'signetringlaw01.LimbSquares'. -/
def limbSquaresCard : Claim7 := { stood := { row := limbSquaresRow, standIns := [], harness := (true, "f595a94ddf7df7e4f83a6a2b27559839aae4ed05e42f0a7fa31e853571c534ab"), looks := false }, kinds := [], alts := [], laidByText := true, laidKinds := [.data], laidTests := true, laidLooks := .later }
def LimbSquaresCardSaid : Prop := Claim7.holds Tryd.pinned (.plain (OpenSpec.ofChange limbSquaresSpec)) limbSquaresCard

/-- THE TIED CARD OF 'signetringlaw01.LimbSums'. -/
def limbSumsCard : Claim7 := { stood := { row := limbSumsRow, standIns := [], harness := (true, "f595a94ddf7df7e4f83a6a2b27559839aae4ed05e42f0a7fa31e853571c534ab"), looks := false }, kinds := [], alts := [], laidByText := true, laidKinds := [.data], laidTests := true, laidLooks := .later }
def LimbSumsCardSaid : Prop := Claim7.holds Tryd.pinned (.plain (OpenSpec.ofChange limbSumsSpec)) limbSumsCard

/-- THE TIED CARD OF 'signetringlaw01.LimbQuotients'. -/
def limbQuotientsCard : Claim7 := { stood := { row := limbQuotientsRow, standIns := [], harness := (true, "f595a94ddf7df7e4f83a6a2b27559839aae4ed05e42f0a7fa31e853571c534ab"), looks := false }, kinds := [], alts := [], laidByText := true, laidKinds := [.data], laidTests := true, laidLooks := .later }
def LimbQuotientsCardSaid : Prop := Claim7.holds Tryd.pinned (.plain (OpenSpec.ofChange limbQuotientsSpec)) limbQuotientsCard

/-- THE SECOND FORM's CARD OF 'signetringlaw01.LimbTells'. -/
def limbTellsUptoCard : Claim7 := { stood := { row := limbTellsUptoRow, standIns := [], harness := (true, "f595a94ddf7df7e4f83a6a2b27559839aae4ed05e42f0a7fa31e853571c534ab"), looks := false }, kinds := [], alts := [], laidByText := true, laidKinds := [.data], laidTests := true, laidLooks := .later }
def LimbTellsUptoCardSaid : Prop := Claim7.holds Tryd.pinned (.plain (OpenSpec.upto limbTellsSpec)) limbTellsUptoCard

/-- THE SECOND FORM's CARD OF 'signetringlaw01.LimbInverts'. -/
def limbInvertsUptoCard : Claim7 := { stood := { row := limbInvertsUptoRow, standIns := [], harness := (true, "f595a94ddf7df7e4f83a6a2b27559839aae4ed05e42f0a7fa31e853571c534ab"), looks := false }, kinds := [], alts := [], laidByText := true, laidKinds := [.data], laidTests := true, laidLooks := .later }
def LimbInvertsUptoCardSaid : Prop := Claim7.holds Tryd.pinned (.plain (OpenSpec.upto limbInvertsSpec)) limbInvertsUptoCard

/-- THE SECOND FORM's CARD OF 'signetringlaw01.LimbField'. -/
def limbFieldUptoCard : Claim7 := { stood := { row := limbFieldUptoRow, standIns := [], harness := (true, "f595a94ddf7df7e4f83a6a2b27559839aae4ed05e42f0a7fa31e853571c534ab"), looks := false }, kinds := [], alts := [], laidByText := true, laidKinds := [.data], laidTests := true, laidLooks := .later }
def LimbFieldUptoCardSaid : Prop := Claim7.holds Tryd.pinned (.plain (OpenSpec.upto limbFieldSpec)) limbFieldUptoCard

/-- THE SECOND FORM's CARD OF 'signetringlaw01.LimbBelow'. -/
def limbBelowUptoCard : Claim7 := { stood := { row := limbBelowUptoRow, standIns := [], harness := (true, "f595a94ddf7df7e4f83a6a2b27559839aae4ed05e42f0a7fa31e853571c534ab"), looks := false }, kinds := [], alts := [], laidByText := true, laidKinds := [.data], laidTests := true, laidLooks := .later }
def LimbBelowUptoCardSaid : Prop := Claim7.holds Tryd.pinned (.plain (OpenSpec.upto limbBelowSpec)) limbBelowUptoCard

/-- THE SECOND FORM's CARD OF 'signetringlaw01.LimbProducts'. -/
def limbProductsUptoCard : Claim7 := { stood := { row := limbProductsUptoRow, standIns := [], harness := (true, "f595a94ddf7df7e4f83a6a2b27559839aae4ed05e42f0a7fa31e853571c534ab"), looks := false }, kinds := [], alts := [], laidByText := true, laidKinds := [.data], laidTests := true, laidLooks := .later }
def LimbProductsUptoCardSaid : Prop := Claim7.holds Tryd.pinned (.plain (OpenSpec.upto limbProductsSpec)) limbProductsUptoCard

/-- THE SECOND FORM's CARD OF 'signetringlaw01.LimbSquares'. -/
def limbSquaresUptoCard : Claim7 := { stood := { row := limbSquaresUptoRow, standIns := [], harness := (true, "f595a94ddf7df7e4f83a6a2b27559839aae4ed05e42f0a7fa31e853571c534ab"), looks := false }, kinds := [], alts := [], laidByText := true, laidKinds := [.data], laidTests := true, laidLooks := .later }
def LimbSquaresUptoCardSaid : Prop := Claim7.holds Tryd.pinned (.plain (OpenSpec.upto limbSquaresSpec)) limbSquaresUptoCard

/-- THE SECOND FORM's CARD OF 'signetringlaw01.LimbSums'. -/
def limbSumsUptoCard : Claim7 := { stood := { row := limbSumsUptoRow, standIns := [], harness := (true, "f595a94ddf7df7e4f83a6a2b27559839aae4ed05e42f0a7fa31e853571c534ab"), looks := false }, kinds := [], alts := [], laidByText := true, laidKinds := [.data], laidTests := true, laidLooks := .later }
def LimbSumsUptoCardSaid : Prop := Claim7.holds Tryd.pinned (.plain (OpenSpec.upto limbSumsSpec)) limbSumsUptoCard

/-- THE SECOND FORM's CARD OF 'signetringlaw01.LimbQuotients'. -/
def limbQuotientsUptoCard : Claim7 := { stood := { row := limbQuotientsUptoRow, standIns := [], harness := (true, "f595a94ddf7df7e4f83a6a2b27559839aae4ed05e42f0a7fa31e853571c534ab"), looks := false }, kinds := [], alts := [], laidByText := true, laidKinds := [.data], laidTests := true, laidLooks := .later }
def LimbQuotientsUptoCardSaid : Prop := Claim7.holds Tryd.pinned (.plain (OpenSpec.upto limbQuotientsSpec)) limbQuotientsUptoCard
end Rows
end Go.Proofs.YtainefilkccemaaDoor
