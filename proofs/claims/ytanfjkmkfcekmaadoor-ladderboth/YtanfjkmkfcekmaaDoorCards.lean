/-
  DERIVED. GIVEN WITH THE SEED: THE CARDS: each row of YtanfjkmkfcekmaaDoorRows.lean that lists a variable, with what it lists TIED to the program's text (the seventh form; the later family's looks); each row that meets fmt, with fmt's text TOLD by the authors' own Lean function (tested against real Go, not proved from fmt's source: count such statements apart). THE CARD IS WHAT COUNTS. Prove the row's statement (the work); the ties are given (YtanfjkmkfcekmaaDoorTie.lean); close each card by the builder's one call (the guide's Derived/Test/ToyasCard.lean, 'card_holds'). Laid BY PROGRAM, IN A SANDBOX (cutbox-door.mjs). By AI agents, Wed Nov 11 2026. No macro, syntax, notation, axiom, sorry.
-/
import Derived.Test.YtanfjkmkfcekmaaDoorRows
import GoSem.ClaimSeven
namespace Go.Proofs.YtanfjkmkfcekmaaDoor
namespace Rows

/-- THE TIED CARD OF 'signetringlaw01.LimbTells'. -/
def limbTellsCard : Claim7 := { stood := { row := limbTellsRow, standIns := [], harness := (true, "70762f21f18e3ad2d05eaf2329b71b19c752d5dea17b64cd7006334d115635f2"), looks := false }, kinds := [], alts := [], laidByText := true, laidKinds := [.data], laidTests := true, laidLooks := .later }
def LimbTellsCardSaid : Prop := Claim7.holds Tryd.pinned (.plain (OpenSpec.ofChange limbTellsSpec)) limbTellsCard

/-- THE TIED CARD OF 'signetringlaw01.LimbInverts'. -/
def limbInvertsCard : Claim7 := { stood := { row := limbInvertsRow, standIns := [], harness := (true, "70762f21f18e3ad2d05eaf2329b71b19c752d5dea17b64cd7006334d115635f2"), looks := false }, kinds := [], alts := [], laidByText := true, laidKinds := [.data], laidTests := true, laidLooks := .later }
def LimbInvertsCardSaid : Prop := Claim7.holds Tryd.pinned (.plain (OpenSpec.ofChange limbInvertsSpec)) limbInvertsCard

/-- THE TIED CARD OF 'signetringlaw01.LimbSums'. -/
def limbSumsCard : Claim7 := { stood := { row := limbSumsRow, standIns := [], harness := (true, "70762f21f18e3ad2d05eaf2329b71b19c752d5dea17b64cd7006334d115635f2"), looks := false }, kinds := [], alts := [], laidByText := true, laidKinds := [.data], laidTests := true, laidLooks := .later }
def LimbSumsCardSaid : Prop := Claim7.holds Tryd.pinned (.plain (OpenSpec.ofChange limbSumsSpec)) limbSumsCard

/-- THE TIED CARD OF 'signetringlaw02.LadderTells'. -/
def ladderTellsCard : Claim7 := { stood := { row := ladderTellsRow, standIns := [], harness := (true, "70762f21f18e3ad2d05eaf2329b71b19c752d5dea17b64cd7006334d115635f2"), looks := false }, kinds := [], alts := [], laidByText := true, laidKinds := [.data], laidTests := true, laidLooks := .later }
def LadderTellsCardSaid : Prop := Claim7.holds Tryd.pinned (.plain (OpenSpec.ofChange ladderTellsSpec)) ladderTellsCard

/-- THE TIED CARD OF 'signetringlaw02.LadderBoth'. -/
def ladderBothCard : Claim7 := { stood := { row := ladderBothRow, standIns := [], harness := (true, "70762f21f18e3ad2d05eaf2329b71b19c752d5dea17b64cd7006334d115635f2"), looks := false }, kinds := [], alts := [], laidByText := true, laidKinds := [.data], laidTests := true, laidLooks := .later }
def LadderBothCardSaid : Prop := Claim7.holds Tryd.pinned (.plain (OpenSpec.ofChange ladderBothSpec)) ladderBothCard

/-- THE TIED CARD OF 'signetringlaw02.LadderRow'. -/
def ladderRowCard : Claim7 := { stood := { row := ladderRowRow, standIns := [], harness := (true, "70762f21f18e3ad2d05eaf2329b71b19c752d5dea17b64cd7006334d115635f2"), looks := false }, kinds := [], alts := [], laidByText := true, laidKinds := [.data], laidTests := true, laidLooks := .later }
def LadderRowCardSaid : Prop := Claim7.holds Tryd.pinned (.plain (OpenSpec.ofChange ladderRowSpec)) ladderRowCard

/-- THE SECOND FORM's CARD OF 'signetringlaw01.LimbTells'. -/
def limbTellsUptoCard : Claim7 := { stood := { row := limbTellsUptoRow, standIns := [], harness := (true, "70762f21f18e3ad2d05eaf2329b71b19c752d5dea17b64cd7006334d115635f2"), looks := false }, kinds := [], alts := [], laidByText := true, laidKinds := [.data], laidTests := true, laidLooks := .later }
def LimbTellsUptoCardSaid : Prop := Claim7.holds Tryd.pinned (.plain (OpenSpec.upto limbTellsSpec)) limbTellsUptoCard

/-- THE SECOND FORM's CARD OF 'signetringlaw01.LimbInverts'. -/
def limbInvertsUptoCard : Claim7 := { stood := { row := limbInvertsUptoRow, standIns := [], harness := (true, "70762f21f18e3ad2d05eaf2329b71b19c752d5dea17b64cd7006334d115635f2"), looks := false }, kinds := [], alts := [], laidByText := true, laidKinds := [.data], laidTests := true, laidLooks := .later }
def LimbInvertsUptoCardSaid : Prop := Claim7.holds Tryd.pinned (.plain (OpenSpec.upto limbInvertsSpec)) limbInvertsUptoCard

/-- THE SECOND FORM's CARD OF 'signetringlaw01.LimbSums'. -/
def limbSumsUptoCard : Claim7 := { stood := { row := limbSumsUptoRow, standIns := [], harness := (true, "70762f21f18e3ad2d05eaf2329b71b19c752d5dea17b64cd7006334d115635f2"), looks := false }, kinds := [], alts := [], laidByText := true, laidKinds := [.data], laidTests := true, laidLooks := .later }
def LimbSumsUptoCardSaid : Prop := Claim7.holds Tryd.pinned (.plain (OpenSpec.upto limbSumsSpec)) limbSumsUptoCard

/-- THE SECOND FORM's CARD OF 'signetringlaw02.LadderTells'. -/
def ladderTellsUptoCard : Claim7 := { stood := { row := ladderTellsUptoRow, standIns := [], harness := (true, "70762f21f18e3ad2d05eaf2329b71b19c752d5dea17b64cd7006334d115635f2"), looks := false }, kinds := [], alts := [], laidByText := true, laidKinds := [.data], laidTests := true, laidLooks := .later }
def LadderTellsUptoCardSaid : Prop := Claim7.holds Tryd.pinned (.plain (OpenSpec.upto ladderTellsSpec)) ladderTellsUptoCard

/-- THE SECOND FORM's CARD OF 'signetringlaw02.LadderBoth'. -/
def ladderBothUptoCard : Claim7 := { stood := { row := ladderBothUptoRow, standIns := [], harness := (true, "70762f21f18e3ad2d05eaf2329b71b19c752d5dea17b64cd7006334d115635f2"), looks := false }, kinds := [], alts := [], laidByText := true, laidKinds := [.data], laidTests := true, laidLooks := .later }
def LadderBothUptoCardSaid : Prop := Claim7.holds Tryd.pinned (.plain (OpenSpec.upto ladderBothSpec)) ladderBothUptoCard

/-- THE SECOND FORM's CARD OF 'signetringlaw02.LadderRow'. -/
def ladderRowUptoCard : Claim7 := { stood := { row := ladderRowUptoRow, standIns := [], harness := (true, "70762f21f18e3ad2d05eaf2329b71b19c752d5dea17b64cd7006334d115635f2"), looks := false }, kinds := [], alts := [], laidByText := true, laidKinds := [.data], laidTests := true, laidLooks := .later }
def LadderRowUptoCardSaid : Prop := Claim7.holds Tryd.pinned (.plain (OpenSpec.upto ladderRowSpec)) ladderRowUptoCard
end Rows
end Go.Proofs.YtanfjkmkfcekmaaDoor
