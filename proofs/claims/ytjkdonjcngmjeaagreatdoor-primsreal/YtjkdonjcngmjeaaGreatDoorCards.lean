/-
  DERIVED. GIVEN WITH THE SEED: THE CARDS: each row of YtjkdonjcngmjeaaGreatDoorRows.lean that lists a variable, with what it lists TIED to the program's text (the seventh form; the later family's looks); each row that meets fmt, with fmt's text TOLD by the authors' own Lean function (tested against real Go, not proved from fmt's source: count such statements apart). THE CARD IS WHAT COUNTS. Prove the row's statement (the work); the ties are given (YtjkdonjcngmjeaaGreatDoorTie.lean); close each card by the builder's one call (the guide's Derived/Test/ToyasCard.lean, 'card_holds'). Laid BY PROGRAM, IN A SANDBOX (cutbox-door.mjs). By AI agents, Wed Nov 11 2026. No macro, syntax, notation, axiom, sorry.
-/
import Derived.Test.YtjkdonjcngmjeaaGreatDoorRows
import GoSem.ClaimSeven
namespace Go.Proofs.YtjkdonjcngmjeaaGreatDoor
namespace Rows

/-- THE TIED CARD OF 'signetringlaw11.PrimsReal'. -/
def primsRealCard : Claim7 := { stood := { row := primsRealRow, standIns := [], harness := (true, "9fdf1884de11a163abba05795befac731c8d35e75aec4ccbd541bef6eea9a094"), looks := false }, kinds := [], alts := [], laidByText := true, laidKinds := [.data, .data], laidTests := true, laidLooks := .later }
def PrimsRealCardSaid : Prop := Claim7.holds Tryz.pinned (.plain (OpenSpec.ofChange primsRealSpec)) primsRealCard

/-- THE TIED CARD OF 'signetringlaw11.PrimsBoxes'. -/
def primsBoxesCard : Claim7 := { stood := { row := primsBoxesRow, standIns := [], harness := (true, "9fdf1884de11a163abba05795befac731c8d35e75aec4ccbd541bef6eea9a094"), looks := false }, kinds := [], alts := [], laidByText := true, laidKinds := [.data], laidTests := true, laidLooks := .later }
def PrimsBoxesCardSaid : Prop := Claim7.holds Tryz.pinned (.plain (OpenSpec.ofChange primsBoxesSpec)) primsBoxesCard

/-- THE TIED CARD OF 'signetringlaw11.PrimsTerms'. -/
def primsTermsCard : Claim7 := { stood := { row := primsTermsRow, standIns := [], harness := (true, "9fdf1884de11a163abba05795befac731c8d35e75aec4ccbd541bef6eea9a094"), looks := false }, kinds := [], alts := [], laidByText := true, laidKinds := [.data, .data, .pinned], laidTests := true, laidLooks := .later }
def PrimsTermsCardSaid : Prop := Claim7.holds Tryz.pinned (.plain (OpenSpec.ofChange primsTermsSpec)) primsTermsCard

/-- THE TIED CARD OF 'signetringlaw11.PrimsBack'. -/
def primsBackCard : Claim7 := { stood := { row := primsBackRow, standIns := [], harness := (true, "9fdf1884de11a163abba05795befac731c8d35e75aec4ccbd541bef6eea9a094"), looks := false }, kinds := [], alts := [], laidByText := true, laidKinds := [.data], laidTests := true, laidLooks := .later }
def PrimsBackCardSaid : Prop := Claim7.holds Tryz.pinned (.plain (OpenSpec.ofChange primsBackSpec)) primsBackCard

/-- THE TIED CARD OF 'signetringlaw11.PrimsBoth'. -/
def primsBothCard : Claim7 := { stood := { row := primsBothRow, standIns := [], harness := (true, "9fdf1884de11a163abba05795befac731c8d35e75aec4ccbd541bef6eea9a094"), looks := false }, kinds := [], alts := [], laidByText := true, laidKinds := [.data], laidTests := true, laidLooks := .later }
def PrimsBothCardSaid : Prop := Claim7.holds Tryz.pinned (.plain (OpenSpec.ofChange primsBothSpec)) primsBothCard

/-- THE SECOND FORM's CARD OF 'signetringlaw11.PrimsReal'. -/
def primsRealUptoCard : Claim7 := { stood := { row := primsRealUptoRow, standIns := [], harness := (true, "9fdf1884de11a163abba05795befac731c8d35e75aec4ccbd541bef6eea9a094"), looks := false }, kinds := [], alts := [], laidByText := true, laidKinds := [.data, .data], laidTests := true, laidLooks := .later }
def PrimsRealUptoCardSaid : Prop := Claim7.holds Tryz.pinned (.plain (OpenSpec.upto primsRealSpec)) primsRealUptoCard

/-- THE SECOND FORM's CARD OF 'signetringlaw11.PrimsBoxes'. -/
def primsBoxesUptoCard : Claim7 := { stood := { row := primsBoxesUptoRow, standIns := [], harness := (true, "9fdf1884de11a163abba05795befac731c8d35e75aec4ccbd541bef6eea9a094"), looks := false }, kinds := [], alts := [], laidByText := true, laidKinds := [.data], laidTests := true, laidLooks := .later }
def PrimsBoxesUptoCardSaid : Prop := Claim7.holds Tryz.pinned (.plain (OpenSpec.upto primsBoxesSpec)) primsBoxesUptoCard

/-- THE SECOND FORM's CARD OF 'signetringlaw11.PrimsTerms'. -/
def primsTermsUptoCard : Claim7 := { stood := { row := primsTermsUptoRow, standIns := [], harness := (true, "9fdf1884de11a163abba05795befac731c8d35e75aec4ccbd541bef6eea9a094"), looks := false }, kinds := [], alts := [], laidByText := true, laidKinds := [.data, .data, .pinned], laidTests := true, laidLooks := .later }
def PrimsTermsUptoCardSaid : Prop := Claim7.holds Tryz.pinned (.plain (OpenSpec.upto primsTermsSpec)) primsTermsUptoCard

/-- THE SECOND FORM's CARD OF 'signetringlaw11.PrimsBack'. -/
def primsBackUptoCard : Claim7 := { stood := { row := primsBackUptoRow, standIns := [], harness := (true, "9fdf1884de11a163abba05795befac731c8d35e75aec4ccbd541bef6eea9a094"), looks := false }, kinds := [], alts := [], laidByText := true, laidKinds := [.data], laidTests := true, laidLooks := .later }
def PrimsBackUptoCardSaid : Prop := Claim7.holds Tryz.pinned (.plain (OpenSpec.upto primsBackSpec)) primsBackUptoCard

/-- THE SECOND FORM's CARD OF 'signetringlaw11.PrimsBoth'. -/
def primsBothUptoCard : Claim7 := { stood := { row := primsBothUptoRow, standIns := [], harness := (true, "9fdf1884de11a163abba05795befac731c8d35e75aec4ccbd541bef6eea9a094"), looks := false }, kinds := [], alts := [], laidByText := true, laidKinds := [.data], laidTests := true, laidLooks := .later }
def PrimsBothUptoCardSaid : Prop := Claim7.holds Tryz.pinned (.plain (OpenSpec.upto primsBothSpec)) primsBothUptoCard
end Rows
end Go.Proofs.YtjkdonjcngmjeaaGreatDoor
