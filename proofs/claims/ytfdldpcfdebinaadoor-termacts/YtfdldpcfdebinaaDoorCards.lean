/-
  DERIVED. GIVEN WITH THE SEED: THE CARDS: each row of YtfdldpcfdebinaaDoorRows.lean that lists a variable, with what it lists TIED to the program's text (the seventh form; the later family's looks); each row that meets fmt, with fmt's text TOLD by the authors' own Lean function (tested against real Go, not proved from fmt's source: count such statements apart). THE CARD IS WHAT COUNTS. Prove the row's statement (the work); the ties are given (YtfdldpcfdebinaaDoorTie.lean); close each card by the builder's one call (the guide's Derived/Test/ToyasCard.lean, 'card_holds'). Laid BY PROGRAM, IN A SANDBOX (cutbox-door.mjs). By AI agents, Wed Nov 11 2026. No macro, syntax, notation, axiom, sorry.
-/
import Derived.Test.YtfdldpcfdebinaaDoorRows
import GoSem.ClaimSeven
namespace Go.Proofs.YtfdldpcfdebinaaDoor
namespace Rows

/-- THE TIED CARD OF 'signetringlaw09.TermActs'. -/
def termActsCard : Claim7 := { stood := { row := termActsRow, standIns := [], harness := (true, "5320d565f0f7863611550fedde937e08e32edc1669384d7666850de6e84ea9e8"), looks := false }, kinds := [], alts := [], laidByText := true, laidKinds := [.data, .pinned], laidTests := true, laidLooks := .later }
def TermActsCardSaid : Prop := Claim7.holds Tryd.pinned (.plain (OpenSpec.ofChange termActsSpec)) termActsCard

/-- THE TIED CARD OF 'signetringlaw09.TermSame'. -/
def termSameCard : Claim7 := { stood := { row := termSameRow, standIns := [], harness := (true, "5320d565f0f7863611550fedde937e08e32edc1669384d7666850de6e84ea9e8"), looks := false }, kinds := [], alts := [], laidByText := true, laidKinds := [.data, .pinned], laidTests := true, laidLooks := .later }
def TermSameCardSaid : Prop := Claim7.holds Tryd.pinned (.plain (OpenSpec.ofChange termSameSpec)) termSameCard

/-- THE TIED CARD OF 'signetringlaw09.TermBoth'. -/
def termBothCard : Claim7 := { stood := { row := termBothRow, standIns := [], harness := (true, "5320d565f0f7863611550fedde937e08e32edc1669384d7666850de6e84ea9e8"), looks := false }, kinds := [], alts := [], laidByText := true, laidKinds := [.data, .pinned], laidTests := true, laidLooks := .later }
def TermBothCardSaid : Prop := Claim7.holds Tryd.pinned (.plain (OpenSpec.ofChange termBothSpec)) termBothCard

/-- THE TIED CARD OF 'signetringlaw09.TermRefused'. -/
def termRefusedCard : Claim7 := { stood := { row := termRefusedRow, standIns := [], harness := (true, "5320d565f0f7863611550fedde937e08e32edc1669384d7666850de6e84ea9e8"), looks := false }, kinds := [], alts := [], laidByText := true, laidKinds := [.data, .pinned], laidTests := true, laidLooks := .later }
def TermRefusedCardSaid : Prop := Claim7.holds Tryd.pinned (.plain (OpenSpec.ofChange termRefusedSpec)) termRefusedCard

/-- THE TIED CARD OF 'signetringlaw09.TermNobody'. -/
def termNobodyCard : Claim7 := { stood := { row := termNobodyRow, standIns := [], harness := (true, "5320d565f0f7863611550fedde937e08e32edc1669384d7666850de6e84ea9e8"), looks := false }, kinds := [], alts := [], laidByText := true, laidKinds := [.data, .pinned], laidTests := true, laidLooks := .later }
def TermNobodyCardSaid : Prop := Claim7.holds Tryd.pinned (.plain (OpenSpec.ofChange termNobodySpec)) termNobodyCard

/-- THE TIED CARD OF 'signetringlaw09.TermOrder'. -/
def termOrderCard : Claim7 := { stood := { row := termOrderRow, standIns := [], harness := (true, "5320d565f0f7863611550fedde937e08e32edc1669384d7666850de6e84ea9e8"), looks := false }, kinds := [], alts := [], laidByText := true, laidKinds := [.data, .pinned], laidTests := true, laidLooks := .later }
def TermOrderCardSaid : Prop := Claim7.holds Tryd.pinned (.plain (OpenSpec.ofChange termOrderSpec)) termOrderCard

/-- THE SECOND FORM's CARD OF 'signetringlaw09.TermActs'. -/
def termActsUptoCard : Claim7 := { stood := { row := termActsUptoRow, standIns := [], harness := (true, "5320d565f0f7863611550fedde937e08e32edc1669384d7666850de6e84ea9e8"), looks := false }, kinds := [], alts := [], laidByText := true, laidKinds := [.data, .pinned], laidTests := true, laidLooks := .later }
def TermActsUptoCardSaid : Prop := Claim7.holds Tryd.pinned (.plain (OpenSpec.upto termActsSpec)) termActsUptoCard

/-- THE SECOND FORM's CARD OF 'signetringlaw09.TermSame'. -/
def termSameUptoCard : Claim7 := { stood := { row := termSameUptoRow, standIns := [], harness := (true, "5320d565f0f7863611550fedde937e08e32edc1669384d7666850de6e84ea9e8"), looks := false }, kinds := [], alts := [], laidByText := true, laidKinds := [.data, .pinned], laidTests := true, laidLooks := .later }
def TermSameUptoCardSaid : Prop := Claim7.holds Tryd.pinned (.plain (OpenSpec.upto termSameSpec)) termSameUptoCard

/-- THE SECOND FORM's CARD OF 'signetringlaw09.TermBoth'. -/
def termBothUptoCard : Claim7 := { stood := { row := termBothUptoRow, standIns := [], harness := (true, "5320d565f0f7863611550fedde937e08e32edc1669384d7666850de6e84ea9e8"), looks := false }, kinds := [], alts := [], laidByText := true, laidKinds := [.data, .pinned], laidTests := true, laidLooks := .later }
def TermBothUptoCardSaid : Prop := Claim7.holds Tryd.pinned (.plain (OpenSpec.upto termBothSpec)) termBothUptoCard

/-- THE SECOND FORM's CARD OF 'signetringlaw09.TermRefused'. -/
def termRefusedUptoCard : Claim7 := { stood := { row := termRefusedUptoRow, standIns := [], harness := (true, "5320d565f0f7863611550fedde937e08e32edc1669384d7666850de6e84ea9e8"), looks := false }, kinds := [], alts := [], laidByText := true, laidKinds := [.data, .pinned], laidTests := true, laidLooks := .later }
def TermRefusedUptoCardSaid : Prop := Claim7.holds Tryd.pinned (.plain (OpenSpec.upto termRefusedSpec)) termRefusedUptoCard

/-- THE SECOND FORM's CARD OF 'signetringlaw09.TermNobody'. -/
def termNobodyUptoCard : Claim7 := { stood := { row := termNobodyUptoRow, standIns := [], harness := (true, "5320d565f0f7863611550fedde937e08e32edc1669384d7666850de6e84ea9e8"), looks := false }, kinds := [], alts := [], laidByText := true, laidKinds := [.data, .pinned], laidTests := true, laidLooks := .later }
def TermNobodyUptoCardSaid : Prop := Claim7.holds Tryd.pinned (.plain (OpenSpec.upto termNobodySpec)) termNobodyUptoCard

/-- THE SECOND FORM's CARD OF 'signetringlaw09.TermOrder'. -/
def termOrderUptoCard : Claim7 := { stood := { row := termOrderUptoRow, standIns := [], harness := (true, "5320d565f0f7863611550fedde937e08e32edc1669384d7666850de6e84ea9e8"), looks := false }, kinds := [], alts := [], laidByText := true, laidKinds := [.data, .pinned], laidTests := true, laidLooks := .later }
def TermOrderUptoCardSaid : Prop := Claim7.holds Tryd.pinned (.plain (OpenSpec.upto termOrderSpec)) termOrderUptoCard
end Rows
end Go.Proofs.YtfdldpcfdebinaaDoor
