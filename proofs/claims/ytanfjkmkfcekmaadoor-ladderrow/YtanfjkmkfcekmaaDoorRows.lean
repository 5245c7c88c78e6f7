/-
  NARROWER THAN 'FOR EVERY INPUT', by the rows' own cells (each row's printed sentence says how): LimbTells: laid · LimbInverts: laid · LimbSums: laid · LadderTells: laid · LadderBoth: laid · LadderRow: laid.
  DERIVED. THE GIVEN ROWS OF THIS SEAT. 6 by the template 'for every input the law returns true; each argument reads behind the call as it read before'; 0 by the template 'total and deterministic' (their statements: YtanfjkmkfcekmaaDoorTotals.lean).
  GIVEN WITH THE SEED: the statements are not yours to turn. If you find one false, say at which input.
  Laid BY PROGRAM, IN A SANDBOX (cutbox-rows.mjs): the forced cells as the released guide's own fill.sh prints them over the translation 112b221808d5d9f2… (all of the seat's roots in one cut). By AI agents, Wed Nov 11 2026. No macro, syntax, notation, axiom, sorry.
-/
import Derived.Test.YtanfjkmkfcekmaaDoorChecked
import GoSem.Claim
import GoSem.ClaimJoined
import GoSem.ClaimMapViews
import Derived.JoinedTies
import Derived.KernelRfl
namespace Go.Proofs.YtanfjkmkfcekmaaDoor
/- THE CELL 'sum', in the pinned program and in every row, IS THE sha256 OF THE DUMP (.gsa) THAT YtanfjkmkfcekmaaDoorProg.lean LOADS. Nothing in Lean hashes anything: it is a label: what it is worth is what the hold of that sum in a sandbox is worth. -/
noncomputable def Tryd.pinned : Pinned := { name := "ytanfjkmkfcekmaadoor", sum := "112b221808d5d9f2bac290d8ccab99a50926835ec54a1a42b3a3066d6ab6e26d", checked := Tryd.checked }
namespace Rows
def none {H : Type} : Left H := { results := [], args := [] }

/- WHAT THE LISTED PACKAGE-LEVEL VARIABLES READ AS WHEN THE CALL BEGINS. Each datum BY PROGRAM (the guide's laid-datum.mjs) off the statement by which the dump's own 'gosem.cut.vars' lays the variable. In a bare row this is a premise. The card (YtanfjkmkfcekmaaDoorCards.lean) ties it to the program's text. -/
def laid_signetring_limb_prime {H : Type} : DataW H := .agg [.lit (.int .u64 18446744073709551597), .lit (.int .u64 18446744073709551615), .lit (.int .u64 18446744073709551615), .lit (.int .u64 9223372036854775807)]

/-- 'signetringlaw01.LimbTells': WHATEVER THE INPUT: true; the input reads as it did. -/
def limbTellsSpec : ChangeSpec := { name := "limbTells", fn := fun _ => fun
  | [d1, d2, d3] => { results := [.lit (.bool true)], args := [d1, d2, d3] }
  | _ => none }
def limbTellsRow : OpenClaim := { program := "ytanfjkmkfcekmaadoor", sum := "112b221808d5d9f2bac290d8ccab99a50926835ec54a1a42b3a3066d6ab6e26d", func := "signetring/signetringlaw01.LimbTells", spec := "limbTells", inPlace := ["math/bits.Add64", "math/bits.Sub64"], named := ["signetring/limb.prime"], apart := false, laid := [("signetring/limb.prime", laid_signetring_limb_prime)] }
def LimbTellsSaid : Prop := limbTellsRow.holds Tryd.pinned (OpenSpec.ofChange limbTellsSpec)

/-- ITS FALSE NEIGHBOUR: 'it returns false'. Refute it at one input. -/
def limbTellsWrong : ChangeSpec := { name := "limbTells", fn := fun _ => fun
  | [d1, d2, d3] => { results := [.lit (.bool false)], args := [d1, d2, d3] }
  | _ => none }
def LimbTellsWrongFalsely : Prop := limbTellsRow.holds Tryd.pinned (OpenSpec.ofChange limbTellsWrong)

/-- 'signetringlaw01.LimbInverts': WHATEVER THE INPUT: true; the input reads as it did. -/
def limbInvertsSpec : ChangeSpec := { name := "limbInverts", fn := fun _ => fun
  | [d] => { results := [.lit (.bool true)], args := [d] }
  | _ => none }
def limbInvertsRow : OpenClaim := { program := "ytanfjkmkfcekmaadoor", sum := "112b221808d5d9f2bac290d8ccab99a50926835ec54a1a42b3a3066d6ab6e26d", func := "signetring/signetringlaw01.LimbInverts", spec := "limbInverts", inPlace := ["math/bits.Add64", "math/bits.Sub64"], named := ["signetring/limb.prime"], apart := false, laid := [("signetring/limb.prime", laid_signetring_limb_prime)] }
def LimbInvertsSaid : Prop := limbInvertsRow.holds Tryd.pinned (OpenSpec.ofChange limbInvertsSpec)

/-- ITS FALSE NEIGHBOUR: 'it returns false'. Refute it at one input. -/
def limbInvertsWrong : ChangeSpec := { name := "limbInverts", fn := fun _ => fun
  | [d] => { results := [.lit (.bool false)], args := [d] }
  | _ => none }
def LimbInvertsWrongFalsely : Prop := limbInvertsRow.holds Tryd.pinned (OpenSpec.ofChange limbInvertsWrong)

/-- 'signetringlaw01.LimbSums': WHATEVER THE INPUT: true; the input reads as it did. -/
def limbSumsSpec : ChangeSpec := { name := "limbSums", fn := fun _ => fun
  | [d1, d2] => { results := [.lit (.bool true)], args := [d1, d2] }
  | _ => none }
def limbSumsRow : OpenClaim := { program := "ytanfjkmkfcekmaadoor", sum := "112b221808d5d9f2bac290d8ccab99a50926835ec54a1a42b3a3066d6ab6e26d", func := "signetring/signetringlaw01.LimbSums", spec := "limbSums", inPlace := ["math/bits.Add64", "math/bits.Sub64"], named := ["signetring/limb.prime"], apart := false, laid := [("signetring/limb.prime", laid_signetring_limb_prime)] }
def LimbSumsSaid : Prop := limbSumsRow.holds Tryd.pinned (OpenSpec.ofChange limbSumsSpec)

/-- ITS FALSE NEIGHBOUR: 'it returns false'. Refute it at one input. -/
def limbSumsWrong : ChangeSpec := { name := "limbSums", fn := fun _ => fun
  | [d1, d2] => { results := [.lit (.bool false)], args := [d1, d2] }
  | _ => none }
def LimbSumsWrongFalsely : Prop := limbSumsRow.holds Tryd.pinned (OpenSpec.ofChange limbSumsWrong)

/-- 'signetringlaw02.LadderTells': WHATEVER THE INPUT: true; the input reads as it did. -/
def ladderTellsSpec : ChangeSpec := { name := "ladderTells", fn := fun _ => fun
  | [d1, d2] => { results := [.lit (.bool true)], args := [d1, d2] }
  | _ => none }
def ladderTellsRow : OpenClaim := { program := "ytanfjkmkfcekmaadoor", sum := "112b221808d5d9f2bac290d8ccab99a50926835ec54a1a42b3a3066d6ab6e26d", func := "signetring/signetringlaw02.LadderTells", spec := "ladderTells", inPlace := ["math/bits.Add64", "math/bits.Sub64"], unfollowed := true, recurses := true, named := ["signetring/limb.prime"], apart := false, laid := [("signetring/limb.prime", laid_signetring_limb_prime)] }
def LadderTellsSaid : Prop := ladderTellsRow.holds Tryd.pinned (OpenSpec.ofChange ladderTellsSpec)

/-- ITS FALSE NEIGHBOUR: 'it returns false'. Refute it at one input. -/
def ladderTellsWrong : ChangeSpec := { name := "ladderTells", fn := fun _ => fun
  | [d1, d2] => { results := [.lit (.bool false)], args := [d1, d2] }
  | _ => none }
def LadderTellsWrongFalsely : Prop := ladderTellsRow.holds Tryd.pinned (OpenSpec.ofChange ladderTellsWrong)

/-- 'signetringlaw02.LadderBoth': WHATEVER THE INPUT: true; the input reads as it did. -/
def ladderBothSpec : ChangeSpec := { name := "ladderBoth", fn := fun _ => fun
  | [d1, d2, d3] => { results := [.lit (.bool true)], args := [d1, d2, d3] }
  | _ => none }
def ladderBothRow : OpenClaim := { program := "ytanfjkmkfcekmaadoor", sum := "112b221808d5d9f2bac290d8ccab99a50926835ec54a1a42b3a3066d6ab6e26d", func := "signetring/signetringlaw02.LadderBoth", spec := "ladderBoth", inPlace := ["math/bits.Add64", "math/bits.Sub64"], unfollowed := true, recurses := true, named := ["signetring/limb.prime"], apart := false, laid := [("signetring/limb.prime", laid_signetring_limb_prime)] }
def LadderBothSaid : Prop := ladderBothRow.holds Tryd.pinned (OpenSpec.ofChange ladderBothSpec)

/-- ITS FALSE NEIGHBOUR: 'it returns false'. Refute it at one input. -/
def ladderBothWrong : ChangeSpec := { name := "ladderBoth", fn := fun _ => fun
  | [d1, d2, d3] => { results := [.lit (.bool false)], args := [d1, d2, d3] }
  | _ => none }
def LadderBothWrongFalsely : Prop := ladderBothRow.holds Tryd.pinned (OpenSpec.ofChange ladderBothWrong)

/-- 'signetringlaw02.LadderRow': WHATEVER THE INPUT: true; the input reads as it did. -/
def ladderRowSpec : ChangeSpec := { name := "ladderRow", fn := fun _ => fun
  | [d1, d2, d3] => { results := [.lit (.bool true)], args := [d1, d2, d3] }
  | _ => none }
def ladderRowRow : OpenClaim := { program := "ytanfjkmkfcekmaadoor", sum := "112b221808d5d9f2bac290d8ccab99a50926835ec54a1a42b3a3066d6ab6e26d", func := "signetring/signetringlaw02.LadderRow", spec := "ladderRow", inPlace := ["math/bits.Add64", "math/bits.Sub64"], unfollowed := true, recurses := true, named := ["signetring/limb.prime"], apart := false, laid := [("signetring/limb.prime", laid_signetring_limb_prime)] }
def LadderRowSaid : Prop := ladderRowRow.holds Tryd.pinned (OpenSpec.ofChange ladderRowSpec)

/-- ITS FALSE NEIGHBOUR: 'it returns false'. Refute it at one input. -/
def ladderRowWrong : ChangeSpec := { name := "ladderRow", fn := fun _ => fun
  | [d1, d2, d3] => { results := [.lit (.bool false)], args := [d1, d2, d3] }
  | _ => none }
def LadderRowWrongFalsely : Prop := ladderRowRow.holds Tryd.pinned (OpenSpec.ofChange ladderRowWrong)

/- THE SECOND FORM. 'bulk': how many values and letters a reading holds, each counted each time it is reached (what is shared counts as often as it is met; a slice's spare places count too). A statement '..UptoSaid' is the law's where the arguments, and the package variables that the reading takes, are together of bulk at most 1048576: NARROWER than '..Said'. Prove '..Said' where nothing that the law and all that it calls make is longer than what came in: it says more and counts as full. Else prove '..UptoSaid'. A law counts once. -/
mutual
def uptoBulk {H : Type} : DataW H → Nat
  | .lit (.string bytes) => bytes.length + 1
  | .lit _ => 1
  | .nil => 1
  | .ptr d => uptoBulk d + 1
  | .slice elems spare => uptoBulkAll elems + uptoBulkAll spare + 1
  | .agg parts => uptoBulkAll parts + 1
  | .iface _ d => uptoBulk d + 1
  | .map entries => uptoBulkEntries entries + 1
  | .held _ => 1
def uptoBulkAll {H : Type} : List (DataW H) → Nat
  | [] => 0
  | d :: r => uptoBulk d + uptoBulkAll r
def uptoBulkEntries {H : Type} : List (Lit × DataW H) → Nat
  | [] => 0
  | x :: r => uptoBulkEntry x + uptoBulkEntries r
def uptoBulkEntry {H : Type} : Lit × DataW H → Nat
  | (.string bytes, d) => bytes.length + uptoBulk d + 1
  | (_, d) => uptoBulk d + 1
 end
def uptoSmall : (H : Type) → List (DataW H) → Bool := fun _ ds => decide (uptoBulkAll ds ≤ 1048576)
def OpenSpec.upto (s : _root_.Go.ChangeSpec) : _root_.Go.OpenSpec := { _root_.Go.OpenSpec.ofChange s with cond := some uptoSmall }

/-- 'signetringlaw01.LimbTells', WHERE WHAT IT READS IS OF BULK AT MOST 1048576: true; the input reads as it did. -/
def limbTellsUptoRow : OpenClaim := { program := "ytanfjkmkfcekmaadoor", sum := "112b221808d5d9f2bac290d8ccab99a50926835ec54a1a42b3a3066d6ab6e26d", func := "signetring/signetringlaw01.LimbTells", spec := "limbTells", inPlace := ["math/bits.Add64", "math/bits.Sub64"], named := ["signetring/limb.prime"], apart := false, laid := [("signetring/limb.prime", laid_signetring_limb_prime)], narrowed := true }
def LimbTellsUptoSaid : Prop := limbTellsUptoRow.holds Tryd.pinned (OpenSpec.upto limbTellsSpec)

/-- 'signetringlaw01.LimbInverts', WHERE WHAT IT READS IS OF BULK AT MOST 1048576: true; the input reads as it did. -/
def limbInvertsUptoRow : OpenClaim := { program := "ytanfjkmkfcekmaadoor", sum := "112b221808d5d9f2bac290d8ccab99a50926835ec54a1a42b3a3066d6ab6e26d", func := "signetring/signetringlaw01.LimbInverts", spec := "limbInverts", inPlace := ["math/bits.Add64", "math/bits.Sub64"], named := ["signetring/limb.prime"], apart := false, laid := [("signetring/limb.prime", laid_signetring_limb_prime)], narrowed := true }
def LimbInvertsUptoSaid : Prop := limbInvertsUptoRow.holds Tryd.pinned (OpenSpec.upto limbInvertsSpec)

/-- 'signetringlaw01.LimbSums', WHERE WHAT IT READS IS OF BULK AT MOST 1048576: true; the input reads as it did. -/
def limbSumsUptoRow : OpenClaim := { program := "ytanfjkmkfcekmaadoor", sum := "112b221808d5d9f2bac290d8ccab99a50926835ec54a1a42b3a3066d6ab6e26d", func := "signetring/signetringlaw01.LimbSums", spec := "limbSums", inPlace := ["math/bits.Add64", "math/bits.Sub64"], named := ["signetring/limb.prime"], apart := false, laid := [("signetring/limb.prime", laid_signetring_limb_prime)], narrowed := true }
def LimbSumsUptoSaid : Prop := limbSumsUptoRow.holds Tryd.pinned (OpenSpec.upto limbSumsSpec)

/-- 'signetringlaw02.LadderTells', WHERE WHAT IT READS IS OF BULK AT MOST 1048576: true; the input reads as it did. -/
def ladderTellsUptoRow : OpenClaim := { program := "ytanfjkmkfcekmaadoor", sum := "112b221808d5d9f2bac290d8ccab99a50926835ec54a1a42b3a3066d6ab6e26d", func := "signetring/signetringlaw02.LadderTells", spec := "ladderTells", inPlace := ["math/bits.Add64", "math/bits.Sub64"], unfollowed := true, recurses := true, named := ["signetring/limb.prime"], apart := false, laid := [("signetring/limb.prime", laid_signetring_limb_prime)], narrowed := true }
def LadderTellsUptoSaid : Prop := ladderTellsUptoRow.holds Tryd.pinned (OpenSpec.upto ladderTellsSpec)

/-- 'signetringlaw02.LadderBoth', WHERE WHAT IT READS IS OF BULK AT MOST 1048576: true; the input reads as it did. -/
def ladderBothUptoRow : OpenClaim := { program := "ytanfjkmkfcekmaadoor", sum := "112b221808d5d9f2bac290d8ccab99a50926835ec54a1a42b3a3066d6ab6e26d", func := "signetring/signetringlaw02.LadderBoth", spec := "ladderBoth", inPlace := ["math/bits.Add64", "math/bits.Sub64"], unfollowed := true, recurses := true, named := ["signetring/limb.prime"], apart := false, laid := [("signetring/limb.prime", laid_signetring_limb_prime)], narrowed := true }
def LadderBothUptoSaid : Prop := ladderBothUptoRow.holds Tryd.pinned (OpenSpec.upto ladderBothSpec)

/-- 'signetringlaw02.LadderRow', WHERE WHAT IT READS IS OF BULK AT MOST 1048576: true; the input reads as it did. -/
def ladderRowUptoRow : OpenClaim := { program := "ytanfjkmkfcekmaadoor", sum := "112b221808d5d9f2bac290d8ccab99a50926835ec54a1a42b3a3066d6ab6e26d", func := "signetring/signetringlaw02.LadderRow", spec := "ladderRow", inPlace := ["math/bits.Add64", "math/bits.Sub64"], unfollowed := true, recurses := true, named := ["signetring/limb.prime"], apart := false, laid := [("signetring/limb.prime", laid_signetring_limb_prime)], narrowed := true }
def LadderRowUptoSaid : Prop := ladderRowUptoRow.holds Tryd.pinned (OpenSpec.upto ladderRowSpec)

end Rows
end Go.Proofs.YtanfjkmkfcekmaaDoor
