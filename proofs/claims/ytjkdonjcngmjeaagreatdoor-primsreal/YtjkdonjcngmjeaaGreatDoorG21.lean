/-
  General pieces, joined: MG.
-/
import Derived.Test.YtjkdonjcngmjeaaGreatDoorG18
import Derived.Test.YtjkdonjcngmjeaaGreatDoorG20
/-
  Prims of terms: keys.
-/
namespace Go.Proofs.YtjkdonjcngmjeaaGreatDoor.sh
open Go Go.RowKit
set_option linter.unusedVariables false
set_option linter.unusedSimpArgs false

theorem Tab.put {tb B g : Nat} {ts : List TermL} {M : Nat → Prop} {w w' : World} (h : Tab tb B ts M w) (hp : w.grownBy w' (some g)) (hg : ¬ M g) : Tab tb B ts M w' := by
  obtain ⟨mb, v, h1, h2, h3, h4, h5, h6⟩ := h.at'
  have n1 : tb ≠ g := fun e => hg ((h6 g).2 (.inl e.symm))
  have n2 : mb ≠ g := fun e => hg ((h6 g).2 (.inr (.inl e.symm)))
  have n3 : blkOf v ≠ some g := fun e => hg ((h6 g).2 (.inr (.inr e)))
  exact ⟨⟨mb, v, blk_grown hp h1 (fun e => n1 (Option.some.inj e)), h2, h3.kept (row := some g) hp (by simpa using n2), h4.keeps hp (.inr n3), h5, h6⟩, h.terms⟩
theorem Turn.put {g : Nat} {M M' : Nat → Prop} {w w1 w2 : World} (h : Turn M w M' w1) (hp : Put w1 w2 g) (hg : w.heap.size ≤ g) : Turn M w M' w2 :=
  ⟨⟨hp.grown.os.trans h.1.os, hp.grown.tape.trans h.1.tape, hp.grown.output.trans h.1.output, by rw [hp.size]; exact h.1.size, fun k hk hM => (hp.grown.block k (Nat.lt_of_lt_of_le hk h.1.size) (fun e => by cases e; omega)).trans (h.1.block k hk hM)⟩, h.2⟩
end Go.Proofs.YtjkdonjcngmjeaaGreatDoor.sh
