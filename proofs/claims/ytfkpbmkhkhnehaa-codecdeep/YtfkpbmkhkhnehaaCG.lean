/-
  codec.apart: what its deferred function does, of a panic and without one.
-/
import Derived.Test.YtfkpbmkhkhnehaaCF
namespace Go.Proofs.Ytfkpbmkhkhnehaa.sh
open Go Go.RowKit
set_option linter.unusedVariables false
set_option linter.unusedSimpArgs false

theorem rec_panic (b : Nat) (x y z : Value) (w : World) (h1 : Blk w b 5 #[x]) (h2 : Blk w (b + 1) 22 #[y]) (h3 : Blk w (b + 2) 4 #[z]) :
    CallsD Try.prog 31 #[.pointer (some ⟨b, 0, none⟩), .pointer (some ⟨b + 1, 0, none⟩), .pointer (some ⟨b + 2, 0, none⟩)] (.panicking [{ v := PV, recovered := false }]) w fun e u' w' =>
      e = .returned (.tuple #[]) ∧ u' = .panicking [{ v := PV, recovered := true }] ∧ w' = ((w.setCell ⟨b, 0, none⟩ (.int .u8 0)).setCell ⟨b + 1, 0, none⟩ (.slice none 0 0)).setCell ⟨b + 2, 0, none⟩ (.bool false) := by
  have c1 : w.cell? ⟨b, 0, none⟩ = some x := cell_row h1 rfl
  have c2 : w.cell? ⟨b + 1, 0, none⟩ = some y := cell_row h2 rfl
  have c3 : w.cell? ⟨b + 2, 0, none⟩ = some z := cell_row h3 rfl
  have f1 : w.frozen? ⟨b, 0, none⟩ = false := frozen_of_row w b 0 _ _ h1
  have f2 : w.frozen? ⟨b + 1, 0, none⟩ = false := frozen_of_row w (b + 1) 0 _ _ h2
  have f3 : w.frozen? ⟨b + 2, 0, none⟩ = false := frozen_of_row w (b + 2) 0 _ _ h3
  refine callsD_of_wpS Try.func31 rfl fun c₀ cs hu => ?_
  apply wpS_seq
  apply wpS_region
  simp [wpOpsS, go_sem, recoverD, hu, Try.ntmps31, Exit.thenS, PV]
  refine wpS_cond (t := true) (by simp [Act.eval, Array.replicate]) ?_
  simp only [if_true]
  apply wpS_region
  simp [wpOpsS, go_sem, c1, c2, c3, f1, f2, f3, bodyPostS, results, Try.results31]

theorem rec_idle (b : Nat) (w : World) :
    CallsD Try.prog 31 #[.pointer (some ⟨b, 0, none⟩), .pointer (some ⟨b + 1, 0, none⟩), .pointer (some ⟨b + 2, 0, none⟩)] .returning w fun e u' w' => e = .returned (.tuple #[]) ∧ u' = .returning ∧ w' = w := by
  refine callsD_of_wpS Try.func31 rfl fun c₀ cs hu => ?_
  apply wpS_seq
  apply wpS_region
  simp [wpOpsS, go_sem, recoverD, hu, Try.ntmps31, Exit.thenS]
  refine wpS_cond (t := false) (by simp [Act.eval, Array.replicate]) ?_
  simp only [Bool.false_eq_true, if_false]
  refine wpS_of_wp (wp_skip ?_)
  cases c₀
  simp_all [bodyPostS, results, Try.results31]
end Go.Proofs.Ytfkpbmkhkhnehaa.sh
