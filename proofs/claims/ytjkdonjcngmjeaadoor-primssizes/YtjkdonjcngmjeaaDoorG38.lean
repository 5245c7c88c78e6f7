/-
  General pieces, joined: MM.
-/
import Derived.Test.YtjkdonjcngmjeaaDoorG37
/-
  PrimsBack, walked.
-/
namespace Go.Proofs.YtjkdonjcngmjeaaDoor.sh
open Go Go.RowKit
set_option linter.unusedVariables false
set_option linter.unusedSimpArgs false

section
variable {h : List Oper} {A0 A : Act} {W0 : World} {S : Nat → Option (Value → World → Prop)} {sp O : List Nat} {E : List (Nat × Nat)} {i : Nat} {o : Oper}
end
theorem run_bsP (tb : Nat) (w : World) : (Instr.buildSlice 30 2 #[(0, .iface 39 (.agg #[])), (1, .iface 41 (.agg #[.pointer (some ⟨tb, 0, none⟩)]))]).run Tryd.prog w = .ok (.slice (some ⟨w.heap.size, 0, none⟩) 2 2) (w.alloc (.cells #[.iface 39 (.agg #[]), .iface 41 (.agg #[.pointer (some ⟨tb, 0, none⟩)])] 25)) := by kernel_rfl
theorem wl_bsP {ops : Array Oper} {rest : List Oper} {o : Oper} {a : Act} {w : World} {Q : Exit → Act → World → Prop} (hgd : o.guard = none) (tb : Nat) (x0 x1 : Operand) (ho : o.op = .buildSlice 30 2 #[(0, x0), (1, x1)]) (h0 : a.eval x0 = .iface 39 (.agg #[])) (h1 : a.eval x1 = .iface 41 (.agg #[.pointer (some ⟨tb, 0, none⟩)]))
    (h : wpList Tryd.prog ops Q rest (a.put o.dst (.slice (some ⟨w.heap.size, 0, none⟩) 2 2)) (w.alloc (.cells #[.iface 39 (.agg #[]), .iface 41 (.agg #[.pointer (some ⟨tb, 0, none⟩)])] 25))) : wpList Tryd.prog ops Q (o :: rest) a w :=
  wpList_plain hgd fun K hK => by
    have hrun : (execOp a.eval o).run Tryd.prog w = .ok (.value (.slice (some ⟨w.heap.size, 0, none⟩) 2 2)) (w.alloc (.cells #[.iface 39 (.agg #[]), .iface 41 (.agg #[.pointer (some ⟨tb, 0, none⟩)])] 25)) := by
      unfold execOp
      simp only [ho]
      simp [h0, h1, run_bsP]
    unfold Oper.wp
    rw [hrun]
    exact hK _ _ h
end Go.Proofs.YtjkdonjcngmjeaaDoor.sh
