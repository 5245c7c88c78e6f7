/-
  The answers that the document fixes for the ladder are as they must be.
-/
import Derived.Test.YtanfjkmkfcekmaaDoorD7
import Derived.Test.YtanfjkmkfcekmaaDoorL2
namespace Go.Proofs.YtanfjkmkfcekmaaDoor
open Go Go.RowKit
set_option linter.unusedVariables false
set_option linter.unusedSimpArgs false

theorem w_valD {ops : Array Oper} {rest : List Oper} {o : Oper} {a : Act} {w : World} {Q : Exit → Act → World → Prop} {d : Nat} (hd : o.dst = some d) (hw : Region.wanted o (yielded ops a.tmps) = true) (v : Value) (hrun : ∀ w, (execOp a.eval o).run Tryd.prog w = .ok (.value v) w) (h : wpList Tryd.prog ops Q rest (a.put o.dst v) w) : wpList Tryd.prog ops Q (o :: rest) a w :=
  BigFrame.wpList_want hw fun K hK => by
    unfold Oper.wp
    rw [hrun]
    exact hK _ _ h
theorem w_byteD {ops : Array Oper} {rest : List Oper} {o : Oper} {a : Act} {w : World} {Q : Exit → Act → World → Prop} {d : Nat} (hd : o.dst = some d) (hw : Region.wanted o (yielded ops a.tmps) = true) (x : Operand) (ho : o.op = .load 5 x) (g k : Nat) (hx : a.eval x = .pointer (some ⟨g, k, none⟩)) (A : Array Value) (v : Value)
    (hg : w.heap[g]? = some (.cells A 22 (0, 0))) (hv : A[k]? = some v) (h : wpList Tryd.prog ops Q rest (a.put o.dst v) w) : wpList Tryd.prog ops Q (o :: rest) a w :=
  BigFrame.wpList_want hw fun K hK => by
    have hc : w.cell? ⟨g, k, none⟩ = some v := cell_row hg hv
    have hrun : (execOp a.eval o).run Tryd.prog w = .ok (.value v) w := by
      unfold execOp
      simp only [ho, hx, Instr.loadAt, Instr.sureAddr, Sem.run_bind, Sem.run_pure, Result.andThen_ok]
      simp [loadVar, ag5, go_sem, hc]
    unfold Oper.wp
    rw [hrun]
    exact hK _ _ h

theorem run_zero : runL 48024180843069071553745934684982006431825596986621126406018887516696408295280 0 255 [1, 0, 0, 1] = [0, 0, 0, 0] := by kernel_rfl
theorem low_zero : lowN 0 % 57896044618658097711785492504343953926634992332820282019728792003956564819949 = 0 := by kernel_rfl
theorem zero_fixed : XN 19076158533740022697853188432810029468508100820210985396154491514718125885303 0 = 0 := by
  rw [XN_eq, clamp_fixed, low_zero, run_zero, quotL_eq, Nat.zero_mul]
theorem clamp_255 : clampN 255 = 28948022309329048855892746252171976963317496166410141009864396001978282410232 := by kernel_rfl

set_option maxHeartbeats 1000000 in
theorem alive2_any (w : World) (hp : PrimeAt w) :
    Calls Tryd.prog 22 #[] w fun e w' => e = .returned (.bool true) ∧ Below w.heap.size w w' := by
  have HP : Kept _ := ⟨hp⟩
  clear hp
  go_enter Tryd.func22, Tryd.ntmps22
  go_wp2_with (first | ((with_reducible refine w_valD (d := 5) ?hd ?hw (.agg (numA 19076158533740022697853188432810029468508100820210985396154491514718125885303)) ?hr ?_); (case hd => rfl); (case hw => kernel_rfl); (case hr => kernel_rfl); simp only [Act.put, List.setIfInBounds_toArray, List.set_cons_succ, List.set_cons_zero]) | (refine wpList_put rfl (.tmp 1) (.tmp 5) rfl _ 19076158533740022697853188432810029468508100820210985396154491514718125885303 rfl rfl (room_new _) ?_))
  intro w1 A1 P1
  have QB1 : Below w.heap.size w w1 := ((Below.refl _ _).alloc (Nat.le_refl _) _).trans (P1.below (Nat.le_refl _))
  clear P1
  go_wp2_with (first | (refine wpList_get rfl (.tmp 1) rfl _ 19076158533740022697853188432810029468508100820210985396154491514718125885303 rfl A1 ?_))
  have hc := Pub_any 19076158533740022697853188432810029468508100820210985396154491514718125885303 w1 (by decide) (PrimeAt.below HP.out QB1)
  rw [pub_fixed] at hc
  refine hc.mono ?_
  clear hc
  rintro e w2 ⟨rfl, hb⟩
  have A1' := A1.under hb
  have QB2 := QB1.trans (hb.mono QB1.size)
  clear A1 QB1 hb
  go_wp2_with (first | (refine wpList_put rfl (.tmp 2) (.tmp 7) rfl _ 48084050389777770101701157326923977117307187144965043058462938058489685090437 rfl rfl (room_top _ _ rfl) ?_))
  intro w3 A2 P3
  have A1 := P3.at (A1'.alloc _) (Nat.ne_of_lt A1'.lt)
  have QB3 : Below w.heap.size w w3 := (QB2.alloc QB2.size _).trans (P3.below QB2.size)
  clear P3 A1' QB2
  generalize w2.heap.size = g2 at *
  go_wp2_with (first | (refine wpList_get rfl (.tmp 1) rfl _ 19076158533740022697853188432810029468508100820210985396154491514718125885303 rfl A1 ?_) | (refine l_build0 rfl rfl ?_; simp only [Act.put, List.setIfInBounds_toArray, List.set_cons_succ, List.set_cons_zero]))
  have hc := Shared_any 19076158533740022697853188432810029468508100820210985396154491514718125885303 0 w3 (by decide) (by decide) (PrimeAt.below HP.out QB3)
  rw [zero_fixed, show (!decide (0 % 57896044618658097711785492504343953926634992332820282019728792003956564819949 = 0)) = false from by decide] at hc
  refine hc.mono ?_
  clear hc
  rintro e w4 ⟨rfl, hb⟩
  have A2' := A2.under hb
  have QB4 := QB3.trans (hb.mono QB3.size)
  clear A1 A2 QB3 hb
  go_wp2_with (first | (refine wpList_put rfl (.tmp 3) (.tmp 12) rfl _ 0 rfl rfl (room_top _ _ rfl) ?_))
  intro w5 A3 P5
  have A2 := P5.at (A2'.alloc _) (Nat.ne_of_lt A2'.lt)
  have QB5 : Below w.heap.size w w5 := (QB4.alloc QB4.size _).trans (P5.below QB4.size)
  clear P5 A2' QB4 A3
  go_wp2_with (first | ((with_reducible refine w_byteD (d := 15) ?hd ?hw (.tmp 14) ?ho g2 0 ?hx (numA 48084050389777770101701157326923977117307187144965043058462938058489685090437) (.int .u8 133) ?hg ?hv ?_); (case hd => rfl); (case hg => exact A2); (case hw => kernel_rfl); (case ho => rfl); (case hx => kernel_rfl); (case hv => kernel_rfl); simp only [Act.put, List.setIfInBounds_toArray, List.set_cons_succ, List.set_cons_zero]) | ((with_reducible refine w_byteD (d := 19) ?hd ?hw (.tmp 18) ?ho g2 1 ?hx (numA 48084050389777770101701157326923977117307187144965043058462938058489685090437) (.int .u8 32) ?hg ?hv ?_); (case hd => rfl); (case hg => exact A2); (case hw => kernel_rfl); (case ho => rfl); (case hx => kernel_rfl); (case hv => kernel_rfl); simp only [Act.put, List.setIfInBounds_toArray, List.set_cons_succ, List.set_cons_zero]) | ((with_reducible refine w_byteD (d := 24) ?hd ?hw (.tmp 23) ?ho g2 2 ?hx (numA 48084050389777770101701157326923977117307187144965043058462938058489685090437) (.int .u8 240) ?hg ?hv ?_); (case hd => rfl); (case hg => exact A2); (case hw => kernel_rfl); (case ho => rfl); (case hx => kernel_rfl); (case hv => kernel_rfl); simp only [Act.put, List.setIfInBounds_toArray, List.set_cons_succ, List.set_cons_zero]) | ((with_reducible refine w_byteD (d := 29) ?hd ?hw (.tmp 28) ?ho g2 31 ?hx (numA 48084050389777770101701157326923977117307187144965043058462938058489685090437) (.int .u8 106) ?hg ?hv ?_); (case hd => rfl); (case hg => exact A2); (case hw => kernel_rfl); (case ho => rfl); (case hx => kernel_rfl); (case hv => kernel_rfl); simp only [Act.put, List.setIfInBounds_toArray, List.set_cons_succ, List.set_cons_zero]) | ((with_reducible refine w_valD (d := 37) ?hd ?hw (.agg (numA 255)) ?hr ?_); (case hd => rfl); (case hw => kernel_rfl); (case hr => kernel_rfl); simp only [Act.put, List.setIfInBounds_toArray, List.set_cons_succ, List.set_cons_zero]))
  have hc := Clamp_any 255 w5 (by decide)
  rw [clamp_255] at hc
  refine hc.mono ?_
  clear hc
  rintro e w6 ⟨rfl, hb⟩
  have QB6 := QB5.trans (hb.mono QB5.size)
  clear A2 QB5 hb
  have hix : ∀ w, (Instr.index 22 (.agg (numA 28948022309329048855892746252171976963317496166410141009864396001978282410232)) (.int .i64 0)).run Tryd.prog w = .ok (.int .u8 248) w := fun w => by kernel_rfl
  go_wp2_with fail
  go_ret
  exact ⟨rfl, QB6⟩
end Go.Proofs.YtanfjkmkfcekmaaDoor
