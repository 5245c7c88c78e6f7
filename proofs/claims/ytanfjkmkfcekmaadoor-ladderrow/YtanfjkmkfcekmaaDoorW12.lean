/-
  Whether a number is nought, and the number with all bits.
-/
import Derived.Test.YtanfjkmkfcekmaaDoorW9
namespace Go.Proofs.YtanfjkmkfcekmaaDoor
open Go.RowKit
set_option linter.unusedSimpArgs false
set_option linter.unusedVariables false

section
variable {P : Program} {ops : Array Oper} {Q : Exit → Act → World → Prop} {a : Act} {o : Oper} {rest : List Oper} {w : World}
theorem l_val (hg : o.guard = none) (v : Value) (hrun : (execOp a.eval o).run P w = .ok (.value v) w) (h : wpList P ops Q rest (a.put o.dst v) w) : wpList P ops Q (o :: rest) a w :=
  wpList_plain hg fun K hK => by
    unfold Oper.wp
    rw [hrun]
    exact hK _ _ h
theorem l_call (hg : o.guard = none) (f : FuncId) (fn : Func) (c : Code) (args : List Operand) (ts : Array TypeId) (vs : List Value) (v : Value) (C : World → Prop) (ho : o.op = .call { callee := .value (.func f), args := args.toArray, argTypes := ts })
    (hargs : args.map a.eval = vs) (hf : P.funcs[f]? = some fn) (hname : (fn.name == "runtime.NumGoroutine") = false) (hb : fn.body = some c)
    (hc : Calls P f vs.toArray w fun e w' => e = .returned v ∧ C w')
    (h : ∀ w', C w' → wpList P ops Q rest (a.put o.dst v) w') : wpList P ops Q (o :: rest) a w :=
  wpList_plain hg fun K hK => by
    have h1 : fn.name ≠ "runtime.NumGoroutine" := by simpa using hname
    have ha : args.toArray.map a.eval = vs.toArray := by rw [List.map_toArray, hargs]
    have hrun : (execOp a.eval o).run P w = .ok (.enter f vs.toArray) w := by
      unfold execOp
      simp only [ho, resolve, ha]
      simp [Deferred.ofValue, Act.eval, invoke, callFunc, hf, h1, hb]
    unfold Oper.wp
    rw [hrun]
    exact hc.mono fun e w' hh => by
      obtain ⟨rfl, hC⟩ := hh
      exact hK _ _ (h w' hC)
end

theorem eqG : Tryd.prog.eqGuardType Tryd.prog.depth 22 = false := by kernel_rfl
theorem sz5 (w : World) : (sizeOf 5).run Tryd.prog w = .ok 1 w := by kernel_rfl
theorem ag5 (w : World) : (isAgg 5).run Tryd.prog w = .ok false w := by kernel_rfl

theorem zero_numA : #[.int .u8 0, .int .u8 0, .int .u8 0, .int .u8 0, .int .u8 0, .int .u8 0, .int .u8 0, .int .u8 0, .int .u8 0, .int .u8 0, .int .u8 0, .int .u8 0, .int .u8 0, .int .u8 0, .int .u8 0, .int .u8 0, .int .u8 0, .int .u8 0, .int .u8 0, .int .u8 0, .int .u8 0, .int .u8 0, .int .u8 0, .int .u8 0, .int .u8 0, .int .u8 0, .int .u8 0, .int .u8 0, .int .u8 0, .int .u8 0, .int .u8 0, .int .u8 0] = numA 0 := by kernel_rfl

set_option maxHeartbeats 1000000 in
theorem Zero_any (n : Nat) (w : World) (hn : n < 115792089237316195423570985008687907853269984665640564039457584007913129639936) :
    Calls Tryd.prog 19 #[.agg (numA n)] w fun e w' => e = .returned (.bool (decide (n % 57896044618658097711785492504343953926634992332820282019728792003956564819949 = 0))) ∧ Below w.heap.size w w' := by
  have hvl : n % 57896044618658097711785492504343953926634992332820282019728792003956564819949 < 115792089237316195423570985008687907853269984665640564039457584007913129639936 := Nat.lt_trans (Nat.mod_lt _ (by omega)) (by omega)
  have R0 : ∀ w', Calls Tryd.prog 11 [.agg (numA n)].toArray w' fun e w2 => e = .returned (.agg (numA (n % 57896044618658097711785492504343953926634992332820282019728792003956564819949))) ∧ Below w'.heap.size w' w2 := fun w' => Reduce_any n w' hn
  generalize hv : n % 57896044618658097711785492504343953926634992332820282019728792003956564819949 = v at hvl R0 ⊢
  clear hv hn
  have HV := hide hvl
  have R := hide R0
  clear hvl R0
  have G0 := hide (heap_alloc_new w (.cells (numA n) 22))
  have QB : Hid (Below w.heap.size w (w.alloc (.cells (numA n) 22))) := by show Below _ _ _; (repeat (first | with_reducible exact Below.refl _ _ | with_reducible assumption | with_reducible refine Below.drew ?_ | (with_reducible refine Below.alloc ?_ ?hB _; (case hB => first | omega | (simp <;> omega))) | (with_reducible refine Below.setCell ?_ ?hB _; (case hB => first | omega | (simp <;> omega)))))
  go_enter Tryd.func19, Tryd.ntmps19
  go_wp2_with (refine wpList_load_row rfl 22 _ rfl _ rfl 22 (numA n) (0, 0) _ G0.out Tryd.underlying22 rfl ?hs ?_; (case hs => rw [numA_size]; kernel_rfl))
  refine (R.out _).mono ?_
  rintro e w1 ⟨rfl, hb1⟩
  have Q1 : Hid (Below w.heap.size w w1) := QB.out.trans (hb1.mono (by simp))
  clear hb1
  go_wp2_with (refine l_val rfl (.bool (decide (v = 0))) (run_eql_num (t := 22) (e := 5) v 0 rfl (by kernel_rfl) (by kernel_rfl) HV.out (by decide) Tryd.underlying22 Tryd.underlying5 sz5 ag5 eqG _) ?_; simp only [Act.put, List.setIfInBounds_toArray, List.set_cons_succ, List.set_cons_zero])
  go_ret
  exact ⟨rfl, Q1.out⟩

theorem top_bytes : ∀ i : Fin 32, 115792089237316195423570985008687907853269984665640564039457584007913129639935 / 256 ^ i.val % 256 = 255 := by decide +kernel
theorem top_numA (A : Array Value) (hs : A.size = 32) (h : ∀ j, j < 32 → A[j]? = some (.int .u8 255)) : A = numA 115792089237316195423570985008687907853269984665640564039457584007913129639935 := by
  apply Array.ext_getElem?
  intro j
  by_cases hj : j < 32
  · rw [h j hj, numA_get _ j hj, top_bytes ⟨j, hj⟩]; rfl
  · rw [Array.getElem?_eq_none (by omega), Array.getElem?_eq_none (by rw [numA_size]; omega)]

set_option maxHeartbeats 1000000 in
theorem top_any (w : World) :
    Calls Tryd.prog 29 #[] w fun e w' => e = .returned (.agg (numA 115792089237316195423570985008687907853269984665640564039457584007913129639935)) ∧ Below w.heap.size w w' := by
  go_enter Tryd.func29, Tryd.ntmps29
  go_wp2_with fail
  go_loopg [3] 32 (fun k s3 wr => ∃ i : Nat, i + k = 32 ∧ s3 = .int .i64 (i : Int) ∧ ∃ A : Array Value, A.size = 32 ∧ wr.heap[w.heap.size + 1]? = some (.cells A 22 (0, 0)) ∧ (∀ j, j < i → A[j]? = some (.int .u8 255)) ∧ wr.heap[w.heap.size]? = some (.cells #[.int .u8 0, .int .u8 0, .int .u8 0, .int .u8 0, .int .u8 0, .int .u8 0, .int .u8 0, .int .u8 0, .int .u8 0, .int .u8 0, .int .u8 0, .int .u8 0, .int .u8 0, .int .u8 0, .int .u8 0, .int .u8 0, .int .u8 0, .int .u8 0, .int .u8 0, .int .u8 0, .int .u8 0, .int .u8 0, .int .u8 0, .int .u8 0, .int .u8 0, .int .u8 0, .int .u8 0, .int .u8 0, .int .u8 0, .int .u8 0, .int .u8 0, .int .u8 0] 22 (0, 0)) ∧ Below w.heap.size w wr)
  case atStart =>
    refine ⟨0, rfl, rfl, #[.int .u8 0, .int .u8 0, .int .u8 0, .int .u8 0, .int .u8 0, .int .u8 0, .int .u8 0, .int .u8 0, .int .u8 0, .int .u8 0, .int .u8 0, .int .u8 0, .int .u8 0, .int .u8 0, .int .u8 0, .int .u8 0, .int .u8 0, .int .u8 0, .int .u8 0, .int .u8 0, .int .u8 0, .int .u8 0, .int .u8 0, .int .u8 0, .int .u8 0, .int .u8 0, .int .u8 0, .int .u8 0, .int .u8 0, .int .u8 0, .int .u8 0, .int .u8 0], rfl, ?_, ?_, ?_, ?_⟩
    · exact alloc_top _ _ _ (by simp)
    · intro j hj; omega
    · rw [heap_alloc_old _ _ (by simp)]; exact alloc_top _ _ _ (by simp)
    · repeat (first | with_reducible exact Below.refl _ _ | with_reducible assumption | with_reducible refine Below.drew ?_ | (with_reducible refine Below.alloc ?_ ?hB _; (case hB => first | omega | (simp <;> omega))) | (with_reducible refine Below.setCell ?_ ?hB _; (case hB => first | omega | (simp <;> omega))))
  case round =>
    obtain ⟨i, hik, rfl, A, hsz0, hA0, hb0, h10, hB0⟩ := hrel
    have hsz := hide hsz0
    have hA := hide hA0
    have hb := hide hb0
    have h1 := hide h10
    have QB := hide hB0
    have fz : ∀ j, wr.frozen? ⟨w.heap.size + 1, j, none⟩ = false := fun j => frozen_of_row wr _ j A 22 hA0
    clear hsz0 hA0 hb0 h10 hB0
    by_cases h4 : gk = 0
    · obtain rfl : i = 32 := by omega
      subst h4
      clear hik
      go_wp2_with (first | (refine wpList_load_row rfl 22 _ rfl _ rfl 22 A (0, 0) _ hA.out Tryd.underlying22 rfl ?hs ?_; (case hs => rw [hsz.out]; kernel_rfl)) | (refine wpList_store_row rfl 22 _ _ rfl _ A rfl rfl 22 _ h1.out ?hs ?hs2 ?hs3 ?_; (case hs => rw [hsz.out]; kernel_rfl); (case hs2 => rw [hsz.out]; rfl); (case hs3 => rw [top_numA A hsz.out hb.out]; exact numA_one _)))
      refine bodyPost_ret (v := .agg (numA 115792089237316195423570985008687907853269984665640564039457584007913129639935)) ?_ rfl ⟨rfl, ?_⟩
      · rw [← top_numA A hsz.out hb.out]
        exact results_cell_row Tryd.results29 _ _ _ 22 A (0, 0) _ rfl (setRow_heap _ _ _ _ _ _ h1.out) Tryd.underlying22 rfl (by rw [hsz.out]; kernel_rfl)
      · exact below_setRow QB.out (by omega)
    · obtain ⟨o0, e0⟩ := cell_in hA hsz i (by omega)
      have hi : i < 32 := by omega
      go_wp2
      go_roundg (gk - 1)
      case measure => omega
      case rel =>
        refine ⟨i + 1, by omega, by simp, _, ?_, heap_setCell_same _ _ _ _ _ _ hA.out, ?_, ?_, ?_⟩
        · simp [hsz.out]
        · intro j hj
          rw [Array.getElem?_setIfInBounds]
          by_cases hij : i = j
          · rw [if_pos hij, if_pos (by rw [hsz.out]; exact hi)]
          · rw [if_neg hij]; exact hb.out j (by omega)
        · rw [heap_setCell_other _ _ _ _ (by show w.heap.size ≠ w.heap.size + 1; omega)]
          exact h1.out
        · have q := QB.out
          repeat (first | with_reducible exact Below.refl _ _ | with_reducible assumption | with_reducible refine Below.drew ?_ | (with_reducible refine Below.alloc ?_ ?hB _; (case hB => first | omega | (simp <;> omega))) | (with_reducible refine Below.setCell ?_ ?hB _; (case hB => first | omega | (simp <;> omega))))
end Go.Proofs.YtanfjkmkfcekmaaDoor
