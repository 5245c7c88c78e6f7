/-
  What an act picks: made$1; calls of a closure.
-/
import Derived.Test.YtfdldpcfdebinaaDoorDK
namespace Go.Proofs.YtfdldpcfdebinaaDoor.sh
open Go Go.RowKit
set_option linter.unusedVariables false
set_option linter.unusedSimpArgs false

def pickN (N : Nat) (x : ActL) (n : Nat) : List Nat := if x.raw = true ∨ N = 0 then x.s else termN (n % N + 1)
theorem pickN_L (ts : List TermL) (x : ActL) (n : Nat) : pickL ts x n = pickN ts.length x n := rfl
theorem act_cell {w : World} {g f : Nat} {x : ActL} {u : Value} (h : Blk w g 30 (actA x)) (hu : (actA x)[f]? = some u) : w.cell? ⟨g, f, none⟩ = some u := h.cell hu
set_option maxRecDepth 100000 in
set_option maxHeartbeats 4000000 in
theorem PickD {x : ActL} {N n g h : Nat} {V : Value} {w : World} (hx : Blk w g 30 (actA x)) (hh : Blk w h 35 #[V]) (hV : ValsV V w (strs (namesL N))) (hn : n < 256) (hN : N < 1000001) :
    Calls Tryd.prog 28 #[.int .u8 (n : Int), .pointer (some ⟨g, 0, none⟩), .pointer (some ⟨h, 0, none⟩)] w fun e w' => e = .returned (.string (strOf (pickN N x n))) ∧ Below w.heap.size w w' := by
  obtain ⟨p, c, rfl, hc⟩ := vals_form hV (show (strs (namesL N)).length = N by rw [strs_len, namesL_len])
  have c4 : Kept (w.cell? ⟨g, 4, none⟩ = some (.string (strOf x.s))) := ⟨act_cell hx rfl⟩
  have c5 : Kept (w.cell? ⟨g, 5, none⟩ = some (.bool x.raw)) := ⟨act_cell hx rfl⟩
  have cH : Kept (w.cell? ⟨h, 0, none⟩ = some (.slice p N c)) := ⟨hh.cell rfl⟩
  obtain ⟨T, hT⟩ : ∃ T, T = pickN N x n := ⟨_, rfl⟩
  rw [← hT]
  obtain ⟨s, hs⟩ : ∃ s, s = x.s := ⟨_, rfl⟩
  rw [← hs] at c4
  obtain ⟨r, hr⟩ : ∃ r, r = x.raw := ⟨_, rfl⟩
  rw [← hr] at c5
  cases r with
  | true =>
    have KT : Kept (T = s) := ⟨by rw [hT, hs]; unfold pickN; rw [if_pos (.inl hr.symm)]⟩
    clear hx hh hV hT hs hr cH
    go_enter Tryd.func28, Tryd.ntmps28
    go_wp2_with (first | ((with_reducible refine wv_elem (d := 6) ?hd ?hw 4 Tryd.isAgg4 (.tmp 5) ?ho (⟨g, 5, none⟩) ?hx (.bool true) ?hc ?_); (case hd => rfl); (case hw => kernel_rfl); (case ho => rfl); (case hx => kernel_rfl); (case hc => exact c5.out); simp only [Act.put, List.setIfInBounds_toArray, List.set_cons_succ, List.set_cons_zero]) | ((with_reducible refine wv_elem (d := 13) ?hd ?hw 9 ag_str (.tmp 12) ?ho (⟨g, 4, none⟩) ?hx (.string (strOf s)) ?hc ?_); (case hd => rfl); (case hw => kernel_rfl); (case ho => rfl); (case hx => kernel_rfl); (case hc => exact c4.out); simp only [Act.put, List.setIfInBounds_toArray, List.set_cons_succ, List.set_cons_zero]))
    go_ret
    exact ⟨by rw [KT.out]; rfl, Below.refl _ _⟩
  | false =>
    by_cases hN0 : N = 0
    · have KT : Kept (T = s) := ⟨by rw [hT, hs]; unfold pickN; rw [if_pos (.inr hN0)]⟩
      subst hN0
      clear hx hh hV hT hs hr
      go_enter Tryd.func28, Tryd.ntmps28
      go_wp2_with (first | ((with_reducible refine wv_elem (d := 6) ?hd ?hw 4 Tryd.isAgg4 (.tmp 5) ?ho (⟨g, 5, none⟩) ?hx (.bool false) ?hc ?_); (case hd => rfl); (case hw => kernel_rfl); (case ho => rfl); (case hx => kernel_rfl); (case hc => exact c5.out); simp only [Act.put, List.setIfInBounds_toArray, List.set_cons_succ, List.set_cons_zero]) | ((with_reducible refine wv_elem (d := 8) ?hd ?hw 35 ag_strs (.tmp 2) ?ho (⟨h, 0, none⟩) ?hx (.slice p 0 c) ?hc ?_); (case hd => rfl); (case hw => kernel_rfl); (case ho => rfl); (case hx => kernel_rfl); (case hc => exact cH.out); simp only [Act.put, List.setIfInBounds_toArray, List.set_cons_succ, List.set_cons_zero]) | ((with_reducible refine wv_elem (d := 13) ?hd ?hw 9 ag_str (.tmp 12) ?ho (⟨g, 4, none⟩) ?hx (.string (strOf s)) ?hc ?_); (case hd => rfl); (case hw => kernel_rfl); (case ho => rfl); (case hx => kernel_rfl); (case hc => exact c4.out); simp only [Act.put, List.setIfInBounds_toArray, List.set_cons_succ, List.set_cons_zero]))
      go_ret
      exact ⟨by rw [KT.out]; rfl, Below.refl _ _⟩
    · obtain ⟨j, hj⟩ : ∃ j, j = n % N := ⟨_, rfl⟩
      have hjn : j < N := by rw [hj]; exact Nat.mod_lt _ (by omega)
      have hTt : T = termN (j + 1) := by rw [hT, hj]; unfold pickN; rw [if_neg (by rw [← hr]; simp [hN0])]
      have hxj : (strs (namesL N))[j]? = some (.string (strOf T)) := strs_get (by rw [namesL_get hjn, hTt])
      obtain ⟨A, rfl, hAb, hcell⟩ := vals_at hV hxj
      have KA : Kept (∀ w1, Below w.heap.size w w1 → w1.cell? (A.add j) = some (.string (strOf T))) := ⟨fun w1 hb => (hb.cell (by rw [add_block]; exact hAb)).trans hcell⟩
      have KH : Kept (∀ w1, Below w.heap.size w w1 → w1.cell? ⟨h, 0, none⟩ = some (.slice (some A) N c)) := ⟨fun w1 hb => (hb.cell (p := ⟨h, 0, none⟩) hh.lt).trans cH.out⟩
      have KJ : Kept _ := ⟨hj⟩
      have hN0 : 0 < N := by omega
      have hn8 : n < 256 := hn
      have hnI : n < 4611686018427387904 := by omega
      have B0 : Kept (false = decide ((N : Int) = 0)) := ⟨(decide_eq_false (by omega)).symm⟩
      clear hx hh hV hT hs hr hTt hxj hcell hj
      go_enter Tryd.func28, Tryd.ntmps28
      go_wp2_with (first | ((with_reducible refine wv_elem (d := 6) ?hd ?hw 4 Tryd.isAgg4 (.tmp 5) ?ho (⟨g, 5, none⟩) ?hx (.bool false) ?hc ?_); (case hd => rfl); (case hw => kernel_rfl); (case ho => rfl); (case hx => kernel_rfl); (case hc => exact c5.out); simp only [Act.put, List.setIfInBounds_toArray, List.set_cons_succ, List.set_cons_zero]) | ((with_reducible refine wv_elem (d := 8) ?hd ?hw 35 ag_strs (.tmp 2) ?ho (⟨h, 0, none⟩) ?hx (.slice (some A) N c) ?hc ?_); (case hd => rfl); (case hw => kernel_rfl); (case ho => rfl); (case hx => kernel_rfl); (case hc => exact cH.out); simp only [Act.put, List.setIfInBounds_toArray, List.set_cons_succ, List.set_cons_zero]) | ((with_reducible refine wv_val (d := 10) ?hd ?hw (.bool false) ?hr ?_); (case hd => rfl); (case hw => kernel_rfl); (case hr => intro w; exact run_eqII (n := 0) rfl (by kernel_rfl) rfl B0.out w); simp only [Act.put, List.setIfInBounds_toArray, List.set_cons_succ, List.set_cons_zero]))
      refine region_ownL w 8 [(14, .slice (some A) N c), (15, .int .u8 (n : Int)), (16, .int .i64 (n : Int)), (17, .slice (some A) N c), (18, .int .i64 (N : Int)), (19, .int .i64 (j : Int)), (20, .pointer (some (A.add j))), (21, .string (strOf T))] [] [] [] rfl (by kernel_rfl) (by kernel_rfl) (by kernel_rfl) (by kernel_rfl) (by kernel_rfl) (by kernel_rfl) (by kernel_rfl) (by kernel_rfl) (by kernel_rfl) (by kernel_rfl) (by kernel_rfl) ?hst1 ?hst2 (Below.refl _ _) (fun hA => ⟨ow_elem hA (wants_none rfl) 14 (.slice (some A) N c) (by kernel_rfl) rfl rfl rfl rfl (by kernel_rfl) 35 ag_strs (.tmp 2) rfl (⟨h, 0, none⟩) (by kernel_rfl) (fun w1 hb => KH.out w1 hb), ow_val hA (wants_none rfl) 15 (.int .u8 (n : Int)) (by kernel_rfl) rfl rfl rfl rfl (by kernel_rfl) (fun w => by kernel_rfl), ow_val hA (wants_none rfl) 16 (.int .i64 (n : Int)) (by kernel_rfl) rfl rfl rfl rfl (by kernel_rfl) (fun w => run_conv83 rfl (by kernel_rfl) hn8 w), ow_elem hA (wants_none rfl) 17 (.slice (some A) N c) (by kernel_rfl) rfl rfl rfl rfl (by kernel_rfl) 35 ag_strs (.tmp 2) rfl (⟨h, 0, none⟩) (by kernel_rfl) (fun w1 hb => KH.out w1 hb), ow_val hA (wants_none rfl) 18 (.int .i64 (N : Int)) (by kernel_rfl) rfl rfl rfl rfl (by kernel_rfl) (fun w => by kernel_rfl), ow_val hA (wants_none rfl) 19 (.int .i64 (j : Int)) (by kernel_rfl) rfl rfl rfl rfl (by kernel_rfl) (fun w => run_remV rfl (by kernel_rfl) (by kernel_rfl) hN0 KJ.out hnI w), ow_val hA (wants_none rfl) 20 (.pointer (some (A.add j))) (by kernel_rfl) rfl rfl rfl rfl (by kernel_rfl) (fun w => run_idxS (c := c) rfl (by kernel_rfl) (by kernel_rfl) Tryd.underlying35 hjn Tryd.sizeOf9 w), ow_elem hA (wants_none rfl) 21 (.string (strOf T)) (by kernel_rfl) rfl rfl rfl rfl (by kernel_rfl) 9 ag_str (.tmp 20) rfl (A.add j) (by kernel_rfl) (fun w1 hb => KA.out w1 hb), trivial⟩) ?_
      case hst1 => intro q hq; cases hq
      case hst2 => intro q hq; cases hq
      intro fv w4 hf hD hb4
      simp only [putR, List.foldl_cons, List.foldl_nil, List.map_cons, List.map_nil, Act.put, List.setIfInBounds_toArray, List.set_cons_succ, List.set_cons_zero]
      clear hf hD
      go_wp2_with fail
      go_ret
      exact ⟨rfl, hb4⟩

section
variable {P : Program} {ops : Array Oper} {Q : Exit → Act → World → Prop} {a : Act} {w : World} {rest : List Oper} {o : Oper}
/-- A call of a closure in a plain list, by its contract. -/
theorem wl_callV (hgd : o.guard = none) (f : Nat) (fn : Func) (c : Code) (x : Operand) (xs : List Operand) (ts : Array TypeId) (cap args : Array Value) (ho : o.op = .call { callee := .value x, args := xs.toArray, argTypes := ts }) (hv : a.eval x = .func (.func f) #[] cap) (hx : (xs.map a.eval).toArray ++ cap = args) (hf : P.funcs[f]? = some fn) (hname : (fn.name == "runtime.NumGoroutine") = false) (hb : fn.body = some c) {R : World → Prop} (v : Value)
    (hc : Calls P f args w fun e w' => e = .returned v ∧ R w') (h : ∀ w', R w' → wpList P ops Q rest (a.put o.dst v) w') : wpList P ops Q (o :: rest) a w :=
  wpList_plain hgd fun K hK => by
    have h1 : fn.name ≠ "runtime.NumGoroutine" := by simpa using hname
    have hrun : (execOp a.eval o).run P w = .ok (.enter f args) w := by
      rw [← hx]
      unfold execOp
      simp only [ho, resolve, List.map_toArray, hv]
      simp [Deferred.ofValue, invoke, callFunc, hf, h1, hb]
    unfold Oper.wp
    rw [hrun]
    simp only [Oper.upon]
    refine hc.mono fun e w' hh => ?_
    obtain ⟨rfl, hR⟩ := hh
    exact hK _ _ (h w' hR)
end
section
variable {P : Program} {h : List Oper} {A0 A : Act} {W0 : World} {S : Nat → Option (Value → World → Prop)} {sp O : List Nat} {E : List (Nat × Nat)} {i : Nat} {o : Oper}
/-- A call of a closure of known values with a known answer, in a region that draws its order. -/
theorem ow_callV (hA : Full h A0 A S sp) (hw : Wants h A0 A S O E W0.heap.size i o) (d : Nat) (v : Value) (hdet : detE h sp E i o = true) (hsel : notSel o = true) (hd : o.dst = some d) (hds : sp.contains d = false) (hO : O.contains d = false) (hv : A.tmps[d]? = some v) (f : Nat) (fn : Func) (c : Code) (x : Operand) (args : List Operand) (ts : Array TypeId) (cap : Array Value) (vs : List Value) (ho : o.op = .call { callee := .value x, args := args.toArray, argTypes := ts })
    (hx : A.eval x = .func (.func f) #[] cap) (hargs : (args.map A.eval).toArray ++ cap = vs.toArray) (hf : P.funcs[f]? = some fn) (hname : (fn.name == "runtime.NumGoroutine") = false) (hb : fn.body = some c)
    (hc : ∀ w, Below W0.heap.size W0 w → Calls P f vs.toArray w fun e w' => e = .returned v ∧ Below w.heap.size w w') : OwnOk P h A0 W0 (relR A S) O E i o :=
  ow_q hA hdet hsel hw d v hd hds hO hv fun w hw => by
    have h1 : fn.name ≠ "runtime.NumGoroutine" := by simpa using hname
    have hrun : (execOp A.eval o).run P w = .ok (.enter f vs.toArray) w := by
      rw [← hargs]
      unfold execOp
      simp only [ho, resolve, List.map_toArray, hx]
      simp [Deferred.ofValue, invoke, callFunc, hf, h1, hb]
    unfold Oper.quietAt
    rw [hrun]
    exact ⟨rfl, hc w hw⟩
end
end Go.Proofs.YtfdldpcfdebinaaDoor.sh
