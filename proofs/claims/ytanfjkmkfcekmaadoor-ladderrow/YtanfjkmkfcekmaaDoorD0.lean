/-
  What the ladder's square and its constant answer; the numbers that a step comes to.
-/
import Derived.Test.YtanfjkmkfcekmaaDoorQuad
namespace Go.Proofs.YtanfjkmkfcekmaaDoor
open Go Go.RowKit
set_option linter.unusedVariables false
set_option linter.unusedSimpArgs false

def nAdd (a b : Nat) : Nat := (a + b) % 57896044618658097711785492504343953926634992332820282019728792003956564819949
def nSub (a b : Nat) : Nat := (a + (57896044618658097711785492504343953926634992332820282019728792003956564819949 - b % 57896044618658097711785492504343953926634992332820282019728792003956564819949)) % 57896044618658097711785492504343953926634992332820282019728792003956564819949
def nMul (a b : Nat) : Nat := a * b % 57896044618658097711785492504343953926634992332820282019728792003956564819949
/-- One bit's step. -/
def stepL (a b c d x : Nat) : List Nat :=
  let s := nAdd a b
  let t := nSub a b
  let v := nMul (nAdd c d) t
  let w := nMul (nSub c d) s
  let ss := nMul s s
  let tt := nMul t t
  let e := nSub ss tt
  let m := nAdd v w
  let n := nSub v w
  [nMul ss tt, nMul e (nAdd ss (nMul 121665 e)), nMul m m, nMul x (nMul n n)]

theorem q_callx {P : Program} {ops : Array Oper} {C : World → Prop} {Q : Act → Prop} {a : Act} {o : Oper} {rest : List Oper} (hw : Region.wanted o (yielded ops a.tmps) = true) (f : FuncId) (fn : Func) (c : Code) (x : Operand) (args : List Operand) (ts : Array TypeId) (vs : List Value) (v : Value) (ho : o.op = .call { callee := .value x, args := args.toArray, argTypes := ts })
    (hx : a.eval x = .func (.func f) #[] #[]) (hargs : args.map a.eval = vs) (hf : P.funcs[f]? = some fn) (hname : (fn.name == "runtime.NumGoroutine") = false) (hb : fn.body = some c)
    (hc : ∀ w, C w → Calls P f vs.toArray w fun e w' => e = .returned v ∧ C w')
    (h : wpQuiet P ops C Q rest (a.put o.dst v)) : wpQuiet P ops C Q (o :: rest) a := by
  refine BigFrame.wpQuiet_want hw fun K hK => ⟨v, fun w hC => ?_, hK _ h⟩
  have h1 : fn.name ≠ "runtime.NumGoroutine" := by simpa using hname
  have ha : args.toArray.map a.eval = vs.toArray := by rw [List.map_toArray, hargs]
  have hrun : (execOp a.eval o).run P w = .ok (.enter f vs.toArray) w := by
    unfold execOp
    simp only [ho, resolve, ha, hx]
    simp [Deferred.ofValue, invoke, callFunc, hf, h1, hb]
  unfold Oper.quietAt
  rw [hrun]
  exact ⟨rfl, hc w hC⟩

set_option maxHeartbeats 400000 in
theorem square_any (n : Nat) (w : World) (hn : n < 115792089237316195423570985008687907853269984665640564039457584007913129639936) :
    Calls Tryd.prog 55 #[.agg (numA n)] w fun e w' => e = .returned (.agg (numA (n * n % 57896044618658097711785492504343953926634992332820282019728792003956564819949))) ∧ Below w.heap.size w w' := by
  have L : Kept _ := ⟨hn⟩
  obtain ⟨r, hr⟩ : ∃ r, r = n * n % 57896044618658097711785492504343953926634992332820282019728792003956564819949 := ⟨_, rfl⟩
  rw [← hr]
  have E : Kept _ := ⟨hr⟩
  clear hn hr
  go_enter Tryd.func55, Tryd.ntmps55
  have A0 : At ((w.alloc (.cells (numA n) 22)).alloc (.cells #[.int .u8 0, .int .u8 0, .int .u8 0, .int .u8 0, .int .u8 0, .int .u8 0, .int .u8 0, .int .u8 0, .int .u8 0, .int .u8 0, .int .u8 0, .int .u8 0, .int .u8 0, .int .u8 0, .int .u8 0, .int .u8 0, .int .u8 0, .int .u8 0, .int .u8 0, .int .u8 0, .int .u8 0, .int .u8 0, .int .u8 0, .int .u8 0, .int .u8 0, .int .u8 0, .int .u8 0, .int .u8 0, .int .u8 0, .int .u8 0, .int .u8 0, .int .u8 0] 22)) w.heap.size n := (at_new w n).alloc _
  have R1 : Room ((w.alloc (.cells (numA n) 22)).alloc (.cells #[.int .u8 0, .int .u8 0, .int .u8 0, .int .u8 0, .int .u8 0, .int .u8 0, .int .u8 0, .int .u8 0, .int .u8 0, .int .u8 0, .int .u8 0, .int .u8 0, .int .u8 0, .int .u8 0, .int .u8 0, .int .u8 0, .int .u8 0, .int .u8 0, .int .u8 0, .int .u8 0, .int .u8 0, .int .u8 0, .int .u8 0, .int .u8 0, .int .u8 0, .int .u8 0, .int .u8 0, .int .u8 0, .int .u8 0, .int .u8 0, .int .u8 0, .int .u8 0] 22)) (w.heap.size + 1) := room_top _ _ (by simp)
  have QB : Below w.heap.size w ((w.alloc (.cells (numA n) 22)).alloc (.cells #[.int .u8 0, .int .u8 0, .int .u8 0, .int .u8 0, .int .u8 0, .int .u8 0, .int .u8 0, .int .u8 0, .int .u8 0, .int .u8 0, .int .u8 0, .int .u8 0, .int .u8 0, .int .u8 0, .int .u8 0, .int .u8 0, .int .u8 0, .int .u8 0, .int .u8 0, .int .u8 0, .int .u8 0, .int .u8 0, .int .u8 0, .int .u8 0, .int .u8 0, .int .u8 0, .int .u8 0, .int .u8 0, .int .u8 0, .int .u8 0, .int .u8 0, .int .u8 0] 22)) := ((Below.refl _ _).alloc (Nat.le_refl _) _).alloc (by simp) _
  go_wp2_with (refine wpList_get rfl (.tmp 1) rfl _ n rfl A0 ?_)
  have hc := Mul_any n n ((w.alloc (.cells (numA n) 22)).alloc (.cells #[.int .u8 0, .int .u8 0, .int .u8 0, .int .u8 0, .int .u8 0, .int .u8 0, .int .u8 0, .int .u8 0, .int .u8 0, .int .u8 0, .int .u8 0, .int .u8 0, .int .u8 0, .int .u8 0, .int .u8 0, .int .u8 0, .int .u8 0, .int .u8 0, .int .u8 0, .int .u8 0, .int .u8 0, .int .u8 0, .int .u8 0, .int .u8 0, .int .u8 0, .int .u8 0, .int .u8 0, .int .u8 0, .int .u8 0, .int .u8 0, .int .u8 0, .int .u8 0] 22)) L.out L.out
  rw [← E.out] at hc
  refine hc.mono ?_
  rintro e w1 ⟨rfl, hb⟩
  have R2 := R1.under hb
  have QC := QB.trans (hb.mono QB.size)
  clear hc A0 R1 QB hb
  go_wp2_with (refine wpList_put rfl (.tmp 2) (.tmp 5) rfl _ r rfl rfl R2 ?_)
  intro w2 A2 P2
  go_wp2
  exact bodyPost_ret (v := .agg (numA r)) (ret_num (Q := fun _ _ => True) Tryd.results55 _ [] _ _ r rfl A2) rfl ⟨rfl, QC.trans (P2.below (by omega))⟩

theorem bcurve (w : World) : (Instr.build 22 #[(0, .int .u8 65), (1, .int .u8 219), (2, .int .u8 1)]).run Tryd.prog w = .ok (.agg (numA 121665)) w := by kernel_rfl

theorem l_curve {ops : Array Oper} {Q : Exit → Act → World → Prop} {a : Act} {o : Oper} {rest : List Oper} {w : World} (hg : o.guard = none) (ho : o.op = .build 22 #[(0, .const (.int .u8 65)), (1, .const (.int .u8 219)), (2, .const (.int .u8 1))]) (h : wpList Tryd.prog ops Q rest (a.put o.dst (.agg (numA 121665))) w) : wpList Tryd.prog ops Q (o :: rest) a w :=
  l_val hg _ (by unfold execOp; simp [ho, Act.eval, bcurve]) h

set_option maxHeartbeats 400000 in
theorem curve_any (w : World) :
    Calls Tryd.prog 56 #[] w fun e w' => e = .returned (.agg (numA 121665)) ∧ Below w.heap.size w w' := by
  go_enter Tryd.func56, Tryd.ntmps56
  go_wp2_with (first | (refine l_curve rfl rfl ?_; simp only [Act.put, List.setIfInBounds_toArray, List.set_cons_succ, List.set_cons_zero]) | (refine wpList_put rfl (.tmp 0) (.tmp 1) rfl _ 121665 rfl rfl (room_new _) ?_))
  intro w2 A2 P2
  go_wp2
  exact bodyPost_ret (v := .agg (numA 121665)) (ret_num (Q := fun _ _ => True) Tryd.results56 _ [] _ _ 121665 rfl A2) rfl ⟨rfl, ((Below.refl _ _).alloc (Nat.le_refl _) _).trans (P2.below (Nat.le_refl _))⟩
end Go.Proofs.YtanfjkmkfcekmaaDoor
