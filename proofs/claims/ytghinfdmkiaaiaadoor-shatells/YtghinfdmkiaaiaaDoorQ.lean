/-
  One operation of a quiet walk: a whole array is read, a function is called, two arrays of numbers are compared, a value is reckoned.
-/
import Derived.Test.YtghinfdmkiaaiaaDoorTail
import Derived.Test.YtghinfdmkiaaiaaDoorVals
import Derived.Laws.Rows
import Derived.Laws.StructEq
import Derived.BigQuiet
namespace Go.Proofs.YtghinfdmkiaaiaaDoor
open Go Go.RowKit
set_option linter.unusedVariables false
set_option linter.unusedSimpArgs false

section
variable {P : Program} {ops : Array Oper} {C : World → Prop} {Q : Act → Prop} {a : Act} {o : Oper} {rest : List Oper}

theorem q_load (hw : Region.wanted o (yielded ops a.tmps) = true) (ty : TypeId) (x : Operand) (g : Nat) (t : TypeId) (cs : Array Value) (fr : Nat × Nat) (d : TypeDesc) (ho : o.op = .load ty x) (hx : a.eval x = .pointer (some ⟨g, 0, none⟩))
    (hC : ∀ w, C w → w.heap[g]? = some (.cells cs t fr)) (hu : P.underlying ty = some d) (hd : (match d with | .struct _ | .array _ _ => true | _ => false) = true) (hi : (P.info? ty).map (·.size) = some cs.size)
    (h : wpQuiet P ops C Q rest (a.put o.dst (.agg cs))) : wpQuiet P ops C Q (o :: rest) a := by
  refine BigFrame.wpQuiet_want hw fun K hK => ⟨.agg cs, fun w hc => ?_, hK _ h⟩
  unfold Oper.quietAt execOp
  simp only [ho, hx, Instr.loadAt, Instr.sureAddr, Sem.run_bind, Sem.run_pure, Result.andThen_ok, run_loadVar_row w g t ty cs fr d (hC w hc) hu hd hi]
  exact ⟨rfl, rfl⟩

theorem q_call (hw : Region.wanted o (yielded ops a.tmps) = true) (f : FuncId) (fn : Func) (c : Code) (args : List Operand) (ts : Array TypeId) (vs : List Value) (v : Value) (ho : o.op = .call { callee := .value (.func f), args := args.toArray, argTypes := ts })
    (hargs : args.map a.eval = vs) (hf : P.funcs[f]? = some fn) (hname : (fn.name == "runtime.NumGoroutine") = false) (hb : fn.body = some c)
    (hc : ∀ w, C w → Calls P f vs.toArray w fun e w' => e = .returned v ∧ C w')
    (h : wpQuiet P ops C Q rest (a.put o.dst v)) : wpQuiet P ops C Q (o :: rest) a := by
  refine BigFrame.wpQuiet_want hw fun K hK => ⟨v, fun w hC => ?_, hK _ h⟩
  have h1 : fn.name ≠ "runtime.NumGoroutine" := by simpa using hname
  have ha : args.toArray.map a.eval = vs.toArray := by rw [List.map_toArray, hargs]
  have hrun : (execOp a.eval o).run P w = .ok (.enter f vs.toArray) w := by
    unfold execOp
    simp only [ho, resolve, ha]
    simp [Deferred.ofValue, Act.eval, invoke, callFunc, hf, h1, hb]
  unfold Oper.quietAt
  rw [hrun]
  exact ⟨rfl, hc w hC⟩

theorem q_val (hw : Region.wanted o (yielded ops a.tmps) = true) (v : Value) (hrun : ∀ w, (execOp a.eval o).run P w = .ok (.value v) w)
    (h : wpQuiet P ops C Q rest (a.put o.dst v)) : wpQuiet P ops C Q (o :: rest) a := by
  refine BigFrame.wpQuiet_want hw fun K hK => ⟨v, fun w hC => ?_, hK _ h⟩
  unfold Oper.quietAt
  rw [hrun]
  exact ⟨rfl, rfl⟩
end

section
variable {P : Program}

theorem eq_cells {d : Nat} {e : TypeId} {k : IntKind} {xs ys : Array Value} {fx fy : Nat → Int} (he : P.underlying e = some (.int k)) (hagg : ∀ w, (isAgg e).run P w = .ok false w) :
    ∀ (l : List Nat) (w : World), (∀ i ∈ l, xs[i * 1]? = some (.int k (fx i)) ∧ ys[i * 1]? = some (.int k (fy i))) →
    (forIn (m := Sem) l ((none, ()) : Option Bool × Unit) fun i r => do
        let y ← part e xs (i * 1)
        let z ← part e ys (i * 1)
        let b ← Op.equalIn (d + 1) e y z
        if (!b) = true then pure (ForInStep.done (some false, ())) else pure (ForInStep.yield (none, ()))).run P w
      = .ok (if l.all (fun i => fx i == fy i) then (none, ()) else (some false, ())) w
  | [], w, _ => by simp
  | i :: l, w, h => by
    obtain ⟨hx, hy⟩ := h i (by simp)
    have ih := eq_cells (d := d) (xs := xs) (ys := ys) (fx := fx) (fy := fy) he hagg l w (fun j hj => h j (by simp [hj]))
    simp only [List.forIn_cons, Sem.run_bind, part, hagg, Result.andThen_ok, Bool.false_eq_true, if_false, hx, hy, Sem.run_pure, run_equalIn_int w d e k k (fx i) (fy i) he, Sem.run_ite]
    by_cases hq : fx i = fy i
    · simp only [hq, beq_self_eq_true, Bool.not_true, Bool.false_eq_true, if_false, Result.andThen_ok, List.all_cons, Bool.true_and]
      exact ih
    · simp [hq]

theorem run_equal_cells {t e : TypeId} {k : IntKind} {len : Nat} {xs ys : Array Value} {fx fy : Nat → Int} (ht : P.underlying t = some (.array len e)) (he : P.underlying e = some (.int k)) (hs : ∀ w, (sizeOf e).run P w = .ok 1 w) (hagg : ∀ w, (isAgg e).run P w = .ok false w)
    (hx : ∀ i, i < len → xs[i]? = some (.int k (fx i))) (hy : ∀ i, i < len → ys[i]? = some (.int k (fy i))) (w : World) :
    (Op.equal t (.agg xs) (.agg ys)).run P w = .ok ((List.range len).all fun i => fx i == fy i) w := by
  have key := eq_cells (P := P) (d := 9998) (e := e) (xs := xs) (ys := ys) (fx := fx) (fy := fy) he hagg (List.range len) w (fun i hi => by
    have := List.mem_range.1 hi
    simpa using ⟨hx i this, hy i this⟩)
  show (Op.equalIn (9998 + 1 + 1) t (.agg xs) (.agg ys)).run P w = _
  generalize 9998 = d at *
  unfold Op.equalIn
  simp only [Sem.run_bind, run_underlying ht, Result.andThen_ok, hs]
  have hr : ∀ f : Nat → Option Bool × Unit → Sem (ForInStep (Option Bool × Unit)), forIn (m := Sem) [:len] (none, ()) f = forIn (List.range len) (none, ()) f := by
    intro f
    rw [Std.Legacy.Range.forIn_eq_forIn_range', List.range_eq_range']
    simp [Std.Legacy.Range.size]
  rw [hr, key]
  simp only [Result.andThen_ok]
  generalize (List.range len).all (fun i => fx i == fy i) = b
  cases b <;> simp
end

theorem digits_mod (n m : Nat) : ∀ k, (∀ i, i < k → n / 256 ^ i % 256 = m / 256 ^ i % 256) → n % 256 ^ k = m % 256 ^ k
  | 0, _ => by simp [Nat.mod_one]
  | k + 1, h => by
    rw [Nat.mod_pow_succ, Nat.mod_pow_succ, digits_mod n m k (fun i hi => h i (by omega)), h k (by omega)]

theorem num_all (n m : Nat) (hn : n < 115792089237316195423570985008687907853269984665640564039457584007913129639936) (hm : m < 115792089237316195423570985008687907853269984665640564039457584007913129639936) :
    ((List.range 32).all fun i => ((n / 256 ^ i % 256 : Nat) : Int) == ((m / 256 ^ i % 256 : Nat) : Int)) = decide (n = m) := by
  rw [Bool.eq_iff_iff]
  simp only [List.all_eq_true, List.mem_range, beq_iff_eq, decide_eq_true_eq]
  constructor
  · intro h
    have h1 := digits_mod n m 32 (fun i hi => by have := h i hi; exact Int.ofNat.inj this)
    rw [Nat.mod_eq_of_lt hn, Nat.mod_eq_of_lt hm] at h1
    exact h1
  · rintro rfl i _
    rfl

theorem run_equal_num {P : Program} {t e : TypeId} (n m : Nat) (hn : n < 115792089237316195423570985008687907853269984665640564039457584007913129639936) (hm : m < 115792089237316195423570985008687907853269984665640564039457584007913129639936) (ht : P.underlying t = some (.array 32 e)) (he : P.underlying e = some (.int .u8)) (hs : ∀ w, (sizeOf e).run P w = .ok 1 w) (hagg : ∀ w, (isAgg e).run P w = .ok false w) (w : World) :
    (Op.equal t (.agg (numA n)) (.agg (numA m))).run P w = .ok (decide (n = m)) w := by
  rw [run_equal_cells ht he hs hagg (fx := fun i => ((n / 256 ^ i % 256 : Nat) : Int)) (fy := fun i => ((m / 256 ^ i % 256 : Nat) : Int)) (fun i hi => numA_get n i hi) (fun i hi => numA_get m i hi), num_all n m hn hm]

theorem run_eql_num {P : Program} {t e : TypeId} {o : Oper} {ρ : Operand → Value} {x y : Operand} {u : TypeId} (n m : Nat) (ho : o.op = .binOp .eql t x y u) (hx : ρ x = .agg (numA n)) (hy : ρ y = .agg (numA m)) (hn : n < 115792089237316195423570985008687907853269984665640564039457584007913129639936) (hm : m < 115792089237316195423570985008687907853269984665640564039457584007913129639936) (ht : P.underlying t = some (.array 32 e)) (he : P.underlying e = some (.int .u8)) (hs : ∀ w, (sizeOf e).run P w = .ok 1 w) (hagg : ∀ w, (isAgg e).run P w = .ok false w) (hg : P.eqGuardType P.depth t = false) (w : World) :
    (execOp ρ o).run P w = .ok (.value (.bool (decide (n = m)))) w := by
  unfold execOp
  simp only [ho, hx, hy, eqGuard, binOp, Sem.run_bind, Sem.run_pure, Result.andThen_ok, run_equal_num n m hn hm ht he hs hagg, run_program, hg, Bool.not_false, if_true]
  simp
  intro h
  rw [hg] at h
  cases h

theorem run_neq_num {P : Program} {t e : TypeId} {o : Oper} {ρ : Operand → Value} {x y : Operand} {u : TypeId} (n m : Nat) (ho : o.op = .binOp .neq t x y u) (hx : ρ x = .agg (numA n)) (hy : ρ y = .agg (numA m)) (hn : n < 115792089237316195423570985008687907853269984665640564039457584007913129639936) (hm : m < 115792089237316195423570985008687907853269984665640564039457584007913129639936) (ht : P.underlying t = some (.array 32 e)) (he : P.underlying e = some (.int .u8)) (hs : ∀ w, (sizeOf e).run P w = .ok 1 w) (hagg : ∀ w, (isAgg e).run P w = .ok false w) (hg : P.eqGuardType P.depth t = false) (w : World) :
    (execOp ρ o).run P w = .ok (.value (.bool (!decide (n = m)))) w := by
  unfold execOp
  simp only [ho, hx, hy, eqGuard, binOp, Sem.run_bind, Sem.run_pure, Result.andThen_ok, run_equal_num n m hn hm ht he hs hagg, run_program, hg, Bool.not_false, if_true]
  simp
  intro h
  rw [hg] at h
  cases h
end Go.Proofs.YtghinfdmkiaaiaaDoor
