/-
  For LimbSums: a sum over a list that begins at another place and goes round is the same sum; a number is read out of a row of numbers within a quiet walk.
-/
import Derived.Test.YtjagicnkfmndeaaDoorPart
namespace Go.Proofs.YtjagicnkfmndeaaDoor
open Go Go.RowKit
set_option linter.unusedVariables false

/-- The sum of the first k. -/
def sumTo (f : Nat → Nat) : Nat → Nat
  | 0 => 0
  | k + 1 => sumTo f k + f k

theorem sumTo_congr {f g : Nat → Nat} : ∀ (k : Nat), (∀ i, i < k → f i = g i) → sumTo f k = sumTo g k
  | 0, _ => rfl
  | k + 1, h => by rw [sumTo, sumTo, sumTo_congr k (fun i hi => h i (by omega)), h k (by omega)]

theorem sumTo_add (f : Nat → Nat) (a : Nat) : ∀ (b : Nat), sumTo f (a + b) = sumTo f a + sumTo (fun j => f (a + j)) b
  | 0 => rfl
  | b + 1 => by
    show sumTo f (a + b) + f (a + b) = sumTo f a + (sumTo (fun j => f (a + j)) b + f (a + b))
    rw [sumTo_add f a b]
    omega

theorem sumTo_round (f : Nat → Nat) {n s : Nat} (hs : s < n) : sumTo (fun i => f ((i + s) % n)) n = sumTo f n := by
  have e1 : sumTo f n = sumTo f s + sumTo (fun j => f (s + j)) (n - s) := by
    rw [← sumTo_add, show s + (n - s) = n by omega]
  have e2 : sumTo (fun i => f ((i + s) % n)) n = sumTo (fun i => f ((i + s) % n)) (n - s) + sumTo (fun j => f ((n - s + j + s) % n)) s := by
    rw [← sumTo_add (fun i => f ((i + s) % n)), show n - s + s = n by omega]
  have e3 : sumTo (fun i => f ((i + s) % n)) (n - s) = sumTo (fun j => f (s + j)) (n - s) := sumTo_congr _ fun i hi => by
    show f ((i + s) % n) = f (s + i)
    rw [Nat.mod_eq_of_lt (by omega), Nat.add_comm]
  have e4 : sumTo (fun j => f ((n - s + j + s) % n)) s = sumTo f s := sumTo_congr _ fun i hi => by
    show f ((n - s + i + s) % n) = f i
    rw [show n - s + i + s = i + n by omega, Nat.add_mod_right, Nat.mod_eq_of_lt (by omega)]
  rw [e2, e3, e4, e1]
  omega

/-- One more, modulo p. -/
theorem sumTo_mod (f : Nat → Nat) (k p : Nat) : (sumTo f k % p + f k) % p = sumTo f (k + 1) % p := by
  rw [sumTo, Nat.mod_add_mod]

theorem q_load_at {P : Program} {ops : Array Oper} {C : World → Prop} {Q : Act → Prop} {a : Act} {o : Oper} {rest : List Oper} (hw : Region.wanted o (yielded ops a.tmps) = true) (ty : TypeId) (x : Operand) (g off : Nat) (t : TypeId) (cs es : Array Value) (fr : Nat × Nat) (d : TypeDesc) (ho : o.op = .load ty x) (hx : a.eval x = .pointer (some ⟨g, off, none⟩))
    (hC : ∀ w, C w → w.heap[g]? = some (.cells cs t fr)) (hp : ∀ j v, es[j]? = some v → cs[off + j]? = some v) (hu : P.underlying ty = some d) (hd : (match d with | .struct _ | .array _ _ => true | _ => false) = true) (hi : (P.info? ty).map (·.size) = some es.size)
    (h : wpQuiet P ops C Q rest (a.put o.dst (.agg es))) : wpQuiet P ops C Q (o :: rest) a := by
  refine BigFrame.wpQuiet_want hw fun K hK => ⟨.agg es, fun w hc => ?_, hK _ h⟩
  unfold Oper.quietAt execOp
  simp only [ho, hx, Instr.loadAt, Instr.sureAddr, Sem.run_bind, Sem.run_pure, Result.andThen_ok, run_loadVar_at w g off t ty cs es fr d (hC w hc) hp hu hd hi]
  exact ⟨rfl, rfl⟩

/-- The same by cells, at any address: so an argument's slice is given. -/
theorem run_loadVar_cells {P : Program} (w : World) (A : Addr) (ty : TypeId) (es : Array Value) (d : TypeDesc) (hp : ∀ j v, es[j]? = some v → w.cell? (A.add j) = some v)
    (hu : P.underlying ty = some d) (hd : (match d with | .struct _ | .array _ _ => true | _ => false) = true) (hi : (P.info? ty).map (·.size) = some es.size) :
    (loadVar ty A).run P w = .ok (.agg es) w := by
  have hl : (loadCells A es.toList.length).run P w = .ok es.toList.toArray w :=
    run_loadCells_list (P := P) w A es.toList (fun j v hv => hp j v (by simpa using hv))
  cases hq : P.info? ty with
  | none => simp [hq] at hi
  | some i =>
    have hs : i.size = es.size := by simpa [hq] using hi
    have hagg : (isAgg ty).run P w = .ok true w := by
      unfold isAgg
      rw [Sem.run_bind, run_underlying hu w]
      cases d <;> simp_all
    simp only [Array.length_toList, Array.toArray_toList] at hl
    simp [loadVar, Sem.run_bind, hagg, sizeOf, typeInfo, hq, hs, hl]

theorem q_load_cells {P : Program} {ops : Array Oper} {C : World → Prop} {Q : Act → Prop} {a : Act} {o : Oper} {rest : List Oper} (hw : Region.wanted o (yielded ops a.tmps) = true) (ty : TypeId) (x : Operand) (A : Addr) (es : Array Value) (d : TypeDesc) (ho : o.op = .load ty x) (hx : a.eval x = .pointer (some A))
    (hC : ∀ w, C w → ∀ j v, es[j]? = some v → w.cell? (A.add j) = some v) (hu : P.underlying ty = some d) (hd : (match d with | .struct _ | .array _ _ => true | _ => false) = true) (hi : (P.info? ty).map (·.size) = some es.size)
    (h : wpQuiet P ops C Q rest (a.put o.dst (.agg es))) : wpQuiet P ops C Q (o :: rest) a := by
  refine BigFrame.wpQuiet_want hw fun K hK => ⟨.agg es, fun w hc => ?_, hK _ h⟩
  unfold Oper.quietAt execOp
  simp only [ho, hx, Instr.loadAt, Instr.sureAddr, Sem.run_bind, Sem.run_pure, Result.andThen_ok, run_loadVar_cells w A ty es d (hC w hc) hu hd hi]
  exact ⟨rfl, rfl⟩

theorem wpList_load_cells {P : Program} {ops : Array Oper} {rest : List Oper} {o : Oper} {a : Act} {w : World} {Q : Exit → Act → World → Prop} (hgd : o.guard = none) (ty : TypeId) (x : Operand) (ho : o.op = .load ty x)
    (A : Addr) (hx : a.eval x = .pointer (some A)) (es : Array Value) (d : TypeDesc) (hp : ∀ j v, es[j]? = some v → w.cell? (A.add j) = some v)
    (hu : P.underlying ty = some d) (hd : (match d with | .struct _ | .array _ _ => true | _ => false) = true) (hi : (P.info? ty).map (·.size) = some es.size)
    (h : wpList P ops Q rest (a.put o.dst (.agg es)) w) : wpList P ops Q (o :: rest) a w :=
  wpList_plain hgd fun _ hK => by
    unfold Oper.wp execOp
    simp only [ho, hx, Instr.loadAt, Instr.sureAddr, Sem.run_bind, Sem.run_pure, Result.andThen_ok, run_loadVar_cells w A ty es d hp hu hd hi]
    exact hK _ _ h
end Go.Proofs.YtjagicnkfmndeaaDoor
