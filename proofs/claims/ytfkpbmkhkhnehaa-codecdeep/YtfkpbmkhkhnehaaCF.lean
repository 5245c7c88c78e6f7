/-
  A region that draws its order, order by order: what may come first, each carried out as in a plain region.
-/
import Derived.Test.YtfkpbmkhkhnehaaCE
import Derived.Recover
namespace Go.Proofs.Ytfkpbmkhkhnehaa.sh
open Go Go.RowKit
set_option linter.unusedVariables false
set_option linter.unusedSimpArgs false

section
variable {P : Program} {ops : Array Oper} {Q : Exit → Act → World → Prop} {a : Act} {w : World}
theorem wp_then {o : Oper} {K X : Act → World → Prop} (h : o.wp P a w X (Exit.then K Q)) : o.wp P a w X Q := by
  unfold Oper.wp at *
  generalize (execOp a.eval o).run P w = r at *
  cases r with
  | ok n w' => cases n <;> exact h
  | halt x w' => cases x <;> exact h
theorem any_op {i : Nat} {o : Oper} {K : Act → World → Prop} (ho : ops[i]? = some o) (h : wpList P ops (Exit.then K Q) [o] a w) : wpOp P ops Q i K a w := by
  unfold wpOp
  simp only [ho]
  unfold wpList at h
  split
  · next hw =>
    rw [if_pos hw] at h
    rcases h with h | h
    · exact .inl (wp_then (Oper.wp_mono (fun a w h => h) h))
    · exact .inr h
  · next hw =>
    rw [if_neg hw] at h
    exact h
theorem any0 {n : Nat} {listed : Array Bool} (hr : Region.ready .any ops listed = []) (h : Q .normal a w) : wpAny P .any ops Q n listed a w := by
  cases n with
  | zero => exact ⟨hr, h⟩
  | succ n => exact ⟨fun _ => h, fun i hi => by rw [hr] at hi; cases hi⟩
theorem any1 {n f i : Nat} {o : Oper} {listed : Array Bool} (hn : n = f + 1) (hr : Region.ready .any ops listed = [i]) (ho : ops[i]? = some o) (h : wpList P ops (Exit.then (wpAny P .any ops Q f (listed.setIfInBounds i true)) Q) [o] a w) : wpAny P .any ops Q n listed a w := by
  subst hn
  refine ⟨fun h => (by rw [hr] at h; cases h), fun j hj => ?_⟩
  rw [hr, List.mem_singleton] at hj
  subst hj
  exact any_op ho h
theorem any2 {n f i j : Nat} {o u : Oper} {listed : Array Bool} (hn : n = f + 1) (hr : Region.ready .any ops listed = [i, j]) (ho : ops[i]? = some o) (hu : ops[j]? = some u) (h : wpList P ops (Exit.then (wpAny P .any ops Q f (listed.setIfInBounds i true)) Q) [o] a w) (h2 : wpList P ops (Exit.then (wpAny P .any ops Q f (listed.setIfInBounds j true)) Q) [u] a w) : wpAny P .any ops Q n listed a w := by
  subst hn
  refine ⟨fun h => (by rw [hr] at h; cases h), fun k hk => ?_⟩
  rw [hr, List.mem_cons, List.mem_singleton] at hk
  rcases hk with rfl | rfl
  · exact any_op ho h
  · exact any_op hu h2
theorem any3 {n f i j k : Nat} {o u x : Oper} {listed : Array Bool} (hn : n = f + 1) (hr : Region.ready .any ops listed = [i, j, k]) (ho : ops[i]? = some o) (hu : ops[j]? = some u) (hx : ops[k]? = some x) (h : wpList P ops (Exit.then (wpAny P .any ops Q f (listed.setIfInBounds i true)) Q) [o] a w) (h2 : wpList P ops (Exit.then (wpAny P .any ops Q f (listed.setIfInBounds j true)) Q) [u] a w) (h3 : wpList P ops (Exit.then (wpAny P .any ops Q f (listed.setIfInBounds k true)) Q) [x] a w) : wpAny P .any ops Q n listed a w := by
  subst hn
  refine ⟨fun h => (by rw [hr] at h; cases h), fun l hl => ?_⟩
  rw [hr, List.mem_cons, List.mem_cons, List.mem_singleton] at hl
  rcases hl with rfl | rfl | rfl
  · exact any_op ho h
  · exact any_op hu h2
  · exact any_op hx h3
/-- Whatever order it draws, it comes to the same. -/
theorem region_to {id : Nat} (C : Act → Act → World → Prop) (hm : P.follows .mixedOrders = true) (h : ∀ Q' : Exit → Act → World → Prop, (∀ a' w', C a a' w' → Q' .normal a' w') → (∀ ch a' w', Q (.panic ch) a' w' → Q' (.panic ch) a' w') → wpAny P .any ops Q' ops.size (Array.replicate ops.size false) a { w with drawn := w.drawn + 1 }) (hq : ∀ a' w', C a a' w' → Q .normal a' w') : (Code.region id ops true).wp P Q a w :=
  wp_region_any hm (h Q hq fun _ _ _ h => h)
theorem put_comm (a : Act) (d e : Nat) (h : d ≠ e) (x y : Value) : (a.put (some d) x).put (some e) y = (a.put (some e) y).put (some d) x := by
  unfold Act.put
  simp only
  rw [Array.setIfInBounds_comm _ _ h]
end

section
variable {P : Program} {ops : Array Oper} {Q : Exit → Act → World → Prop} {a : Act} {w : World} {rest : List Oper} {o : Oper}
/-- A call in a plain list, by its contract: it returns. -/
theorem wl_callC (hgd : o.guard = none) (f : Nat) (fn : Func) (c : Code) (xs : List Operand) (ts : Array TypeId) (args : Array Value) (ho : o.op = .call { callee := .value (.func f), args := xs.toArray, argTypes := ts }) (hx : (xs.map a.eval).toArray = args) (hf : P.funcs[f]? = some fn) (hname : (fn.name == "runtime.NumGoroutine") = false) (hb : fn.body = some c) {R : Value → World → Prop}
    (hc : Calls P f args w fun e w' => ∃ v, e = .returned v ∧ R v w') (h : ∀ v w', R v w' → wpList P ops Q rest (a.put o.dst v) w') : wpList P ops Q (o :: rest) a w :=
  wpList_plain hgd fun K hK => by
    have h1 : fn.name ≠ "runtime.NumGoroutine" := by simpa using hname
    have hrun : (execOp a.eval o).run P w = .ok (.enter f args) w := by
      rw [← hx]
      unfold execOp
      simp only [ho, resolve, List.map_toArray, Act.eval]
      simp [Deferred.ofValue, invoke, callFunc, hf, h1, hb]
    unfold Oper.wp
    rw [hrun]
    simp only [Oper.upon]
    refine hc.mono fun e w' hh => ?_
    obtain ⟨v, rfl, hR⟩ := hh
    exact hK _ _ (h v w' hR)
/-- .. it panics. -/
theorem wl_callP (hgd : o.guard = none) (f : Nat) (fn : Func) (c : Code) (xs : List Operand) (ts : Array TypeId) (args : Array Value) (ho : o.op = .call { callee := .value (.func f), args := xs.toArray, argTypes := ts }) (hx : (xs.map a.eval).toArray = args) (hf : P.funcs[f]? = some fn) (hname : (fn.name == "runtime.NumGoroutine") = false) (hb : fn.body = some c)
    (hc : Calls P f args w fun e w' => ∃ ch, e = .panicked ch ∧ Q (.panic ch) a w') : wpList P ops Q (o :: rest) a w :=
  wpList_plain hgd fun K hK => by
    have h1 : fn.name ≠ "runtime.NumGoroutine" := by simpa using hname
    have hrun : (execOp a.eval o).run P w = .ok (.enter f args) w := by
      rw [← hx]
      unfold execOp
      simp only [ho, resolve, List.map_toArray, Act.eval]
      simp [Deferred.ofValue, invoke, callFunc, hf, h1, hb]
    unfold Oper.wp
    rw [hrun]
    simp only [Oper.upon]
    refine hc.mono fun e w' hh => ?_
    obtain ⟨ch, rfl, hR⟩ := hh
    exact hR
end
end Go.Proofs.Ytfkpbmkhkhnehaa.sh
