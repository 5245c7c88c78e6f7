/-
  The same, told for one block and for two blocks that are made and filled; what is asked of each operation, one by one.
-/
import Derived.Test.YtanfjkmkfcekmaaDoorAny
import Derived.Test.YtanfjkmkfcekmaaDoorPart
namespace Go.Proofs.YtanfjkmkfcekmaaDoor
open Go Go.RowKit
set_option linter.unusedVariables false
set_option linter.unusedSimpArgs false

def putAll (a : Act) (vals : List (Nat × Value)) : Act := vals.foldl (fun a p => a.put (some p.1) p.2) a
theorem putAll_size : ∀ (vals : List (Nat × Value)) (a : Act), (putAll a vals).tmps.size = a.tmps.size
  | [], a => rfl
  | p :: r, a => by show (putAll (a.put (some p.1) p.2) r).tmps.size = _; rw [putAll_size r, size_put]
theorem putAll_defers : ∀ (vals : List (Nat × Value)) (a : Act), (putAll a vals).defers = a.defers
  | [], a => rfl
  | p :: r, a => by show (putAll (a.put (some p.1) p.2) r).defers = _; rw [putAll_defers r]; rfl
theorem putAll_out {d : Nat} : ∀ (vals : List (Nat × Value)) (a : Act), (∀ p ∈ vals, p.1 ≠ d) → (putAll a vals).tmps[d]? = a.tmps[d]?
  | [], a, _ => rfl
  | p :: r, a, h => by
    show (putAll (a.put (some p.1) p.2) r).tmps[d]? = _
    rw [putAll_out r _ (fun q hq => h q (List.mem_cons_of_mem _ hq))]
    simp [Act.put, Array.getElem?_setIfInBounds_ne (h p List.mem_cons_self)]

def OkFrom (l : List Oper) (kd : Nat → Kd) (A : Act) (W0 : World) : Nat → List Oper → Prop
  | _, [] => True
  | i, o :: r => OpOk l kd A W0 i o ∧ OkFrom l kd A W0 (i + 1) r
theorem okFrom_spec {l : List Oper} {kd : Nat → Kd} {A : Act} {W0 : World} : ∀ (r : List Oper) (k : Nat), OkFrom l kd A W0 k r → ∀ i o, r[i]? = some o → OpOk l kd A W0 (k + i) o
  | [], _, _, i, o, h => by simp at h
  | x :: r, k, hk, 0, o, h => by simp at h; subst h; exact hk.1
  | x :: r, k, hk, i + 1, o, h => by
    have := okFrom_spec r (k + 1) hk.2 i o (by simpa using h)
    rwa [show k + 1 + i = k + (i + 1) from by omega] at this

def kd2 (i1 i2 i3 i4 n1 n2 : Nat) : Nat → Kd := fun i => if i = i1 then .new else if i = i2 then .new else if i = i3 then .put i1 n1 else if i = i4 then .put i2 n2 else .q
def kd1 (i1 i3 n1 : Nat) : Nat → Kd := fun i => if i = i1 then .new else if i = i3 then .put i1 n1 else .q

def valsIn (l : List Oper) (vals : List (Nat × Value)) : Bool := vals.all fun p => l.any fun o => o.dst == some p.1
theorem valsIn_spec {l : List Oper} {vals : List (Nat × Value)} (h : valsIn l vals = true) {d : Nat} (hd : ∀ (i : Nat) (o : Oper), l[i]? = some o → o.dst ≠ some d) : ∀ p ∈ vals, p.1 ≠ d := by
  intro p hp e
  have h1 := List.all_eq_true.1 h p hp
  obtain ⟨o, ho, h2⟩ := List.any_eq_true.1 h1
  obtain ⟨i, hi⟩ := List.getElem?_of_mem ho
  exact hd i o hi (by rw [← e]; simpa using h2)

abbrev ptrTo (g : Nat) : Value := .pointer (some ⟨g, 0, none⟩)

theorem act_ext {a b : Act} (h1 : a.tmps = b.tmps) (h2 : a.defers = b.defers) : a = b := by cases a; cases b; simp_all

theorem region_made2 {id : Nat} {l : List Oper} {a : Act} {w W0 : World} {Q : Exit → Act → World → Prop} (vals : List (Nat × Value)) (i1 i2 i3 i4 d1 d2 n1 n2 : Nat)
    (hm : Tryd.prog.follows .mixedOrders = true) (hE : edgesIn l = true) (hG : (l.all fun o => o.guard.isNone) = true) (hsel : Region.noSelect l.toArray = true) (hA : dstsApart l 0 = true) (hL : looksB l (kd2 i1 i2 i3 i4 n1 n2) = true)
    (hI : dstsIn l a.tmps.size = true) (hv : valsIn l vals = true) (hi : decide ((i1 < l.length ∧ i2 < l.length ∧ i3 < l.length ∧ i4 < l.length) ∧ i1 ≠ i2 ∧ i1 ≠ i3 ∧ i1 ≠ i4 ∧ i2 ≠ i3 ∧ i2 ≠ i4 ∧ i3 ≠ i4) = true) (hd1 : (l[i1]?).bind (·.dst) = some d1) (hd2 : (l[i2]?).bind (·.dst) = some d2) (hdd : decide (d1 ≠ d2 ∧ d1 < a.tmps.size ∧ d2 < a.tmps.size) = true)
    (hw : Below W0.heap.size W0 w) (hok : OkFrom l (kd2 i1 i2 i3 i4 n1 n2) (putAll a vals) W0 0 l)
    (hfin : ∀ g1 g2 w', W0.heap.size ≤ g1 → W0.heap.size ≤ g2 → g1 ≠ g2 → At w' g1 n1 → At w' g2 n2 → Below W0.heap.size W0 w' → Q .normal (((putAll a vals).put (some d1) (ptrTo g1)).put (some d2) (ptrTo g2)) w') :
    (Code.region id l.toArray true).wp Tryd.prog Q a w := by
  replace hdd := of_decide_eq_true hdd
  obtain ⟨⟨l1, l2, l3, l4⟩, n12, n13, n14, n23, n24, n34⟩ := of_decide_eq_true hi
  have k1 : kd2 i1 i2 i3 i4 n1 n2 i1 = .new := by simp [kd2]
  have k2 : kd2 i1 i2 i3 i4 n1 n2 i2 = .new := by simp [kd2, Ne.symm n12]
  have k3 : kd2 i1 i2 i3 i4 n1 n2 i3 = .put i1 n1 := by simp [kd2, Ne.symm n13, Ne.symm n23]
  have k4 : kd2 i1 i2 i3 i4 n1 n2 i4 = .put i2 n2 := by simp [kd2, Ne.symm n14, Ne.symm n24, Ne.symm n34]
  have hok' := fun (i : Nat) (o : Oper) (h : l[i]? = some o) => by have := okFrom_spec l 0 hok i o h; rwa [Nat.zero_add] at this
  refine region_any (kd2 i1 i2 i3 i4 n1 n2) (putAll a vals) hm hE hG hsel hA hL ?_ hI (putAll_size _ _).symm (putAll_defers _ _).symm (fun d hd => (putAll_out vals a (valsIn_spec hv hd)).symm) hw hok' ?_
  · intro i i' j n n' h h'
    simp only [kd2] at h h'
    split at h <;> first | cases h | skip
    split at h <;> first | cases h | skip
    split at h' <;> first | cases h' | skip
    split at h' <;> first | cases h' | skip
    split at h
    · cases h
      split at h'
      · omega
      · split at h' <;> cases h'
        exact absurd rfl n12
    · split at h <;> cases h
      split at h'
      · cases h'; exact absurd rfl n12
      · split at h' <;> cases h'
        omega
  · intro g a' w' hF hH
    have on : ∀ i, i < l.length → (fun i => decide (i < l.length)) i = true := fun i h => by simpa using h
    obtain ⟨o1, ho1⟩ : ∃ o1, l[i1]? = some o1 := ⟨_, List.getElem?_eq_getElem l1⟩
    obtain ⟨o2, ho2⟩ : ∃ o2, l[i2]? = some o2 := ⟨_, List.getElem?_eq_getElem l2⟩
    rw [ho1] at hd1
    rw [ho2] at hd2
    simp only [Option.bind_some] at hd1 hd2
    have p1 := hF.ptr i1 o1 d1 ho1 (on _ l1) k1 hd1
    have p2 := hF.ptr i2 o2 d2 ho2 (on _ l2) k2 hd2
    have hsz := hF.size
    rw [putAll_size] at hsz
    have e : a' = ((putAll a vals).put (some d1) (ptrTo (g i1))).put (some d2) (ptrTo (g i2)) := by
      refine act_ext (Array.ext_getElem? fun d => ?_) hF.defers
      by_cases h2 : d = d2
      · subst h2
        rw [p2]
        simp [Act.put, putAll_size, hdd.2.2]
      · by_cases h1 : d = d1
        · subst h1
          rw [p1]
          show _ = (((putAll a vals).tmps.setIfInBounds d (ptrTo (g i1))).setIfInBounds d2 (ptrTo (g i2)))[d]?
          rw [Array.getElem?_setIfInBounds_ne (Ne.symm h2), Array.getElem?_setIfInBounds_self_of_lt (by rw [putAll_size]; exact hdd.2.1)]
        · have e1 : (((putAll a vals).put (some d1) (ptrTo (g i1))).put (some d2) (ptrTo (g i2))).tmps[d]? = (putAll a vals).tmps[d]? := by
            simp [Act.put, Array.getElem?_setIfInBounds_ne (Ne.symm h2), Array.getElem?_setIfInBounds_ne (Ne.symm h1)]
          rw [e1]
          by_cases hout : ∀ (i : Nat) (o : Oper), l[i]? = some o → o.dst ≠ some d
          · exact hF.out d hout
          · simp only [Classical.not_forall] at hout
            obtain ⟨i, o, ho, hdo⟩ := hout
            have hdo' : o.dst = some d := Classical.not_not.1 hdo
            have hil : i < l.length := (List.getElem?_eq_some_iff.1 ho).1
            cases hk : kd2 i1 i2 i3 i4 n1 n2 i with
            | q => exact hF.val i o d ho (on _ hil) hk hdo'
            | new =>
              exfalso
              simp only [kd2] at hk
              split at hk
              · next h => subst h; rw [ho1] at ho; cases ho; rw [hd1] at hdo'; exact h1 (Option.some.inj hdo').symm
              · split at hk
                · next h => subst h; rw [ho2] at ho; cases ho; rw [hd2] at hdo'; exact h2 (Option.some.inj hdo').symm
                · split at hk <;> first | cases hk | (split at hk <;> cases hk)
            | put j n =>
              exfalso
              have := hok' i o ho
              unfold OpOk at this
              rw [hk] at this
              obtain ⟨_, _, h3, _⟩ := this
              rw [h3] at hdo'
              cases hdo'
    rw [e]
    exact hfin (g i1) (g i2) w' (hH.room i1 (on _ l1) k1).1 (hH.room i2 (on _ l2) k2).1 (hH.inj i1 i2 (on _ l1) (on _ l2) k1 k2 n12) (hH.got i3 i1 n1 (on _ l3) k3).2.2 (hH.got i4 i2 n2 (on _ l4) k4).2.2 hH.below

theorem region_made1 {id : Nat} {l : List Oper} {a : Act} {w W0 : World} {Q : Exit → Act → World → Prop} (vals : List (Nat × Value)) (i1 i3 d1 n1 : Nat)
    (hm : Tryd.prog.follows .mixedOrders = true) (hE : edgesIn l = true) (hG : (l.all fun o => o.guard.isNone) = true) (hsel : Region.noSelect l.toArray = true) (hA : dstsApart l 0 = true) (hL : looksB l (kd1 i1 i3 n1) = true)
    (hI : dstsIn l a.tmps.size = true) (hv : valsIn l vals = true) (hi : decide ((i1 < l.length ∧ i3 < l.length) ∧ i1 ≠ i3) = true) (hd1 : (l[i1]?).bind (·.dst) = some d1) (hdd : decide (d1 < a.tmps.size) = true)
    (hw : Below W0.heap.size W0 w) (hok : OkFrom l (kd1 i1 i3 n1) (putAll a vals) W0 0 l)
    (hfin : ∀ g1 w', W0.heap.size ≤ g1 → At w' g1 n1 → Below W0.heap.size W0 w' → Q .normal ((putAll a vals).put (some d1) (ptrTo g1)) w') :
    (Code.region id l.toArray true).wp Tryd.prog Q a w := by
  replace hdd := of_decide_eq_true hdd
  obtain ⟨⟨l1, l3⟩, n13⟩ := of_decide_eq_true hi
  have k1 : kd1 i1 i3 n1 i1 = .new := by simp [kd1]
  have k3 : kd1 i1 i3 n1 i3 = .put i1 n1 := by simp [kd1, Ne.symm n13]
  have hok' := fun (i : Nat) (o : Oper) (h : l[i]? = some o) => by have := okFrom_spec l 0 hok i o h; rwa [Nat.zero_add] at this
  refine region_any (kd1 i1 i3 n1) (putAll a vals) hm hE hG hsel hA hL ?_ hI (putAll_size _ _).symm (putAll_defers _ _).symm (fun d hd => (putAll_out vals a (valsIn_spec hv hd)).symm) hw hok' ?_
  · intro i i' j n n' h h'
    simp only [kd1] at h h'
    split at h <;> first | cases h | skip
    split at h' <;> first | cases h' | skip
    split at h <;> first | cases h | skip
    split at h' <;> first | cases h' | skip
    omega
  · intro g a' w' hF hH
    have on : ∀ i, i < l.length → (fun i => decide (i < l.length)) i = true := fun i h => by simpa using h
    obtain ⟨o1, ho1⟩ : ∃ o1, l[i1]? = some o1 := ⟨_, List.getElem?_eq_getElem l1⟩
    rw [ho1] at hd1
    simp only [Option.bind_some] at hd1
    have p1 := hF.ptr i1 o1 d1 ho1 (on _ l1) k1 hd1
    have e : a' = (putAll a vals).put (some d1) (ptrTo (g i1)) := by
      refine act_ext (Array.ext_getElem? fun d => ?_) hF.defers
      by_cases h1 : d = d1
      · subst h1
        rw [p1]
        simp [Act.put, putAll_size, hdd]
      · have e1 : ((putAll a vals).put (some d1) (ptrTo (g i1))).tmps[d]? = (putAll a vals).tmps[d]? := by
          simp [Act.put, Array.getElem?_setIfInBounds_ne (Ne.symm h1)]
        rw [e1]
        by_cases hout : ∀ (i : Nat) (o : Oper), l[i]? = some o → o.dst ≠ some d
        · exact hF.out d hout
        · simp only [Classical.not_forall] at hout
          obtain ⟨i, o, ho, hdo⟩ := hout
          have hdo' : o.dst = some d := Classical.not_not.1 hdo
          have hil : i < l.length := (List.getElem?_eq_some_iff.1 ho).1
          cases hk : kd1 i1 i3 n1 i with
          | q => exact hF.val i o d ho (on _ hil) hk hdo'
          | new =>
            exfalso
            simp only [kd1] at hk
            split at hk
            · next h => subst h; rw [ho1] at ho; cases ho; rw [hd1] at hdo'; exact h1 (Option.some.inj hdo').symm
            · split at hk <;> cases hk
          | put j n =>
            exfalso
            have := hok' i o ho
            unfold OpOk at this
            rw [hk] at this
            obtain ⟨_, _, h3, _⟩ := this
            rw [h3] at hdo'
            cases hdo'
    rw [e]
    exact hfin (g i1) w' (hH.room i1 (on _ l1) k1).1 (hH.got i3 i1 n1 (on _ l3) k3).2.2 hH.below

section
variable {l : List Oper} {kd : Nat → Kd} {A : Act} {W0 : World} {i : Nat} {o : Oper}

theorem ok_val (hk : kd i = .q) (d : Nat) (v : Value) (hd : o.dst = some d) (hv : A.tmps[d]? = some v) (hrun : ∀ w, (execOp A.eval o).run Tryd.prog w = .ok (.value v) w) : OpOk l kd A W0 i o := by
  unfold OpOk
  rw [hk]
  refine ⟨d, v, hd, hv, fun w _ => ?_⟩
  unfold Oper.quietAt
  rw [hrun]
  exact ⟨rfl, rfl⟩

theorem ok_get (hk : kd i = .q) (d g n : Nat) (x : Operand) (hd : o.dst = some d) (hv : A.tmps[d]? = some (.agg (numA n))) (ho : o.op = .load 22 x) (hx : A.eval x = .pointer (some ⟨g, 0, none⟩)) (hg : ∀ w, Below W0.heap.size W0 w → At w g n) : OpOk l kd A W0 i o := by
  unfold OpOk
  rw [hk]
  refine ⟨d, _, hd, hv, fun w hw => ?_⟩
  unfold Oper.quietAt execOp
  simp only [ho, hx, Instr.loadAt, Instr.sureAddr, Sem.run_bind, Sem.run_pure, Result.andThen_ok, run_loadVar_row w g 22 22 (numA n) (0, 0) _ (hg w hw) Tryd.underlying22 rfl (by rw [numA_size]; kernel_rfl)]
  exact ⟨rfl, rfl⟩

theorem ok_part (hk : kd i = .q) (d g off n : Nat) (t : TypeId) (cs : Array Value) (x : Operand) (hd : o.dst = some d) (hv : A.tmps[d]? = some (.agg (numA n))) (ho : o.op = .load 22 x) (hx : A.eval x = .pointer (some ⟨g, off, none⟩)) (hg : ∀ w, Below W0.heap.size W0 w → w.heap[g]? = some (.cells cs t (0, 0))) (hp : ∀ j v, (numA n)[j]? = some v → cs[off + j]? = some v) : OpOk l kd A W0 i o := by
  unfold OpOk
  rw [hk]
  refine ⟨d, _, hd, hv, fun w hw => ?_⟩
  unfold Oper.quietAt execOp
  simp only [ho, hx, Instr.loadAt, Instr.sureAddr, Sem.run_bind, Sem.run_pure, Result.andThen_ok, run_loadVar_at w g off t 22 cs (numA n) (0, 0) _ (hg w hw) hp Tryd.underlying22 rfl (by rw [numA_size]; kernel_rfl)]
  exact ⟨rfl, rfl⟩

theorem ok_call (hk : kd i = .q) (d f : Nat) (fn : Func) (c : Code) (x : Operand) (args : List Operand) (ts : Array TypeId) (vs : List Value) (v : Value) (hd : o.dst = some d) (hv : A.tmps[d]? = some v) (ho : o.op = .call { callee := .value x, args := args.toArray, argTypes := ts }) (hx : A.eval x = .func (.func f) #[] #[])
    (hargs : args.map A.eval = vs) (hf : Tryd.prog.funcs[f]? = some fn) (hname : (fn.name == "runtime.NumGoroutine") = false) (hb : fn.body = some c)
    (hc : ∀ w, Below W0.heap.size W0 w → Calls Tryd.prog f vs.toArray w fun e w' => e = .returned v ∧ Below w.heap.size w w') : OpOk l kd A W0 i o := by
  unfold OpOk
  rw [hk]
  refine ⟨d, v, hd, hv, fun w hw => ?_⟩
  have h1 : fn.name ≠ "runtime.NumGoroutine" := by simpa using hname
  have ha : args.toArray.map A.eval = vs.toArray := by rw [List.map_toArray, hargs]
  have hrun : (execOp A.eval o).run Tryd.prog w = .ok (.enter f vs.toArray) w := by
    unfold execOp
    simp only [ho, resolve, ha, hx]
    simp [Deferred.ofValue, invoke, callFunc, hf, h1, hb]
  unfold Oper.quietAt
  rw [hrun]
  exact ⟨rfl, hc w hw⟩

theorem ok_new (hk : kd i = .new) (d : Nat) (hd : o.dst = some d) (cs : Array Value) (hcs : cs.size = 32) (hmk : Makes Tryd.prog o (.cells cs 22 (0, 0))) : OpOk l kd A W0 i o := by
  unfold OpOk
  rw [hk]
  exact ⟨⟨d, hd⟩, cs, hcs, hmk⟩

theorem ok_put (j n dx dy : Nat) (hk : kd i = .put j n) (hd : o.dst = none) (hop : o.op = .store 22 (.tmp dx) (.tmp dy)) (hv : A.tmps[dy]? = some (.agg (numA n))) (hkj : kd j = .new) (hj : (l[j]?).bind (·.dst) = some dx) (hx : (o.after.any fun e => Region.binds .any e && e.on == j) = true)
    (hy : (o.after.any fun e => Region.binds .any e && isQ (kd e.on) && ((l[e.on]?).bind (·.dst) == some dy)) = true) : OpOk l kd A W0 i o := by
  unfold OpOk
  rw [hk]
  refine ⟨dx, dy, hd, hop, hv, ?_, ?_⟩
  · obtain ⟨e, he, h1⟩ := Array.any_eq_true'.1 hx
    simp only [Bool.and_eq_true, beq_iff_eq] at h1
    cases hl : l[j]? with
    | none => simp [hl] at hj
    | some oj => exact ⟨e, he, h1.1, h1.2, hkj, oj, rfl, by simpa [hl] using hj⟩
  · obtain ⟨e, he, h1⟩ := Array.any_eq_true'.1 hy
    simp only [Bool.and_eq_true, beq_iff_eq] at h1
    cases hl : l[e.on]? with
    | none => simp [hl] at h1
    | some oy => exact ⟨e, he, h1.1.1, isQ_eq h1.1.2, oy, hl, by simpa [hl] using h1.2⟩
end

def zero32 : Array Value := #[.int .u8 0, .int .u8 0, .int .u8 0, .int .u8 0, .int .u8 0, .int .u8 0, .int .u8 0, .int .u8 0, .int .u8 0, .int .u8 0, .int .u8 0, .int .u8 0, .int .u8 0, .int .u8 0, .int .u8 0, .int .u8 0, .int .u8 0, .int .u8 0, .int .u8 0, .int .u8 0, .int .u8 0, .int .u8 0, .int .u8 0, .int .u8 0, .int .u8 0, .int .u8 0, .int .u8 0, .int .u8 0, .int .u8 0, .int .u8 0, .int .u8 0, .int .u8 0]
theorem makes_num {d : Option Tmp} {ty : TypeId} {pos : String} {after : Array Edge} {guard : Option (Nat × Bool)} : Makes Tryd.prog { dst := d, op := .alloc 22, type := ty, pos := pos, after := after, guard := guard } (.cells zero32 22 (0, 0)) := fun a w => by
  kernel_rfl
end Go.Proofs.YtanfjkmkfcekmaaDoor
