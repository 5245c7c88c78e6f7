/-
  General pieces, joined: Any2 Quad D0 D1 R7 R8 R9.
-/
import Derived.Test.YtjkdonjcngmjeaaDoorG06
import Derived.Test.YtjkdonjcngmjeaaDoorG03
import Derived.Test.YtjkdonjcngmjeaaDoorG05
import Derived.Deep.LoopGhost
/-
  The same, told for one block and for two blocks that are made and filled; what is asked of each operation, one by one.
-/
namespace Go.Proofs.YtjkdonjcngmjeaaDoor
open Go Go.RowKit
set_option linter.unusedVariables false
set_option linter.unusedSimpArgs false

def putAll (a : Act) (vals : List (Nat × Value)) : Act := vals.foldl (fun a p => a.put (some p.1) p.2) a
theorem putAll_size : ∀ (vals : List (Nat × Value)) (a : Act), (putAll a vals).tmps.size = a.tmps.size
  | [], a => rfl
  | p :: r, a => by show (putAll (a.put (some p.1) p.2) r).tmps.size = _; rw [putAll_size r, size_put]
theorem putAll_defers : ∀ (vals : List (Nat × Value)) (a : Act), (putAll a vals).defers = a.defers
  | [], a => rfl
  | p :: r, a => by show (putAll (a.put (some p.1) p.2) r).defers = _; rw [putAll_defers r]; rfl
theorem putAll_out {d : Nat} : ∀ (vals : List (Nat × Value)) (a : Act), (∀ p ∈ vals, p.1 ≠ d) → (putAll a vals).tmps[d]? = a.tmps[d]?
  | [], a, _ => rfl
  | p :: r, a, h => by
    show (putAll (a.put (some p.1) p.2) r).tmps[d]? = _
    rw [putAll_out r _ (fun q hq => h q (List.mem_cons_of_mem _ hq))]
    simp [Act.put, Array.getElem?_setIfInBounds_ne (h p List.mem_cons_self)]

def OkFrom (l : List Oper) (kd : Nat → Kd) (A : Act) (W0 : World) : Nat → List Oper → Prop
  | _, [] => True
  | i, o :: r => OpOk l kd A W0 i o ∧ OkFrom l kd A W0 (i + 1) r
theorem okFrom_spec {l : List Oper} {kd : Nat → Kd} {A : Act} {W0 : World} : ∀ (r : List Oper) (k : Nat), OkFrom l kd A W0 k r → ∀ i o, r[i]? = some o → OpOk l kd A W0 (k + i) o
  | [], _, _, i, o, h => by simp at h
  | x :: r, k, hk, 0, o, h => by simp at h; subst h; exact hk.1
  | x :: r, k, hk, i + 1, o, h => by
    have := okFrom_spec r (k + 1) hk.2 i o (by simpa using h)
    rwa [show k + 1 + i = k + (i + 1) from by omega] at this

def kd2 (i1 i2 i3 i4 n1 n2 : Nat) : Nat → Kd := fun i => if i = i1 then .new else if i = i2 then .new else if i = i3 then .put i1 n1 else if i = i4 then .put i2 n2 else .q
def kd1 (i1 i3 n1 : Nat) : Nat → Kd := fun i => if i = i1 then .new else if i = i3 then .put i1 n1 else .q

def valsIn (l : List Oper) (vals : List (Nat × Value)) : Bool := vals.all fun p => l.any fun o => o.dst == some p.1
theorem valsIn_spec {l : List Oper} {vals : List (Nat × Value)} (h : valsIn l vals = true) {d : Nat} (hd : ∀ (i : Nat) (o : Oper), l[i]? = some o → o.dst ≠ some d) : ∀ p ∈ vals, p.1 ≠ d := by
  intro p hp e
  have h1 := List.all_eq_true.1 h p hp
  obtain ⟨o, ho, h2⟩ := List.any_eq_true.1 h1
  obtain ⟨i, hi⟩ := List.getElem?_of_mem ho
  exact hd i o hi (by rw [← e]; simpa using h2)

abbrev ptrTo (g : Nat) : Value := .pointer (some ⟨g, 0, none⟩)

theorem act_ext {a b : Act} (h1 : a.tmps = b.tmps) (h2 : a.defers = b.defers) : a = b := by cases a; cases b; simp_all

theorem region_made2 {id : Nat} {l : List Oper} {a : Act} {w W0 : World} {Q : Exit → Act → World → Prop} (vals : List (Nat × Value)) (i1 i2 i3 i4 d1 d2 n1 n2 : Nat)
    (hm : Tryd.prog.follows .mixedOrders = true) (hE : edgesIn l = true) (hG : (l.all fun o => o.guard.isNone) = true) (hsel : Region.noSelect l.toArray = true) (hA : dstsApart l 0 = true) (hL : looksB l (kd2 i1 i2 i3 i4 n1 n2) = true)
    (hI : dstsIn l a.tmps.size = true) (hv : valsIn l vals = true) (hi : decide ((i1 < l.length ∧ i2 < l.length ∧ i3 < l.length ∧ i4 < l.length) ∧ i1 ≠ i2 ∧ i1 ≠ i3 ∧ i1 ≠ i4 ∧ i2 ≠ i3 ∧ i2 ≠ i4 ∧ i3 ≠ i4) = true) (hd1 : (l[i1]?).bind (·.dst) = some d1) (hd2 : (l[i2]?).bind (·.dst) = some d2) (hdd : decide (d1 ≠ d2 ∧ d1 < a.tmps.size ∧ d2 < a.tmps.size) = true)
    (hw : Below W0.heap.size W0 w) (hok : OkFrom l (kd2 i1 i2 i3 i4 n1 n2) (putAll a vals) W0 0 l)
    (hfin : ∀ g1 g2 w', W0.heap.size ≤ g1 → W0.heap.size ≤ g2 → g1 ≠ g2 → At w' g1 n1 → At w' g2 n2 → Below W0.heap.size W0 w' → Q .normal (((putAll a vals).put (some d1) (ptrTo g1)).put (some d2) (ptrTo g2)) w') :
    (Code.region id l.toArray true).wp Tryd.prog Q a w := by
  replace hdd := of_decide_eq_true hdd
  obtain ⟨⟨l1, l2, l3, l4⟩, n12, n13, n14, n23, n24, n34⟩ := of_decide_eq_true hi
  have k1 : kd2 i1 i2 i3 i4 n1 n2 i1 = .new := by simp [kd2]
  have k2 : kd2 i1 i2 i3 i4 n1 n2 i2 = .new := by simp [kd2, Ne.symm n12]
  have k3 : kd2 i1 i2 i3 i4 n1 n2 i3 = .put i1 n1 := by simp [kd2, Ne.symm n13, Ne.symm n23]
  have k4 : kd2 i1 i2 i3 i4 n1 n2 i4 = .put i2 n2 := by simp [kd2, Ne.symm n14, Ne.symm n24, Ne.symm n34]
  have hok' := fun (i : Nat) (o : Oper) (h : l[i]? = some o) => by have := okFrom_spec l 0 hok i o h; rwa [Nat.zero_add] at this
  refine region_any (kd2 i1 i2 i3 i4 n1 n2) (putAll a vals) hm hE hG hsel hA hL ?_ hI (putAll_size _ _).symm (putAll_defers _ _).symm (fun d hd => (putAll_out vals a (valsIn_spec hv hd)).symm) hw hok' ?_
  · intro i i' j n n' h h'
    simp only [kd2] at h h'
    split at h <;> first | cases h | skip
    split at h <;> first | cases h | skip
    split at h' <;> first | cases h' | skip
    split at h' <;> first | cases h' | skip
    split at h
    · cases h
      split at h'
      · omega
      · split at h' <;> cases h'
        exact absurd rfl n12
    · split at h <;> cases h
      split at h'
      · cases h'; exact absurd rfl n12
      · split at h' <;> cases h'
        omega
  · intro g a' w' hF hH
    have on : ∀ i, i < l.length → (fun i => decide (i < l.length)) i = true := fun i h => by simpa using h
    obtain ⟨o1, ho1⟩ : ∃ o1, l[i1]? = some o1 := ⟨_, List.getElem?_eq_getElem l1⟩
    obtain ⟨o2, ho2⟩ : ∃ o2, l[i2]? = some o2 := ⟨_, List.getElem?_eq_getElem l2⟩
    rw [ho1] at hd1
    rw [ho2] at hd2
    simp only [Option.bind_some] at hd1 hd2
    have p1 := hF.ptr i1 o1 d1 ho1 (on _ l1) k1 hd1
    have p2 := hF.ptr i2 o2 d2 ho2 (on _ l2) k2 hd2
    have hsz := hF.size
    rw [putAll_size] at hsz
    have e : a' = ((putAll a vals).put (some d1) (ptrTo (g i1))).put (some d2) (ptrTo (g i2)) := by
      refine act_ext (Array.ext_getElem? fun d => ?_) hF.defers
      by_cases h2 : d = d2
      · subst h2
        rw [p2]
        simp [Act.put, putAll_size, hdd.2.2]
      · by_cases h1 : d = d1
        · subst h1
          rw [p1]
          show _ = (((putAll a vals).tmps.setIfInBounds d (ptrTo (g i1))).setIfInBounds d2 (ptrTo (g i2)))[d]?
          rw [Array.getElem?_setIfInBounds_ne (Ne.symm h2), Array.getElem?_setIfInBounds_self_of_lt (by rw [putAll_size]; exact hdd.2.1)]
        · have e1 : (((putAll a vals).put (some d1) (ptrTo (g i1))).put (some d2) (ptrTo (g i2))).tmps[d]? = (putAll a vals).tmps[d]? := by
            simp [Act.put, Array.getElem?_setIfInBounds_ne (Ne.symm h2), Array.getElem?_setIfInBounds_ne (Ne.symm h1)]
          rw [e1]
          by_cases hout : ∀ (i : Nat) (o : Oper), l[i]? = some o → o.dst ≠ some d
          · exact hF.out d hout
          · simp only [Classical.not_forall] at hout
            obtain ⟨i, o, ho, hdo⟩ := hout
            have hdo' : o.dst = some d := Classical.not_not.1 hdo
            have hil : i < l.length := (List.getElem?_eq_some_iff.1 ho).1
            cases hk : kd2 i1 i2 i3 i4 n1 n2 i with
            | q => exact hF.val i o d ho (on _ hil) hk hdo'
            | new =>
              exfalso
              simp only [kd2] at hk
              split at hk
              · next h => subst h; rw [ho1] at ho; cases ho; rw [hd1] at hdo'; exact h1 (Option.some.inj hdo').symm
              · split at hk
                · next h => subst h; rw [ho2] at ho; cases ho; rw [hd2] at hdo'; exact h2 (Option.some.inj hdo').symm
                · split at hk <;> first | cases hk | (split at hk <;> cases hk)
            | put j n =>
              exfalso
              have := hok' i o ho
              unfold OpOk at this
              rw [hk] at this
              obtain ⟨_, _, h3, _⟩ := this
              rw [h3] at hdo'
              cases hdo'
    rw [e]
    exact hfin (g i1) (g i2) w' (hH.room i1 (on _ l1) k1).1 (hH.room i2 (on _ l2) k2).1 (hH.inj i1 i2 (on _ l1) (on _ l2) k1 k2 n12) (hH.got i3 i1 n1 (on _ l3) k3).2.2 (hH.got i4 i2 n2 (on _ l4) k4).2.2 hH.below

theorem region_made1 {id : Nat} {l : List Oper} {a : Act} {w W0 : World} {Q : Exit → Act → World → Prop} (vals : List (Nat × Value)) (i1 i3 d1 n1 : Nat)
    (hm : Tryd.prog.follows .mixedOrders = true) (hE : edgesIn l = true) (hG : (l.all fun o => o.guard.isNone) = true) (hsel : Region.noSelect l.toArray = true) (hA : dstsApart l 0 = true) (hL : looksB l (kd1 i1 i3 n1) = true)
    (hI : dstsIn l a.tmps.size = true) (hv : valsIn l vals = true) (hi : decide ((i1 < l.length ∧ i3 < l.length) ∧ i1 ≠ i3) = true) (hd1 : (l[i1]?).bind (·.dst) = some d1) (hdd : decide (d1 < a.tmps.size) = true)
    (hw : Below W0.heap.size W0 w) (hok : OkFrom l (kd1 i1 i3 n1) (putAll a vals) W0 0 l)
    (hfin : ∀ g1 w', W0.heap.size ≤ g1 → At w' g1 n1 → Below W0.heap.size W0 w' → Q .normal ((putAll a vals).put (some d1) (ptrTo g1)) w') :
    (Code.region id l.toArray true).wp Tryd.prog Q a w := by
  replace hdd := of_decide_eq_true hdd
  obtain ⟨⟨l1, l3⟩, n13⟩ := of_decide_eq_true hi
  have k1 : kd1 i1 i3 n1 i1 = .new := by simp [kd1]
  have k3 : kd1 i1 i3 n1 i3 = .put i1 n1 := by simp [kd1, Ne.symm n13]
  have hok' := fun (i : Nat) (o : Oper) (h : l[i]? = some o) => by have := okFrom_spec l 0 hok i o h; rwa [Nat.zero_add] at this
  refine region_any (kd1 i1 i3 n1) (putAll a vals) hm hE hG hsel hA hL ?_ hI (putAll_size _ _).symm (putAll_defers _ _).symm (fun d hd => (putAll_out vals a (valsIn_spec hv hd)).symm) hw hok' ?_
  · intro i i' j n n' h h'
    simp only [kd1] at h h'
    split at h <;> first | cases h | skip
    split at h' <;> first | cases h' | skip
    split at h <;> first | cases h | skip
    split at h' <;> first | cases h' | skip
    omega
  · intro g a' w' hF hH
    have on : ∀ i, i < l.length → (fun i => decide (i < l.length)) i = true := fun i h => by simpa using h
    obtain ⟨o1, ho1⟩ : ∃ o1, l[i1]? = some o1 := ⟨_, List.getElem?_eq_getElem l1⟩
    rw [ho1] at hd1
    simp only [Option.bind_some] at hd1
    have p1 := hF.ptr i1 o1 d1 ho1 (on _ l1) k1 hd1
    have e : a' = (putAll a vals).put (some d1) (ptrTo (g i1)) := by
      refine act_ext (Array.ext_getElem? fun d => ?_) hF.defers
      by_cases h1 : d = d1
      · subst h1
        rw [p1]
        simp [Act.put, putAll_size, hdd]
      · have e1 : ((putAll a vals).put (some d1) (ptrTo (g i1))).tmps[d]? = (putAll a vals).tmps[d]? := by
          simp [Act.put, Array.getElem?_setIfInBounds_ne (Ne.symm h1)]
        rw [e1]
        by_cases hout : ∀ (i : Nat) (o : Oper), l[i]? = some o → o.dst ≠ some d
        · exact hF.out d hout
        · simp only [Classical.not_forall] at hout
          obtain ⟨i, o, ho, hdo⟩ := hout
          have hdo' : o.dst = some d := Classical.not_not.1 hdo
          have hil : i < l.length := (List.getElem?_eq_some_iff.1 ho).1
          cases hk : kd1 i1 i3 n1 i with
          | q => exact hF.val i o d ho (on _ hil) hk hdo'
          | new =>
            exfalso
            simp only [kd1] at hk
            split at hk
            · next h => subst h; rw [ho1] at ho; cases ho; rw [hd1] at hdo'; exact h1 (Option.some.inj hdo').symm
            · split at hk <;> cases hk
          | put j n =>
            exfalso
            have := hok' i o ho
            unfold OpOk at this
            rw [hk] at this
            obtain ⟨_, _, h3, _⟩ := this
            rw [h3] at hdo'
            cases hdo'
    rw [e]
    exact hfin (g i1) w' (hH.room i1 (on _ l1) k1).1 (hH.got i3 i1 n1 (on _ l3) k3).2.2 hH.below

section
variable {l : List Oper} {kd : Nat → Kd} {A : Act} {W0 : World} {i : Nat} {o : Oper}

theorem ok_val (hk : kd i = .q) (d : Nat) (v : Value) (hd : o.dst = some d) (hv : A.tmps[d]? = some v) (hrun : ∀ w, (execOp A.eval o).run Tryd.prog w = .ok (.value v) w) : OpOk l kd A W0 i o := by
  unfold OpOk
  rw [hk]
  refine ⟨d, v, hd, hv, fun w _ => ?_⟩
  unfold Oper.quietAt
  rw [hrun]
  exact ⟨rfl, rfl⟩

theorem ok_get (hk : kd i = .q) (d g n : Nat) (x : Operand) (hd : o.dst = some d) (hv : A.tmps[d]? = some (.agg (numA n))) (ho : o.op = .load 22 x) (hx : A.eval x = .pointer (some ⟨g, 0, none⟩)) (hg : ∀ w, Below W0.heap.size W0 w → At w g n) : OpOk l kd A W0 i o := by
  unfold OpOk
  rw [hk]
  refine ⟨d, _, hd, hv, fun w hw => ?_⟩
  unfold Oper.quietAt execOp
  simp only [ho, hx, Instr.loadAt, Instr.sureAddr, Sem.run_bind, Sem.run_pure, Result.andThen_ok, run_loadVar_row w g 22 22 (numA n) (0, 0) _ (hg w hw) Tryd.underlying22 rfl (by rw [numA_size]; kernel_rfl)]
  exact ⟨rfl, rfl⟩

theorem ok_part (hk : kd i = .q) (d g off n : Nat) (t : TypeId) (cs : Array Value) (x : Operand) (hd : o.dst = some d) (hv : A.tmps[d]? = some (.agg (numA n))) (ho : o.op = .load 22 x) (hx : A.eval x = .pointer (some ⟨g, off, none⟩)) (hg : ∀ w, Below W0.heap.size W0 w → w.heap[g]? = some (.cells cs t (0, 0))) (hp : ∀ j v, (numA n)[j]? = some v → cs[off + j]? = some v) : OpOk l kd A W0 i o := by
  unfold OpOk
  rw [hk]
  refine ⟨d, _, hd, hv, fun w hw => ?_⟩
  unfold Oper.quietAt execOp
  simp only [ho, hx, Instr.loadAt, Instr.sureAddr, Sem.run_bind, Sem.run_pure, Result.andThen_ok, run_loadVar_at w g off t 22 cs (numA n) (0, 0) _ (hg w hw) hp Tryd.underlying22 rfl (by rw [numA_size]; kernel_rfl)]
  exact ⟨rfl, rfl⟩

theorem ok_call (hk : kd i = .q) (d f : Nat) (fn : Func) (c : Code) (x : Operand) (args : List Operand) (ts : Array TypeId) (vs : List Value) (v : Value) (hd : o.dst = some d) (hv : A.tmps[d]? = some v) (ho : o.op = .call { callee := .value x, args := args.toArray, argTypes := ts }) (hx : A.eval x = .func (.func f) #[] #[])
    (hargs : args.map A.eval = vs) (hf : Tryd.prog.funcs[f]? = some fn) (hname : (fn.name == "runtime.NumGoroutine") = false) (hb : fn.body = some c)
    (hc : ∀ w, Below W0.heap.size W0 w → Calls Tryd.prog f vs.toArray w fun e w' => e = .returned v ∧ Below w.heap.size w w') : OpOk l kd A W0 i o := by
  unfold OpOk
  rw [hk]
  refine ⟨d, v, hd, hv, fun w hw => ?_⟩
  have h1 : fn.name ≠ "runtime.NumGoroutine" := by simpa using hname
  have ha : args.toArray.map A.eval = vs.toArray := by rw [List.map_toArray, hargs]
  have hrun : (execOp A.eval o).run Tryd.prog w = .ok (.enter f vs.toArray) w := by
    unfold execOp
    simp only [ho, resolve, ha, hx]
    simp [Deferred.ofValue, invoke, callFunc, hf, h1, hb]
  unfold Oper.quietAt
  rw [hrun]
  exact ⟨rfl, hc w hw⟩

theorem ok_new (hk : kd i = .new) (d : Nat) (hd : o.dst = some d) (cs : Array Value) (hcs : cs.size = 32) (hmk : Makes Tryd.prog o (.cells cs 22 (0, 0))) : OpOk l kd A W0 i o := by
  unfold OpOk
  rw [hk]
  exact ⟨⟨d, hd⟩, cs, hcs, hmk⟩

theorem ok_put (j n dx dy : Nat) (hk : kd i = .put j n) (hd : o.dst = none) (hop : o.op = .store 22 (.tmp dx) (.tmp dy)) (hv : A.tmps[dy]? = some (.agg (numA n))) (hkj : kd j = .new) (hj : (l[j]?).bind (·.dst) = some dx) (hx : (o.after.any fun e => Region.binds .any e && e.on == j) = true)
    (hy : (o.after.any fun e => Region.binds .any e && isQ (kd e.on) && ((l[e.on]?).bind (·.dst) == some dy)) = true) : OpOk l kd A W0 i o := by
  unfold OpOk
  rw [hk]
  refine ⟨dx, dy, hd, hop, hv, ?_, ?_⟩
  · obtain ⟨e, he, h1⟩ := Array.any_eq_true'.1 hx
    simp only [Bool.and_eq_true, beq_iff_eq] at h1
    cases hl : l[j]? with
    | none => simp [hl] at hj
    | some oj => exact ⟨e, he, h1.1, h1.2, hkj, oj, rfl, by simpa [hl] using hj⟩
  · obtain ⟨e, he, h1⟩ := Array.any_eq_true'.1 hy
    simp only [Bool.and_eq_true, beq_iff_eq] at h1
    cases hl : l[e.on]? with
    | none => simp [hl] at h1
    | some oy => exact ⟨e, he, h1.1.1, isQ_eq h1.1.2, oy, hl, by simpa [hl] using h1.2⟩
end

def zero32 : Array Value := #[.int .u8 0, .int .u8 0, .int .u8 0, .int .u8 0, .int .u8 0, .int .u8 0, .int .u8 0, .int .u8 0, .int .u8 0, .int .u8 0, .int .u8 0, .int .u8 0, .int .u8 0, .int .u8 0, .int .u8 0, .int .u8 0, .int .u8 0, .int .u8 0, .int .u8 0, .int .u8 0, .int .u8 0, .int .u8 0, .int .u8 0, .int .u8 0, .int .u8 0, .int .u8 0, .int .u8 0, .int .u8 0, .int .u8 0, .int .u8 0, .int .u8 0, .int .u8 0]
theorem makes_num {d : Option Tmp} {ty : TypeId} {pos : String} {after : Array Edge} {guard : Option (Nat × Bool)} : Makes Tryd.prog { dst := d, op := .alloc 22, type := ty, pos := pos, after := after, guard := guard } (.cells zero32 22 (0, 0)) := fun a w => by
  kernel_rfl
end Go.Proofs.YtjkdonjcngmjeaaDoor
/-
  Four numbers side by side in a block: a struct of the ladder, and the reference's.
-/
namespace Go.Proofs.YtjkdonjcngmjeaaDoor
open Go Go.RowKit
set_option linter.unusedVariables false
set_option linter.unusedSimpArgs false

/-- Block g holds a row of numbers as a value of type t. -/
def AtQ (t : TypeId) (w : World) (g : Nat) (l : List Nat) : Prop := w.heap[g]? = some (.cells (rowA l) t (0, 0))
def RoomQ (t : TypeId) (w : World) (g : Nat) : Prop := ∃ cs : Array Value, cs.size = 128 ∧ w.heap[g]? = some (.cells cs t (0, 0))
theorem AtQ.lt {t : TypeId} {w : World} {g : Nat} {l : List Nat} (h : AtQ t w g l) : g < w.heap.size := (Array.getElem?_eq_some_iff.1 h).1
theorem AtQ.under {t : TypeId} {w w' : World} {g : Nat} {l : List Nat} (h : AtQ t w g l) (hb : Below w.heap.size w w') : AtQ t w' g l := (hb.block _ h.lt).trans h
theorem AtQ.alloc {t : TypeId} {w : World} {g : Nat} {l : List Nat} (h : AtQ t w g l) (o : Obj) : AtQ t (w.alloc o) g l := (Below.heap_alloc w o g h.lt).trans h
theorem RoomQ.lt {t : TypeId} {w : World} {g : Nat} (h : RoomQ t w g) : g < w.heap.size := by obtain ⟨_, _, h⟩ := h; exact (Array.getElem?_eq_some_iff.1 h).1
theorem RoomQ.under {t : TypeId} {w w' : World} {g : Nat} (h : RoomQ t w g) (hb : Below w.heap.size w w') : RoomQ t w' g := by
  have hl := h.lt
  obtain ⟨cs, h1, h2⟩ := h
  exact ⟨cs, h1, (hb.block _ hl).trans h2⟩
theorem RoomQ.alloc {t : TypeId} {w : World} {g : Nat} (h : RoomQ t w g) (o : Obj) : RoomQ t (w.alloc o) g := by
  have hl := h.lt
  obtain ⟨cs, h1, h2⟩ := h
  exact ⟨cs, h1, (Below.heap_alloc w o g hl).trans h2⟩
theorem rowA_size (a b c d : Nat) : (rowA [a, b, c, d]).size = 128 := by
  simp [rowA, Value.cells, numA_size]
theorem rowA_one (a b c d : Nat) : (rowA [a, b, c, d]).all (·.oneCell') = true := by
  rw [Array.all_eq_true_iff_forall_mem]
  intro v hv
  simp only [rowA, List.mem_toArray, List.mem_flatMap, List.mem_map] at hv
  obtain ⟨u, ⟨n, _, rfl⟩, hu⟩ := hv
  exact (Array.all_eq_true_iff_forall_mem.1 (numA_one n)) v (by simpa [Value.cells] using hu)
theorem AtQ.room {t : TypeId} {w : World} {g a b c d : Nat} (h : AtQ t w g [a, b, c, d]) : RoomQ t w g := ⟨_, rowA_size a b c d, h⟩
theorem Put.atQ {t : TypeId} {w w' : World} {g k : Nat} {l : List Nat} (h : Put w w' g) (hk : AtQ t w k l) (hne : k ≠ g) : AtQ t w' k l := (h.grown.block k hk.lt (fun e => by cases e; exact hne rfl)).trans hk
theorem Put.roomQ {t : TypeId} {w w' : World} {g k : Nat} (h : Put w w' g) (hk : RoomQ t w k) (hne : k ≠ g) : RoomQ t w' k := by
  have hl := hk.lt
  obtain ⟨cs, h1, h2⟩ := hk
  exact ⟨cs, h1, (h.grown.block k hl (fun e => by cases e; exact hne rfl)).trans h2⟩
theorem atQ_new (t : TypeId) (w : World) (l : List Nat) : AtQ t (w.alloc (.cells (rowA l) t)) w.heap.size l := heap_new _ _
theorem rowA_part (l : List Nat) {i n : Nat} (hi : l[i]? = some n) : ∀ j v, (numA n)[j]? = some v → (rowA l)[i * 32 + j]? = some v := fun j v hv => rowA_at l hi j v hv

theorem wpList_qget {ops : Array Oper} {rest : List Oper} {o : Oper} {a : Act} {w : World} {Q : Exit → Act → World → Prop} (hgd : o.guard = none) (x : Operand) (ho : o.op = .load 22 x)
    (t : TypeId) (g i : Nat) (l : List Nat) (n : Nat) (hn : l[i]? = some n) (hx : a.eval x = .pointer (some ⟨g, i * 32, none⟩)) (hg : AtQ t w g l) (h : wpList Tryd.prog ops Q rest (a.put o.dst (.agg (numA n))) w) : wpList Tryd.prog ops Q (o :: rest) a w :=
  wpList_load_at hgd 22 x ho g (i * 32) hx t (rowA l) (numA n) (0, 0) _ hg (rowA_part l hn) Tryd.underlying22 rfl (by rw [numA_size]; kernel_rfl) h

theorem wpList_qall {t : TypeId} {fs : Array Field} (hu : Tryd.prog.underlying t = some (.struct fs)) (hi : (Tryd.prog.info? t).map (·.size) = some 128) {ops : Array Oper} {rest : List Oper} {o : Oper} {a : Act} {w : World} {Q : Exit → Act → World → Prop} (hgd : o.guard = none) (x : Operand) (ho : o.op = .load t x)
    (g n0 n1 n2 n3 : Nat) (hx : a.eval x = .pointer (some ⟨g, 0, none⟩)) (hg : AtQ t w g [n0, n1, n2, n3]) (h : wpList Tryd.prog ops Q rest (a.put o.dst (.agg (rowA [n0, n1, n2, n3]))) w) : wpList Tryd.prog ops Q (o :: rest) a w :=
  wpList_load_row hgd t x ho g hx t (rowA [n0, n1, n2, n3]) (0, 0) _ hg hu rfl (by rw [rowA_size]; exact hi) h

theorem wpList_qput {t : TypeId} (hi : (Tryd.prog.info? t).map (·.size) = some 128) {ops : Array Oper} {rest : List Oper} {o : Oper} {a : Act} {w : World} {Q : Exit → Act → World → Prop} (hgd : o.guard = none) (x y : Operand) (ho : o.op = .store t x y)
    (g n0 n1 n2 n3 : Nat) (hx : a.eval x = .pointer (some ⟨g, 0, none⟩)) (hy : a.eval y = .agg (rowA [n0, n1, n2, n3])) (hg : RoomQ t w g)
    (h : ∀ w', AtQ t w' g [n0, n1, n2, n3] → Put w w' g → wpList Tryd.prog ops Q rest (a.put o.dst undef) w') : wpList Tryd.prog ops Q (o :: rest) a w := by
  obtain ⟨cs, hs, hc⟩ := hg
  exact wpList_store_row hgd t x y ho g (rowA [n0, n1, n2, n3]) hx hy t cs hc (by rw [rowA_size]; exact hi) (by rw [rowA_size, hs]) (rowA_one _ _ _ _) (h _ (setRow_heap _ _ _ _ _ _ hc) ⟨⟨rfl, rfl, rfl, by simp, fun k _ hk => setRow_other _ _ _ _ (fun e => hk (by rw [e]))⟩, by simp⟩)

theorem ret_quad {t : TypeId} {fs : Array Field} (hu : Tryd.prog.underlying t = some (.struct fs)) (hi : (Tryd.prog.info? t).map (·.size) = some 128) {f : Func} {p : Tmp} (h : f.results = #[.cell p t]) (tmps : Array Value) (w : World) (g n0 n1 n2 n3 : Nat) (hp : tmps.getD p undef = .pointer (some ⟨g, 0, none⟩)) (hg : AtQ t w g [n0, n1, n2, n3]) : (results f tmps).run Tryd.prog w = .ok (.agg (rowA [n0, n1, n2, n3])) w :=
  results_cell_row h tmps w g t (rowA [n0, n1, n2, n3]) (0, 0) _ hp hg hu rfl (by rw [rowA_size]; exact hi)
theorem iQ1 : (Tryd.prog.info? 133).map (·.size) = some 128 := by kernel_rfl
end Go.Proofs.YtjkdonjcngmjeaaDoor
/-
  What the ladder's square and its constant answer; the numbers that a step comes to.
-/
namespace Go.Proofs.YtjkdonjcngmjeaaDoor
open Go Go.RowKit
set_option linter.unusedVariables false
set_option linter.unusedSimpArgs false

def nAdd (a b : Nat) : Nat := (a + b) % 57896044618658097711785492504343953926634992332820282019728792003956564819949
def nMul (a b : Nat) : Nat := a * b % 57896044618658097711785492504343953926634992332820282019728792003956564819949
theorem q_callx {P : Program} {ops : Array Oper} {C : World → Prop} {Q : Act → Prop} {a : Act} {o : Oper} {rest : List Oper} (hw : Region.wanted o (yielded ops a.tmps) = true) (f : FuncId) (fn : Func) (c : Code) (x : Operand) (args : List Operand) (ts : Array TypeId) (vs : List Value) (v : Value) (ho : o.op = .call { callee := .value x, args := args.toArray, argTypes := ts })
    (hx : a.eval x = .func (.func f) #[] #[]) (hargs : args.map a.eval = vs) (hf : P.funcs[f]? = some fn) (hname : (fn.name == "runtime.NumGoroutine") = false) (hb : fn.body = some c)
    (hc : ∀ w, C w → Calls P f vs.toArray w fun e w' => e = .returned v ∧ C w')
    (h : wpQuiet P ops C Q rest (a.put o.dst v)) : wpQuiet P ops C Q (o :: rest) a := by
  refine BigFrame.wpQuiet_want hw fun K hK => ⟨v, fun w hC => ?_, hK _ h⟩
  have h1 : fn.name ≠ "runtime.NumGoroutine" := by simpa using hname
  have ha : args.toArray.map a.eval = vs.toArray := by rw [List.map_toArray, hargs]
  have hrun : (execOp a.eval o).run P w = .ok (.enter f vs.toArray) w := by
    unfold execOp
    simp only [ho, resolve, ha, hx]
    simp [Deferred.ofValue, invoke, callFunc, hf, h1, hb]
  unfold Oper.quietAt
  rw [hrun]
  exact ⟨rfl, hc w hC⟩

set_option maxHeartbeats 400000 in
theorem square_any (n : Nat) (w : World) (hn : n < 115792089237316195423570985008687907853269984665640564039457584007913129639936) :
    Calls Tryd.prog 88 #[.agg (numA n)] w fun e w' => e = .returned (.agg (numA (n * n % 57896044618658097711785492504343953926634992332820282019728792003956564819949))) ∧ Below w.heap.size w w' := by
  have L : Kept _ := ⟨hn⟩
  obtain ⟨r, hr⟩ : ∃ r, r = n * n % 57896044618658097711785492504343953926634992332820282019728792003956564819949 := ⟨_, rfl⟩
  rw [← hr]
  have E : Kept _ := ⟨hr⟩
  clear hn hr
  go_enter Tryd.func88, Tryd.ntmps88
  have A0 : At ((w.alloc (.cells (numA n) 22)).alloc (.cells #[.int .u8 0, .int .u8 0, .int .u8 0, .int .u8 0, .int .u8 0, .int .u8 0, .int .u8 0, .int .u8 0, .int .u8 0, .int .u8 0, .int .u8 0, .int .u8 0, .int .u8 0, .int .u8 0, .int .u8 0, .int .u8 0, .int .u8 0, .int .u8 0, .int .u8 0, .int .u8 0, .int .u8 0, .int .u8 0, .int .u8 0, .int .u8 0, .int .u8 0, .int .u8 0, .int .u8 0, .int .u8 0, .int .u8 0, .int .u8 0, .int .u8 0, .int .u8 0] 22)) w.heap.size n := (at_new w n).alloc _
  have R1 : Room ((w.alloc (.cells (numA n) 22)).alloc (.cells #[.int .u8 0, .int .u8 0, .int .u8 0, .int .u8 0, .int .u8 0, .int .u8 0, .int .u8 0, .int .u8 0, .int .u8 0, .int .u8 0, .int .u8 0, .int .u8 0, .int .u8 0, .int .u8 0, .int .u8 0, .int .u8 0, .int .u8 0, .int .u8 0, .int .u8 0, .int .u8 0, .int .u8 0, .int .u8 0, .int .u8 0, .int .u8 0, .int .u8 0, .int .u8 0, .int .u8 0, .int .u8 0, .int .u8 0, .int .u8 0, .int .u8 0, .int .u8 0] 22)) (w.heap.size + 1) := room_top _ _ (by simp)
  have QB : Below w.heap.size w ((w.alloc (.cells (numA n) 22)).alloc (.cells #[.int .u8 0, .int .u8 0, .int .u8 0, .int .u8 0, .int .u8 0, .int .u8 0, .int .u8 0, .int .u8 0, .int .u8 0, .int .u8 0, .int .u8 0, .int .u8 0, .int .u8 0, .int .u8 0, .int .u8 0, .int .u8 0, .int .u8 0, .int .u8 0, .int .u8 0, .int .u8 0, .int .u8 0, .int .u8 0, .int .u8 0, .int .u8 0, .int .u8 0, .int .u8 0, .int .u8 0, .int .u8 0, .int .u8 0, .int .u8 0, .int .u8 0, .int .u8 0] 22)) := ((Below.refl _ _).alloc (Nat.le_refl _) _).alloc (by simp) _
  go_wp2_with (refine wpList_get rfl (.tmp 1) rfl _ n rfl A0 ?_)
  have hc := Mul_any n n ((w.alloc (.cells (numA n) 22)).alloc (.cells #[.int .u8 0, .int .u8 0, .int .u8 0, .int .u8 0, .int .u8 0, .int .u8 0, .int .u8 0, .int .u8 0, .int .u8 0, .int .u8 0, .int .u8 0, .int .u8 0, .int .u8 0, .int .u8 0, .int .u8 0, .int .u8 0, .int .u8 0, .int .u8 0, .int .u8 0, .int .u8 0, .int .u8 0, .int .u8 0, .int .u8 0, .int .u8 0, .int .u8 0, .int .u8 0, .int .u8 0, .int .u8 0, .int .u8 0, .int .u8 0, .int .u8 0, .int .u8 0] 22)) L.out L.out
  rw [← E.out] at hc
  refine hc.mono ?_
  rintro e w1 ⟨rfl, hb⟩
  have R2 := R1.under hb
  have QC := QB.trans (hb.mono QB.size)
  clear hc A0 R1 QB hb
  go_wp2_with (refine wpList_put rfl (.tmp 2) (.tmp 5) rfl _ r rfl rfl R2 ?_)
  intro w2 A2 P2
  go_wp2
  exact bodyPost_ret (v := .agg (numA r)) (ret_num (Q := fun _ _ => True) Tryd.results88 _ [] _ _ r rfl A2) rfl ⟨rfl, QC.trans (P2.below (by omega))⟩

theorem bcurve (w : World) : (Instr.build 22 #[(0, .int .u8 65), (1, .int .u8 219), (2, .int .u8 1)]).run Tryd.prog w = .ok (.agg (numA 121665)) w := by kernel_rfl

theorem l_curve {ops : Array Oper} {Q : Exit → Act → World → Prop} {a : Act} {o : Oper} {rest : List Oper} {w : World} (hg : o.guard = none) (ho : o.op = .build 22 #[(0, .const (.int .u8 65)), (1, .const (.int .u8 219)), (2, .const (.int .u8 1))]) (h : wpList Tryd.prog ops Q rest (a.put o.dst (.agg (numA 121665))) w) : wpList Tryd.prog ops Q (o :: rest) a w :=
  l_val hg _ (by unfold execOp; simp [ho, Act.eval, bcurve]) h

set_option maxHeartbeats 400000 in
theorem curve_any (w : World) :
    Calls Tryd.prog 91 #[] w fun e w' => e = .returned (.agg (numA 121665)) ∧ Below w.heap.size w w' := by
  go_enter Tryd.func91, Tryd.ntmps91
  go_wp2_with (first | (refine l_curve rfl rfl ?_; simp only [Act.put, List.setIfInBounds_toArray, List.set_cons_succ, List.set_cons_zero]) | (refine wpList_put rfl (.tmp 0) (.tmp 1) rfl _ 121665 rfl rfl (room_new _) ?_))
  intro w2 A2 P2
  go_wp2
  exact bodyPost_ret (v := .agg (numA 121665)) (ret_num (Q := fun _ _ => True) Tryd.results91 _ [] _ _ 121665 rfl A2) rfl ⟨rfl, ((Below.refl _ _).alloc (Nat.le_refl _) _).trans (P2.below (Nat.le_refl _))⟩
end Go.Proofs.YtjkdonjcngmjeaaDoor
/-
  What the ladder's step answers.
-/
namespace Go.Proofs.YtjkdonjcngmjeaaDoor
open Go Go.RowKit
set_option linter.unusedVariables false
set_option linter.unusedSimpArgs false

theorem quad_start (t : TypeId) (w : World) (a b c d x : Nat) (z : Array Value) (hz : z.size = 128) (W : World) (hW : ((w.alloc (.cells (rowA [a, b, c, d]) t)).alloc (.cells (numA x) 22)).alloc (.cells z t) = W) :
    AtQ t W w.heap.size [a, b, c, d] ∧ At W (w.heap.size + 1) x ∧ RoomQ t W (w.heap.size + 1 + 1) ∧ Below w.heap.size w W := by
  subst hW
  refine ⟨((atQ_new t w _).alloc _).alloc _, ?_, ⟨z, hz, ?_⟩, (((Below.refl _ _).alloc (Nat.le_refl _) _).alloc (by simp) _).alloc (by simp; omega) _⟩
  · have h := at_new (w.alloc (.cells (rowA [a, b, c, d]) t)) x
    rw [show (w.alloc (.cells (rowA [a, b, c, d]) t)).heap.size = w.heap.size + 1 from by simp] at h
    exact h.alloc _
  · have h := heap_new ((w.alloc (.cells (rowA [a, b, c, d]) t)).alloc (.cells (numA x) 22)) (.cells z t)
    rw [show ((w.alloc (.cells (rowA [a, b, c, d]) t)).alloc (.cells (numA x) 22)).heap.size = w.heap.size + 1 + 1 from by simp] at h
    exact h

end Go.Proofs.YtjkdonjcngmjeaaDoor
/-
  What the reference package's Sub answers.
-/
namespace Go.Proofs.YtjkdonjcngmjeaaDoor
open Go.RowKit
set_option linter.unusedSimpArgs false
set_option linter.unusedVariables false

theorem Holds.drew {w : World} {g : Nat} {l : List Nat} (h : Holds w g l) : Holds w.drew g l := h
end Go.Proofs.YtjkdonjcngmjeaaDoor
/-
  What the reference package's Mul answers.
-/
namespace Go.Proofs.YtjkdonjcngmjeaaDoor
open Go.RowKit
set_option linter.unusedSimpArgs false
set_option linter.unusedVariables false


end Go.Proofs.YtjkdonjcngmjeaaDoor
/-
  What the reference package's Inv answers: the power of p - 2.
-/
namespace Go.Proofs.YtjkdonjcngmjeaaDoor
open Go.RowKit
set_option linter.unusedSimpArgs false
set_option linter.unusedVariables false

end Go.Proofs.YtjkdonjcngmjeaaDoor
