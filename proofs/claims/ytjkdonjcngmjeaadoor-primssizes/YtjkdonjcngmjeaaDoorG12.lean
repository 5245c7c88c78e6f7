/-
  General pieces, joined: SS SO.
-/
import Derived.Test.YtjkdonjcngmjeaaDoorG11
import Derived.Test.YtjkdonjcngmjeaaDoorG10
/-
  The same, told with the frame as it is behind the region, but for the slots of which something holds alone.
-/
namespace Go.Proofs.YtjkdonjcngmjeaaDoor.sh
open Go Go.RowKit
set_option linter.unusedVariables false
set_option linter.unusedSimpArgs false

/-- What is asked of a slot: its own, or the frame's value. -/
def relR (A : Act) (S : Nat → Option (Value → World → Prop)) : Nat → Value → World → Prop := fun d v w => match S d with | some p => p v w | none => A.tmps[d]? = some v

def waitsFor (h : List Oper) (o : Oper) (d : Nat) : Bool := o.after.any fun e => Region.binds .any e && (match h[e.on]? with | some o' => o'.dst == some d | none => false)
def detB (h : List Oper) (sp : List Nat) (o : Oper) : Bool := o.op.operands.all fun x => match x with
  | .tmp d => !sp.contains d && ((h.all fun o' => o'.dst != some d) || waitsFor h o d)
  | _ => true

def notSel (o : Oper) : Bool := match o.op with | .select _ _ => false | _ => true
theorem notSel_spec {o : Oper} (h : notSel o = true) : ∀ cs b, o.op ≠ .select cs b := fun cs b e => by simp [notSel, e] at h

theorem got_slot {h : List Oper} {R : Nat → Value → World → Prop} {a : Act} {w : World} {o : Oper} (hg : Got h R a w o) {d : Nat} (hd : waitsFor h o d = true) : ∃ v, a.tmps[d]? = some v ∧ R d v w := by
  obtain ⟨e, he, h1⟩ := Array.any_eq_true'.1 hd
  simp only [Bool.and_eq_true] at h1
  cases ho : h[e.on]? with
  | none => simp [ho] at h1
  | some o' => exact hg e he h1.1 o' d ho (by simpa [ho] using h1.2)
theorem out_slot {h : List Oper} {A0 a : Act} (hF : Fr h A0 a) {d : Nat} (hd : (h.all fun o' => o'.dst != some d) = true) : a.tmps[d]? = A0.tmps[d]? := hF.out d fun i o ho hdo => by
  have := List.all_eq_true.1 hd o (List.mem_of_getElem? ho)
  simp [hdo] at this

section
variable {P : Program} {h : List Oper} {A0 A : Act} {W0 : World} {S : Nat → Option (Value → World → Prop)} {sp : List Nat} {o : Oper}

/-- The frame behind the region: where the region writes nothing it is the one ahead. -/
structure Full (h : List Oper) (A0 A : Act) (S : Nat → Option (Value → World → Prop)) (sp : List Nat) : Prop where
  out : ∀ d, (∀ (i : Nat) (o : Oper), h[i]? = some o → o.dst ≠ some d) → A.tmps[d]? = A0.tmps[d]?
  spec : ∀ d, d ∉ sp → S d = none

theorem det_eval (hA : Full h A0 A S sp) (hdet : detB h sp o = true) {a : Act} {w : World} (hF : Fr h A0 a) (hgot : Got h (relR A S) a w o) : ∀ x ∈ o.op.operands, a.eval x = A.eval x := by
  intro x hx
  cases x with
  | tmp t =>
    have h1 := Array.all_eq_true_iff_forall_mem.1 hdet _ hx
    simp only [Bool.and_eq_true, Bool.or_eq_true, Bool.not_eq_true'] at h1
    obtain ⟨h2, h3⟩ := h1
    have hS : S t = none := hA.spec t (fun hm => by rw [List.contains_iff_mem.2 hm] at h2; cases h2)
    have : a.tmps[t]? = A.tmps[t]? := by
      rcases h3 with h3 | h3
      · rw [out_slot hF h3]
        refine (hA.out t fun i o' ho' hdo => ?_).symm
        have := List.all_eq_true.1 h3 o' (List.mem_of_getElem? ho')
        simp [hdo] at this
      · obtain ⟨v, e1, e2⟩ := got_slot hgot h3
        unfold relR at e2
        rw [hS] at e2
        rw [e1, e2]
    simp [Act.eval, this]
  | const v => rfl
  | global v => rfl
  | func v => rfl

/-- An operation whose value is one, whatever the order was. -/
theorem rel_q (hA : Full h A0 A S sp) (hdet : detB h sp o = true) (hsel : notSel o = true) (hw : ∀ a w, Fr h A0 a → Got h (relR A S) a w o → Region.wanted o (yielded h.toArray a.tmps) = true) (d : Nat) (v : Value) (hd : o.dst = some d) (hds : d ∉ sp) (hv : A.tmps[d]? = some v)
    (hq : ∀ w, Below W0.heap.size W0 w → o.quietAt P A (fun w' => Below w.heap.size w w') w v) : RelOk P h A0 W0 (relR A S) o := by
  refine ⟨d, hd, fun a w hF hB hgot => ⟨hw a w hF hgot, ?_⟩⟩
  have hex := execOp_congr o (notSel_spec hsel) (det_eval hA hdet hF hgot)
  have h3 := hq w hB
  have hR : ∀ w', relR A S d v w' := fun w' => by unfold relR; rw [hA.spec d hds]; exact hv
  unfold Oper.quietAt at h3
  unfold Oper.wp
  rw [hex]
  generalize (execOp A.eval o).run P w = res at *
  cases res with
  | ok n w' =>
    cases n <;> simp only [Oper.quietUpon] at h3 <;> simp only [Oper.upon]
    case value u =>
      obtain ⟨e1, e2⟩ := h3
      rw [e1, e2, hd]
      exact ⟨v, rfl, hR _, Below.refl _ _⟩
    case skip =>
      obtain ⟨e1, e2⟩ := h3
      rw [e1, ← e2, hd]
      exact ⟨v, rfl, hR _, Below.refl _ _⟩
    case enter f args =>
      obtain ⟨e1, hc⟩ := h3
      rw [e1]
      refine hc.mono fun e w'' hh => ?_
      obtain ⟨rfl, hb⟩ := hh
      rw [hd]
      exact ⟨v, rfl, hR _, hb⟩
  | halt x w' => simp only [Oper.quietUpon] at h3

theorem want_none (hg : o.guard = none) : ∀ (a : Act) (w : World), Fr h A0 a → Got h (relR A S) a w o → Region.wanted o (yielded h.toArray a.tmps) = true := fun _ _ _ _ => by simp [Region.wanted, hg]

theorem rel_val (hA : Full h A0 A S sp) (hdet : detB h sp o = true) (hsel : notSel o = true) (hg : o.guard = none) (d : Nat) (v : Value) (hd : o.dst = some d) (hds : sp.contains d = false) (hv : A.tmps[d]? = some v) (hrun : ∀ w, (execOp A.eval o).run P w = .ok (.value v) w) : RelOk P h A0 W0 (relR A S) o :=
  rel_q hA hdet hsel (want_none hg) d v hd (fun hm => by rw [List.contains_iff_mem.2 hm] at hds; cases hds) hv fun w _ => by
    unfold Oper.quietAt
    rw [hrun]
    exact ⟨rfl, rfl⟩
/-- One cell of a block is read. -/
theorem rel_elem (hA : Full h A0 A S sp) (hdet : detB h sp o = true) (hsel : notSel o = true) (hg : o.guard = none) (d : Nat) (v : Value) (hd : o.dst = some d) (hds : sp.contains d = false) (hv : A.tmps[d]? = some v) (e : TypeId) (ag : ∀ w, (isAgg e).run P w = .ok false w) (x : Operand) (ho : o.op = .load e x) (g k : Nat) (hx : A.eval x = .pointer (some ⟨g, k, none⟩)) (t : TypeId) (B : Array Value)
    (hb : ∀ w, Below W0.heap.size W0 w → Blk w g t B) (hbv : B[k]? = some v) : RelOk P h A0 W0 (relR A S) o :=
  rel_q hA hdet hsel (want_none hg) d v hd (fun hm => by rw [List.contains_iff_mem.2 hm] at hds; cases hds) hv fun w hw => by
    unfold Oper.quietAt
    rw [run_elem ag x ho g k hx B v (hb w hw) hbv]
    exact ⟨rfl, rfl⟩
/-- A call. -/
theorem rel_call (hg : o.guard = none) (d f : Nat) (fn : Func) (c : Code) (args : List Operand) (ts : Array TypeId) (hd : o.dst = some d) (ho : o.op = .call { callee := .value (.func f), args := args.toArray, argTypes := ts }) (hf : P.funcs[f]? = some fn) (hname : (fn.name == "runtime.NumGoroutine") = false) (hb : fn.body = some c)
    (hc : ∀ a w, Fr h A0 a → Below W0.heap.size W0 w → Got h (relR A S) a w o → Calls P f (args.map a.eval).toArray w fun e w' => ∃ v, e = .returned v ∧ relR A S d v w' ∧ Below w.heap.size w w') : RelOk P h A0 W0 (relR A S) o := by
  refine ⟨d, hd, fun a w hF hB hgot => ⟨by simp [Region.wanted, hg], ?_⟩⟩
  have h1 : fn.name ≠ "runtime.NumGoroutine" := by simpa using hname
  have hrun : (execOp a.eval o).run P w = .ok (.enter f (args.map a.eval).toArray) w := by
    unfold execOp
    simp only [ho, resolve, List.map_toArray, Act.eval]
    simp [Deferred.ofValue, invoke, callFunc, hf, h1, hb]
  unfold Oper.wp
  rw [hrun]
  simp only [Oper.upon]
  refine (hc a w hF hB hgot).mono fun e w' hh => ?_
  obtain ⟨v, rfl, hR, hb'⟩ := hh
  rw [hd]
  exact ⟨v, rfl, hR, hb'⟩
theorem det_slot (hA : Full h A0 A S sp) {a : Act} {w : World} (hgot : Got h (relR A S) a w o) {d : Nat} {v : Value} (hw : waitsFor h o d = true) (hs : sp.contains d = false) (hv : A.tmps[d]? = some v) : a.eval (.tmp d) = v := by
  obtain ⟨u, e1, e2⟩ := got_slot hgot hw
  unfold relR at e2
  rw [hA.spec d (fun hm => by rw [List.contains_iff_mem.2 hm] at hs; cases hs)] at e2
  rw [hv] at e2
  cases e2
  simp [Act.eval, e1]
theorem spec_slot {a : Act} {w : World} (hgot : Got h (relR A S) a w o) {d : Nat} {p : Value → World → Prop} (hw : waitsFor h o d = true) (hp : S d = some p) : p (a.eval (.tmp d)) w := by
  obtain ⟨u, e1, e2⟩ := got_slot hgot hw
  unfold relR at e2
  rw [hp] at e2
  simpa [Act.eval, e1] using e2
/-- A call of a known value and one of which something holds. -/
theorem rel_call_ds (hA : Full h A0 A S sp) (hg : o.guard = none) (d f : Nat) (fn : Func) (c : Code) (x y : Nat) (ts : Array TypeId) (hd : o.dst = some d) (ho : o.op = .call { callee := .value (.func f), args := #[.tmp x, .tmp y], argTypes := ts }) (hf : P.funcs[f]? = some fn) (hname : (fn.name == "runtime.NumGoroutine") = false) (hb : fn.body = some c)
    (vx : Value) (hwx : waitsFor h o x = true) (hsx : sp.contains x = false) (hvx : A.tmps[x]? = some vx) (p : Value → World → Prop) (hwy : waitsFor h o y = true) (hpy : S y = some p)
    (hc : ∀ w vy, Below W0.heap.size W0 w → p vy w → Calls P f #[vx, vy] w fun e w' => ∃ v, e = .returned v ∧ relR A S d v w' ∧ Below w.heap.size w w') : RelOk P h A0 W0 (relR A S) o :=
  rel_call hg d f fn c [.tmp x, .tmp y] ts hd ho hf hname hb fun a w hF hB hgot => by
    have h1 := det_slot hA hgot hwx hsx hvx
    have h2 := spec_slot hgot hwy hpy
    have h3 := hc w _ hB h2
    rw [← h1] at h3
    exact h3
/-- An operation that makes a block, whatever the frame is. -/
theorem rel_new (hg : o.guard = none) (d : Nat) (hd : o.dst = some d) (hnew : ∀ (a : Act) (w : World), ∃ v w', (execOp a.eval o).run P w = .ok (.value v) w' ∧ relR A S d v w' ∧ Below w.heap.size w w') : RelOk P h A0 W0 (relR A S) o := by
  refine ⟨d, hd, fun a w hF hB hgot => ⟨by simp [Region.wanted, hg], ?_⟩⟩
  obtain ⟨v, w', h1, h2, h3⟩ := hnew a w
  unfold Oper.wp
  rw [h1]
  simp only [Oper.upon]
  rw [hd]
  exact ⟨v, rfl, h2, h3⟩
end

theorem putR_out {d : Nat} : ∀ (vals : List (Nat × Value)) (a : Act), (∀ p ∈ vals, p.1 ≠ d) → (putR a vals).tmps[d]? = a.tmps[d]?
  | [], a, _ => rfl
  | p :: r, a, h => by
    show (putR (a.put (some p.1) p.2) r).tmps[d]? = _
    rw [putR_out r _ (fun q hq => h q (List.mem_cons_of_mem _ hq))]
    simp [Act.put, Array.getElem?_setIfInBounds_ne (h p List.mem_cons_self)]
theorem full_put {h : List Oper} {a : Act} {S : Nat → Option (Value → World → Prop)} {sp : List Nat} (vals : List (Nat × Value)) (hv : (vals.all fun p => (dstsOf h).contains p.1) = true) (hS : ∀ d, d ∉ sp → S d = none) : Full h a (putR a vals) S sp :=
  ⟨fun d hd => putR_out vals a fun p hp e => by
    have h1 := List.contains_iff_mem.1 (List.all_eq_true.1 hv p hp)
    obtain ⟨o, ho, hdo⟩ := List.mem_filterMap.1 h1
    obtain ⟨i, hi, he⟩ := List.getElem_of_mem ho
    exact hd i o (by rw [List.getElem?_eq_getElem hi, he]) (by rw [hdo, e]), hS⟩

theorem putR_get' (f : Nat → Value) (d : Nat) (ds : List Nat) (a : Act) : (putR a (ds.map fun d => (d, f d))).tmps[d]? = if d < a.tmps.size then (if d ∈ ds then some (f d) else a.tmps[d]?) else none := by
  by_cases hd : d < a.tmps.size
  · rw [if_pos hd]; exact putR_get f d ds a hd
  · rw [if_neg hd]; exact Array.getElem?_eq_none (by rw [putR_size]; omega)

/-- A region that draws its order: the frame behind its head is A, but for the slots sp. -/
theorem region_full {P : Program} {Q : Exit → Act → World → Prop} {id : Nat} {a : Act} {w : World} (W0 : World) (n : Nat) {l : List Oper} (A : Act) (S : Nat → Option (Value → World → Prop)) (sp : List Nat) (hm : P.follows .mixedOrders = true)
    (hE : edgesIn (l.take n) = true) (hG : guardsIn (l.take n) = true) (hA : dstsApart (l.take n) 0 = true) (hI : dstsIn (l.take n) a.tmps.size = true) (hT : tailUnder (l.take n) (l.drop n) = true)
    (hS : Region.seqB .any l.toArray (l.drop n).length (l.take n).length (Array.replicate (l.take n).length true ++ Array.replicate (l.drop n).length false) = true)
    (hsz : A.tmps.size = a.tmps.size) (hdf : A.defers = a.defers) (hF : Full (l.take n) a A S sp)
    (hsp : (sp.all fun d => (dstsOf (l.take n)).contains d) = true)
    (hst : ∀ d p v w w', S d = some p → p v w → Below W0.heap.size W0 w → Below w.heap.size w w' → p v w') (hw : Below W0.heap.size W0 w)
    (hok : RelAll P (l.take n) a W0 (relR A S) (l.take n))
    (hfin : ∀ (f : Nat → Value) w', (∀ d ∈ sp, relR A S d (f d) w') → Below W0.heap.size W0 w' → wpList P l.toArray Q (l.drop n) (putR A (sp.map fun d => (d, f d))) w') : (Code.region id l.toArray true).wp P Q a w := by
  refine region_rel W0 n (relR A S) _ hm hE hG hA hI hT hS rfl ?_ hw hok ?_
  · intro d v w w' h1 h2 h3
    unfold relR at *
    cases hd : S d with
    | none => rw [hd] at h1; exact h1
    | some p => rw [hd] at h1; exact hst d p v w w' hd h1 h2 h3
  · intro f w' hf hb
    have e : putR a ((dstsOf (l.take n)).map fun d => (d, f d)) = putR A (sp.map fun d => (d, f d)) := by
      refine act_eq (Array.ext_getElem? fun d => ?_) (by rw [putR_defers, putR_defers, hdf])
      rw [putR_get', putR_get', hsz]
      by_cases hd : d < a.tmps.size
      · rw [if_pos hd, if_pos hd]
        by_cases h1 : d ∈ dstsOf (l.take n)
        · rw [if_pos h1]
          by_cases h2 : d ∈ sp
          · rw [if_pos h2]
          · rw [if_neg h2]
            have := hf d h1
            unfold relR at this
            rw [hF.spec d h2] at this
            exact this.symm
        · rw [if_neg h1, if_neg (fun h2 => h1 (by
            have := List.all_eq_true.1 hsp d h2
            exact List.contains_iff_mem.1 this))]
          refine (hF.out d fun i o ho hdo => h1 ?_).symm
          exact List.mem_filterMap.2 ⟨o, List.mem_of_getElem? ho, hdo⟩
      · rw [if_neg hd, if_neg hd]
    rw [e]
    exact hfin f w' (fun d hd => hf d (by have := List.all_eq_true.1 hsp d hd; exact List.contains_iff_mem.1 this)) hb

theorem rel_det {h : List Oper} {A0 A : Act} {S : Nat → Option (Value → World → Prop)} {sp : List Nat} (hA : Full h A0 A S sp) {d : Nat} {v : Value} {w : World} (hds : sp.contains d = false) (hv : A.tmps[d]? = some v) : relR A S d v w := by
  unfold relR
  rw [hA.spec d (fun hm => by rw [List.contains_iff_mem.2 hm] at hds; cases hds)]
  exact hv
theorem rel_spec {A : Act} {S : Nat → Option (Value → World → Prop)} {d : Nat} (p : Value → World → Prop) (hp : S d = some p) {v : Value} {w : World} (h : p v w) : relR A S d v w := by
  unfold relR
  rw [hp]
  exact h

/-- What is asked of the slots of a list. -/
def specOf (L : List (Nat × (Value → World → Prop))) : Nat → Option (Value → World → Prop) := fun d => L.lookup d
theorem specOf_none : ∀ (L : List (Nat × (Value → World → Prop))) (d : Nat), d ∉ L.map (·.1) → specOf L d = none
  | [], d, _ => rfl
  | q :: r, d, h => by
    have h1 : d ≠ q.1 := fun e => h (by rw [e]; exact List.mem_cons_self)
    have h2 := specOf_none r d (fun e => h (List.mem_cons_of_mem _ e))
    unfold specOf at *
    rw [List.lookup_cons]
    have : (d == q.1) = false := by simpa using h1
    rw [this]
    exact h2
theorem specOf_mem : ∀ (L : List (Nat × (Value → World → Prop))) (d : Nat) (p : Value → World → Prop), specOf L d = some p → ∃ q ∈ L, q.2 = p
  | [], d, p, h => by simp [specOf] at h
  | q :: r, d, p, h => by
    unfold specOf at h
    rw [List.lookup_cons] at h
    split at h
    · exact ⟨q, List.mem_cons_self, Option.some.inj h⟩
    · obtain ⟨q', h1, h2⟩ := specOf_mem r d p h
      exact ⟨q', List.mem_cons_of_mem _ h1, h2⟩

theorem region_list {P : Program} {Q : Exit → Act → World → Prop} {id : Nat} {a : Act} {w : World} (W0 : World) (n : Nat) {l : List Oper} (vals : List (Nat × Value)) (L : List (Nat × (Value → World → Prop))) (hm : P.follows .mixedOrders = true)
    (hE : edgesIn (l.take n) = true) (hG : guardsIn (l.take n) = true) (hA : dstsApart (l.take n) 0 = true) (hI : dstsIn (l.take n) a.tmps.size = true) (hT : tailUnder (l.take n) (l.drop n) = true)
    (hS : Region.seqB .any l.toArray (l.drop n).length (l.take n).length (Array.replicate (l.take n).length true ++ Array.replicate (l.drop n).length false) = true)
    (hv : (vals.all fun p => (dstsOf (l.take n)).contains p.1) = true) (hsp : ((L.map (·.1)).all fun d => (dstsOf (l.take n)).contains d) = true)
    (hst : ∀ q ∈ L, ∀ (v : Value) (w w' : World), q.2 v w → Below w.heap.size w w' → q.2 v w') (hw : Below W0.heap.size W0 w)
    (hok : Full (l.take n) a (putR a vals) (specOf L) (L.map (·.1)) → RelAll P (l.take n) a W0 (relR (putR a vals) (specOf L)) (l.take n))
    (hfin : ∀ (f : Nat → Value) w', (∀ d p, specOf L d = some p → p (f d) w') → Below W0.heap.size W0 w' → wpList P l.toArray Q (l.drop n) (putR (putR a vals) ((L.map (·.1)).map fun d => (d, f d))) w') : (Code.region id l.toArray true).wp P Q a w := by
  have hfull : Full (l.take n) a (putR a vals) (specOf L) (L.map (·.1)) := full_put vals hv (specOf_none L)
  refine region_full W0 n (putR a vals) (specOf L) (L.map (·.1)) hm hE hG hA hI hT hS (putR_size _ _) (putR_defers _ _) hfull hsp ?_ hw (hok hfull) ?_
  · intro d p v w w' h1 h2 _ h4
    obtain ⟨q, hq, rfl⟩ := specOf_mem L d p h1
    exact hst q hq v w w' h2 h4
  · intro f w' hf hb
    refine hfin f w' (fun d p hp => ?_) hb
    by_cases hd : d ∈ L.map (·.1)
    · have := hf d hd
      unfold relR at this
      rw [hp] at this
      exact this
    · rw [specOf_none L d hd] at hp
      cases hp

/-- A slice of ints in a block of its own. -/
def SliceAt (t : TypeId) (k : IntKind) (l : List Nat) (cap : Nat) : Value → World → Prop := fun v w => ∃ g, v = .slice (some ⟨g, 0, none⟩) l.length cap ∧ Blk w g t (ints k l)
theorem SliceAt.under {t : TypeId} {k : IntKind} {l : List Nat} {cap : Nat} {v : Value} {w w' : World} (h : SliceAt t k l cap v w) (hb : Below w.heap.size w w') : SliceAt t k l cap v w' := by
  obtain ⟨g, h1, h2⟩ := h
  exact ⟨g, h1, h2.under hb⟩
end Go.Proofs.YtjkdonjcngmjeaaDoor.sh
/-
  Single operations on words, ints and addresses: what they come to.
-/
namespace Go.Proofs.YtjkdonjcngmjeaaDoor.sh
open Go Go.RowKit
set_option linter.unusedVariables false
set_option linter.unusedSimpArgs false

section
variable {o : Oper} {a : Act} {x y : Operand}
theorem run_add32 {m n z : Nat} (ho : o.op = .binOp .add 45 x y 45) (hx : a.eval x = .int .u32 (m : Int)) (hy : a.eval y = .int .u32 (n : Int)) (hz : z = (m + n) % 4294967296) (w : World) : (execOp a.eval o).run Tryd.prog w = .ok (.value (.int .u32 (z : Int))) w := by
  unfold execOp
  simp only [ho, hx, hy]
  simp [go_sem, IntKind.wrap_u32']
  omega
theorem run_xor32 {m n z : Nat} (ho : o.op = .binOp .xor 45 x y 45) (hx : a.eval x = .int .u32 (m : Int)) (hy : a.eval y = .int .u32 (n : Int)) (hm : m < 4294967296) (hn : n < 4294967296) (hz : z = m ^^^ n) (w : World) : (execOp a.eval o).run Tryd.prog w = .ok (.value (.int .u32 (z : Int))) w := by
  have h := u32_xor_nat m n hm hn
  unfold execOp
  simp only [ho, hx, hy]
  simp [go_sem, h, hz]
theorem run_shr32 {n z : Nat} (c : Nat) {u : TypeId} (ho : o.op = .binOp .shr 45 x (.const (.int .u64 (c : Int))) u) (hx : a.eval x = .int .u32 (n : Int)) (hc : c < 32) (hz : z = n / 2 ^ c) (w : World) : (execOp a.eval o).run Tryd.prog w = .ok (.value (.int .u32 (z : Int))) w := by
  have e : ((n : Int) / 2 ^ c) = ((n / 2 ^ c : Nat) : Int) := by rw [Int.natCast_ediv, Int.natCast_pow]; rfl
  have e2 : min c 32 = c := by omega
  have e3 : a.eval (.const (.int .u64 (c : Int))) = .int .u64 (c : Int) := rfl
  unfold execOp
  simp only [ho, hx, e3]
  rw [hz, ← e]
  clear hz e
  simp [go_sem, Op.shift, IntKind.bits, e2]
theorem run_subI {i : Nat} (c : Nat) (ho : o.op = .binOp .sub 3 x (.const (.int .i64 (c : Int))) 3) (hx : a.eval x = .int .i64 (i : Int)) (hle : c ≤ i) (hi : i < 4611686018427387904) (w : World) : (execOp a.eval o).run Tryd.prog w = .ok (.value (.int .i64 ((i - c : Nat) : Int))) w := by
  have e3 : a.eval (.const (.int .i64 (c : Int))) = .int .i64 (c : Int) := rfl
  unfold execOp
  simp only [ho, hx, e3]
  simp [go_sem, IntKind.wrap_i64, wrap64]
  omega
theorem run_idx {i g len : Nat} {t e : TypeId} (ho : o.op = .indexAddr t x y) (hx : a.eval x = .pointer (some ⟨g, 0, none⟩)) (hy : a.eval y = .int .i64 (i : Int)) (ht : Tryd.prog.underlying t = some (.array len e)) (hi : i < len) (sz : ∀ w, (sizeOf e).run Tryd.prog w = .ok 1 w) (w : World) : (execOp a.eval o).run Tryd.prog w = .ok (.value (.pointer (some ⟨g, i, none⟩))) w := by
  have h1 : ((i : Int) < (len : Int)) := by omega
  unfold execOp
  simp only [ho, hx, hy, Instr.indexAt]
  simp [asIntOf, run_underlying ht, h1, sz, go_sem, Addr.add]
  rw [if_pos hi]
  by_cases h0 : i = 0 <;> simp [h0]
end
end Go.Proofs.YtjkdonjcngmjeaaDoor.sh
