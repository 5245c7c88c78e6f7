/-
  General pieces, joined: SI SK SV SU SQ UA.
-/
import Derived.Test.YtjkdonjcngmjeaaDoorG15
import Derived.OwnWalk
import Derived.ArgAppend
import Derived.Lib.SlBytesConst
import Derived.ProofKit
import Derived.LaidMore
import Derived.OpenShut
import Derived.Stop.Joined
import Derived.ChangeOld
import Derived.Deep.Slices
import Derived.Test.YtjkdonjcngmjeaaDoorG06
/-
  The same, told with the frame as a list of values; one lemma for each kind of operation; slices that the call owns, and appends.
-/
namespace Go.Proofs.YtjkdonjcngmjeaaDoor.sh
open Go Go.RowKit
set_option linter.unusedVariables false
set_option linter.unusedSimpArgs false

theorem specOf_mem' : ∀ (L : List (Nat × (Value → World → Prop))) (d : Nat) (p : Value → World → Prop), specOf L d = some p → ∃ q ∈ L, q.1 = d ∧ q.2 = p
  | [], d, p, h => by simp [specOf] at h
  | q :: r, d, p, h => by
    unfold specOf at h
    rw [List.lookup_cons] at h
    split at h
    · next he => exact ⟨q, List.mem_cons_self, by simpa using (eq_of_beq he).symm, Option.some.inj h⟩
    · obtain ⟨q', h1, h2⟩ := specOf_mem' r d p h
      exact ⟨q', List.mem_cons_of_mem _ h1, h2⟩

theorem region_ownL {P : Program} {Q : Exit → Act → World → Prop} {id : Nat} {a : Act} {w : World} (W0 : World) (n : Nat) {l : List Oper} (vals : List (Nat × Value)) (L : List (Nat × (Value → World → Prop))) (O : List Nat) (E : List (Nat × Nat)) (hm : P.follows .mixedOrders = true)
    (hE : edgesIn (l.take n) = true) (hG : guardsIn (l.take n) = true) (hA : dstsApart (l.take n) 0 = true) (hI : dstsIn (l.take n) a.tmps.size = true) (hT : tailUnder (l.take n) (l.drop n) = true)
    (hS : Region.seqB .any l.toArray (l.drop n).length (l.take n).length (Array.replicate (l.take n).length true ++ Array.replicate (l.drop n).length false) = true)
    (hv : (vals.all fun p => (dstsOf (l.take n)).contains p.1) = true) (hsp : ((L.map (·.1)).all fun d => (dstsOf (l.take n)).contains d) = true) (hO : (O.all fun d => (L.map (·.1)).contains d) = true)
    (hEw : (E.all fun q => O.contains q.2 && match (l.take n)[q.1]? with | some o => waitsFor (l.take n) o q.2 | none => false) = true) (hEn : apartB (E.map (·.2)) = true)
    (hst1 : ∀ q ∈ L, O.contains q.1 = false → ∀ (v : Value) (w w' : World), q.2 v w → Below W0.heap.size W0 w → Below W0.heap.size w w' → q.2 v w')
    (hst2 : ∀ q ∈ L, O.contains q.1 = true → ∀ (v : Value) (w w' : World) (row : Option Nat), q.2 v w → w.grownBy w' row → (blkOf v = none ∨ blkOf v ≠ row) → (∀ b, blkOf v = some b → b < w.heap.size) → q.2 v w') (hw : Below W0.heap.size W0 w)
    (hok : Full (l.take n) a (putR a vals) (specOf L) (L.map (·.1)) → OwnAll P (l.take n) a W0 (relR (putR a vals) (specOf L)) O E 0 (l.take n))
    (hfin : ∀ (f : Nat → Value) w', (∀ d p, specOf L d = some p → (E.map (·.2)).contains d = false → p (f d) w' ∧ (O.contains d = true → ∀ b, blkOf (f d) = some b → W0.heap.size ≤ b ∧ b < w'.heap.size)) →
      (∀ d d', O.contains d = true → O.contains d' = true → (E.map (·.2)).contains d = false → (E.map (·.2)).contains d' = false → d ≠ d' → ∀ b, blkOf (f d) = some b → blkOf (f d') ≠ some b) → Below W0.heap.size W0 w' →
      wpList P l.toArray Q (l.drop n) (putR (putR a vals) ((L.map (·.1)).map fun d => (d, f d))) w') : (Code.region id l.toArray true).wp P Q a w := by
  have hfull : Full (l.take n) a (putR a vals) (specOf L) (L.map (·.1)) := full_put vals hv (specOf_none L)
  have hOL : ∀ d, O.contains d = true → d ∈ L.map (·.1) := fun d hd => List.contains_iff_mem.1 (List.all_eq_true.1 hO d (List.contains_iff_mem.1 hd))
  have hEO : ∀ d, d ∈ E.map (·.2) → d ∈ L.map (·.1) := fun d hd => by
    obtain ⟨q, hq, rfl⟩ := List.mem_map.1 hd
    have := List.all_eq_true.1 hEw q hq
    simp only [Bool.and_eq_true] at this
    exact hOL _ this.1
  have hin : ∀ d, d ∈ L.map (·.1) → d ∈ dstsOf (l.take n) := fun d hd => List.contains_iff_mem.1 (List.all_eq_true.1 hsp d hd)
  have hnc : ∀ d, (E.map (·.2)).contains d = false → d ∉ E.map (·.2) := fun d h hm => by rw [List.contains_iff_mem.2 hm] at h; cases h
  refine region_own W0 n (relR (putR a vals) (specOf L)) O E _ hm hE hG hA hI hT hS hEw hEn rfl ?_ ?_ hw (hok hfull) ?_
  · intro d v w w' hd h1 h2 h3
    unfold relR at *
    cases hs : specOf L d with
    | none => rw [hs] at h1; exact h1
    | some p =>
      rw [hs] at h1
      obtain ⟨q, hq, rfl, rfl⟩ := specOf_mem' L d p hs
      exact hst1 q hq hd v w w' h1 h2 h3
  · intro d v w w' row hd h1 h2 h3 h4
    unfold relR at *
    cases hs : specOf L d with
    | none => rw [hs] at h1; exact h1
    | some p =>
      rw [hs] at h1
      obtain ⟨q, hq, rfl, rfl⟩ := specOf_mem' L d p hs
      exact hst2 q hq hd v w w' row h1 h2 h3 h4
  · intro f w' hf hD hb
    have e : putR a ((dstsOf (l.take n)).map fun d => (d, f d)) = putR (putR a vals) ((L.map (·.1)).map fun d => (d, f d)) := by
      refine act_eq (Array.ext_getElem? fun d => ?_) (by rw [putR_defers, putR_defers, putR_defers])
      rw [putR_get', putR_get', putR_size]
      by_cases hd : d < a.tmps.size
      · rw [if_pos hd, if_pos hd]
        by_cases h1 : d ∈ dstsOf (l.take n)
        · rw [if_pos h1]
          by_cases h2 : d ∈ L.map (·.1)
          · rw [if_pos h2]
          · rw [if_neg h2]
            have := (hf d h1 (fun h3 => h2 (hEO d h3))).1
            unfold relR at this
            rw [hfull.spec d h2] at this
            exact this.symm
        · rw [if_neg h1, if_neg (fun h2 => h1 (hin d h2))]
          refine (hfull.out d fun i o ho hdo => h1 ?_).symm
          exact List.mem_filterMap.2 ⟨o, List.mem_of_getElem? ho, hdo⟩
      · rw [if_neg hd, if_neg hd]
    rw [e]
    refine hfin f w' (fun d p hp hn => ?_) (fun d d' h1 h2 h3 h4 h5 => hD d (hin d (hOL d h1)) d' (hin d' (hOL d' h2)) (hnc d h3) (hnc d' h4) h1 h2 h5) hb
    by_cases hd : d ∈ L.map (·.1)
    · have := hf d (hin d hd) (hnc d hn)
      unfold relR at this
      rw [hp] at this
      exact this
    · rw [specOf_none L d hd] at hp
      cases hp

def detE (h : List Oper) (sp : List Nat) (E : List (Nat × Nat)) (i : Nat) (o : Oper) : Bool := o.op.operands.all fun x => match x with
  | .tmp d => !sp.contains d && ((h.all fun o' => o'.dst != some d) || (waitsFor h o d && E.all fun q => q.2 != d || q.1 == i))
  | _ => true
/-- The operation is carried out. -/
def Wants (h : List Oper) (A0 A : Act) (S : Nat → Option (Value → World → Prop)) (O : List Nat) (E : List (Nat × Nat)) (B i : Nat) (o : Oper) : Prop := ∀ (a : Act) (w : World), Fr h A0 a → GotE h E (relR A S) O B i a w o → Region.wanted o (yielded h.toArray a.tmps) = true

section
variable {P : Program} {h : List Oper} {A0 A : Act} {W0 : World} {S : Nat → Option (Value → World → Prop)} {sp O : List Nat} {E : List (Nat × Nat)} {B i : Nat} {o : Oper}
theorem not_mem_of {d : Nat} (h : sp.contains d = false) : d ∉ sp := fun hm => by rw [List.contains_iff_mem.2 hm] at h; cases h
/-- A slot whose value is known. -/
theorem gotE_det (hA : Full h A0 A S sp) {a : Act} {w : World} (hgot : GotE h E (relR A S) O B i a w o) {d : Nat} {v : Value} (hw : waitsFor h o d = true) (hs : sp.contains d = false) (hE : (E.all fun q => q.2 != d || q.1 == i) = true) (hv : A.tmps[d]? = some v) : a.eval (.tmp d) = v := by
  obtain ⟨u, e1, e2, _⟩ := hgot d hw hE
  unfold relR at e2
  rw [hA.spec d (not_mem_of hs), hv] at e2
  cases e2
  simp [Act.eval, e1]
/-- A slot of which something holds. -/
theorem gotE_spec {a : Act} {w : World} (hgot : GotE h E (relR A S) O B i a w o) {d : Nat} (p : Value → World → Prop) (hw : waitsFor h o d = true) (hE : (E.all fun q => q.2 != d || q.1 == i) = true) (hp : S d = some p) : p (a.eval (.tmp d)) w ∧ a.tmps[d]? = some (a.eval (.tmp d)) ∧ (O.contains d = true → ∀ b, blkOf (a.eval (.tmp d)) = some b → B ≤ b ∧ b < w.heap.size) := by
  obtain ⟨u, e1, e2, e3⟩ := hgot d hw hE
  unfold relR at e2
  rw [hp] at e2
  have : a.eval (.tmp d) = u := by simp [Act.eval, e1]
  rw [this]
  exact ⟨e2, e1, e3⟩
theorem wants_none (hg : o.guard = none) : Wants h A0 A S O E B i o := fun _ _ _ _ => by simp [Region.wanted, hg]
theorem wants_at (hA : Full h A0 A S sp) (j : Nat) (b : Bool) (d : Nat) (hg : o.guard = some (j, b)) (hj : (h[j]?).bind (·.dst) = some d) (hw : waitsFor h o d = true) (hs : sp.contains d = false) (hE : (E.all fun q => q.2 != d || q.1 == i) = true) (hv : A.tmps[d]? = some (.bool b)) : Wants h A0 A S O E B i o := fun a w _ hgot => by
  obtain ⟨u, e1, e2, _⟩ := hgot d hw hE
  unfold relR at e2
  rw [hA.spec d (not_mem_of hs), hv] at e2
  cases e2
  simp [Region.wanted, hg, yielded, hj, e1]
theorem detE_eval (hA : Full h A0 A S sp) (hdet : detE h sp E i o = true) {a : Act} {w : World} (hF : Fr h A0 a) (hgot : GotE h E (relR A S) O B i a w o) : ∀ x ∈ o.op.operands, a.eval x = A.eval x := by
  intro x hx
  cases x with
  | tmp t =>
    have h1 := Array.all_eq_true_iff_forall_mem.1 hdet _ hx
    simp only [Bool.and_eq_true, Bool.or_eq_true, Bool.not_eq_true'] at h1
    obtain ⟨h2, h3⟩ := h1
    have hS : S t = none := hA.spec t (not_mem_of h2)
    have : a.tmps[t]? = A.tmps[t]? := by
      rcases h3 with h3 | h3
      · rw [out_slot hF h3]
        refine (hA.out t fun i o' ho' hdo => ?_).symm
        have := List.all_eq_true.1 h3 o' (List.mem_of_getElem? ho')
        simp [hdo] at this
      · obtain ⟨v, e1, e2, _⟩ := hgot t h3.1 h3.2
        unfold relR at e2
        rw [hS] at e2
        rw [e1, e2]
    simp [Act.eval, this]
  | const v => rfl
  | global v => rfl
  | func v => rfl
theorem ow_q (hA : Full h A0 A S sp) (hdet : detE h sp E i o = true) (hsel : notSel o = true) (hw : Wants h A0 A S O E W0.heap.size i o) (d : Nat) (v : Value) (hd : o.dst = some d) (hds : sp.contains d = false) (hO : O.contains d = false) (hv : A.tmps[d]? = some v)
    (hq : ∀ w, Below W0.heap.size W0 w → o.quietAt P A (fun w' => Below w.heap.size w w') w v) : OwnOk P h A0 W0 (relR A S) O E i o := by
  refine ⟨d, hd, fun a w hF hB hgot => ⟨hw a w hF hgot, ?_⟩⟩
  have hex := execOp_congr o (notSel_spec hsel) (detE_eval hA hdet hF hgot)
  have h3 := hq w hB
  have hR : ∀ w', relR A S d v w' := fun w' => by unfold relR; rw [hA.spec d (not_mem_of hds)]; exact hv
  have fin : ∀ w', Below w.heap.size w w' → ∃ v' row, a.put (some d) v = a.put (some d) v' ∧ relR A S d v' w' ∧ w.grownBy w' row ∧ (∀ b, row = some b → ∃ s, (i, s) ∈ E ∧ (a.tmps[s]?).bind blkOf = some b) ∧ (O.contains d = true → ∀ b, blkOf v' = some b → (w.heap.size ≤ b ∧ b < w'.heap.size) ∨ ∃ s, (i, s) ∈ E ∧ (a.tmps[s]?).bind blkOf = some b) :=
    fun w' hb => ⟨v, none, rfl, hR w', grown_none hb, fun b hb => (by cases hb), fun h' => by rw [hO] at h'; cases h'⟩
  unfold Oper.quietAt at h3
  unfold Oper.wp
  rw [hex]
  generalize (execOp A.eval o).run P w = res at *
  cases res with
  | ok n w' =>
    cases n <;> simp only [Oper.quietUpon] at h3 <;> simp only [Oper.upon]
    case value u =>
      obtain ⟨e1, e2⟩ := h3
      rw [e1, e2, hd]
      exact fin w (Below.refl _ _)
    case skip =>
      obtain ⟨e1, e2⟩ := h3
      rw [e1, ← e2, hd]
      exact fin w (Below.refl _ _)
    case enter f args =>
      obtain ⟨e1, hc⟩ := h3
      rw [e1]
      refine hc.mono fun e w'' hh => ?_
      obtain ⟨rfl, hb⟩ := hh
      rw [hd]
      exact fin w'' hb
  | halt x w' => simp only [Oper.quietUpon] at h3
/-- A value that hangs on the frame alone. -/
theorem ow_val (hA : Full h A0 A S sp) (hw : Wants h A0 A S O E W0.heap.size i o) (d : Nat) (v : Value) (hdet : detE h sp E i o = true) (hsel : notSel o = true) (hd : o.dst = some d) (hds : sp.contains d = false) (hO : O.contains d = false) (hv : A.tmps[d]? = some v) (hrun : ∀ w, (execOp A.eval o).run P w = .ok (.value v) w) : OwnOk P h A0 W0 (relR A S) O E i o :=
  ow_q hA hdet hsel hw d v hd hds hO hv fun w _ => by
    unfold Oper.quietAt
    rw [hrun]
    exact ⟨rfl, rfl⟩
/-- One cell of a block is read. -/
theorem ow_elem (hA : Full h A0 A S sp) (hw : Wants h A0 A S O E W0.heap.size i o) (d : Nat) (v : Value) (hdet : detE h sp E i o = true) (hsel : notSel o = true) (hd : o.dst = some d) (hds : sp.contains d = false) (hO : O.contains d = false) (hv : A.tmps[d]? = some v) (e : TypeId) (ag : ∀ w, (isAgg e).run P w = .ok false w) (x : Operand) (ho : o.op = .load e x) (p : Addr) (hx : A.eval x = .pointer (some p))
    (hc : ∀ w, Below W0.heap.size W0 w → w.cell? p = some v) : OwnOk P h A0 W0 (relR A S) O E i o :=
  ow_q hA hdet hsel hw d v hd hds hO hv fun w hb => by
    have hc := hc w hb
    unfold Oper.quietAt execOp
    simp only [ho, hx, Instr.loadAt, Instr.sureAddr, Sem.run_bind, Sem.run_pure, Result.andThen_ok]
    simp [loadVar, ag, go_sem, hc]
/-- A whole block is read (an array, a struct). -/
theorem ow_row (hA : Full h A0 A S sp) (hw : Wants h A0 A S O E W0.heap.size i o) (d : Nat) (v : Value) (hdet : detE h sp E i o = true) (hsel : notSel o = true) (hd : o.dst = some d) (hds : sp.contains d = false) (hO : O.contains d = false) (hv : A.tmps[d]? = some v) (ty : TypeId) (x : Operand) (ho : o.op = .load ty x) (g : Nat) (hx : A.eval x = .pointer (some ⟨g, 0, none⟩)) (t : TypeId) (C : Array Value) (len : Nat) (e : TypeId) (hu : P.underlying ty = some (.array len e)) (hi : (P.info? ty).map (·.size) = some C.size)
    (hb : ∀ w, Below W0.heap.size W0 w → Blk w g t C) (hvB : v = .agg C) : OwnOk P h A0 W0 (relR A S) O E i o :=
  ow_q hA hdet hsel hw d v hd hds hO hv fun w hw => by
    unfold Oper.quietAt execOp
    simp only [ho, hx, Instr.loadAt, Instr.sureAddr, Sem.run_bind, Sem.run_pure, Result.andThen_ok, run_loadVar_row w g t ty C (0, 0) _ (hb w hw) hu rfl hi]
    exact ⟨rfl, hvB.symm⟩
/-- A struct in the midst of a block is read. -/
theorem ow_partS (hA : Full h A0 A S sp) (hw : Wants h A0 A S O E W0.heap.size i o) (d : Nat) (v : Value) (hdet : detE h sp E i o = true) (hsel : notSel o = true) (hd : o.dst = some d) (hds : sp.contains d = false) (hO : O.contains d = false) (hv : A.tmps[d]? = some v) (ty : TypeId) (x : Operand) (ho : o.op = .load ty x) (g off : Nat) (hx : A.eval x = .pointer (some ⟨g, off, none⟩)) (t : TypeId) (cs es : Array Value) (fs : Array Field) (hu : P.underlying ty = some (.struct fs)) (hi : (P.info? ty).map (·.size) = some es.size)
    (hb : ∀ w, Below W0.heap.size W0 w → Blk w g t cs) (hp : ∀ j v, es[j]? = some v → cs[off + j]? = some v) (hvB : v = .agg es) : OwnOk P h A0 W0 (relR A S) O E i o :=
  ow_q hA hdet hsel hw d v hd hds hO hv fun w hw => by
    unfold Oper.quietAt execOp
    simp only [ho, hx, Instr.loadAt, Instr.sureAddr, Sem.run_bind, Sem.run_pure, Result.andThen_ok, run_loadVar_at w g off t ty cs es (0, 0) _ (hb w hw) hp hu rfl hi]
    exact ⟨rfl, hvB.symm⟩
/-- A call of known values with a known answer. -/
theorem ow_calld (hA : Full h A0 A S sp) (hw : Wants h A0 A S O E W0.heap.size i o) (d : Nat) (v : Value) (hdet : detE h sp E i o = true) (hsel : notSel o = true) (hd : o.dst = some d) (hds : sp.contains d = false) (hO : O.contains d = false) (hv : A.tmps[d]? = some v) (f : Nat) (fn : Func) (c : Code) (args : List Operand) (ts : Array TypeId) (vs : List Value) (ho : o.op = .call { callee := .value (.func f), args := args.toArray, argTypes := ts })
    (hargs : args.map A.eval = vs) (hf : P.funcs[f]? = some fn) (hname : (fn.name == "runtime.NumGoroutine") = false) (hb : fn.body = some c)
    (hc : ∀ w, Below W0.heap.size W0 w → Calls P f vs.toArray w fun e w' => e = .returned v ∧ Below w.heap.size w w') : OwnOk P h A0 W0 (relR A S) O E i o :=
  ow_q hA hdet hsel hw d v hd hds hO hv fun w hw => by
    have h1 : fn.name ≠ "runtime.NumGoroutine" := by simpa using hname
    have ha : args.toArray.map A.eval = vs.toArray := by rw [List.map_toArray, hargs]
    have hrun : (execOp A.eval o).run P w = .ok (.enter f vs.toArray) w := by
      unfold execOp
      simp only [ho, resolve, ha, Act.eval]
      simp [Deferred.ofValue, invoke, callFunc, hf, h1, hb]
    unfold Oper.quietAt
    rw [hrun]
    exact ⟨rfl, hc w hw⟩
/-- Whatever makes a value. -/
theorem ow_run (hw : Wants h A0 A S O E W0.heap.size i o) (d : Nat) (hd : o.dst = some d) (hrun : ∀ (a : Act) (w : World), Fr h A0 a → Below W0.heap.size W0 w → GotE h E (relR A S) O W0.heap.size i a w o → ∃ v w' row, (execOp a.eval o).run P w = .ok (.value v) w' ∧ relR A S d v w' ∧ w.grownBy w' row ∧ (∀ b, row = some b → ∃ s, (i, s) ∈ E ∧ (a.tmps[s]?).bind blkOf = some b) ∧
    (O.contains d = true → ∀ b, blkOf v = some b → (w.heap.size ≤ b ∧ b < w'.heap.size) ∨ ∃ s, (i, s) ∈ E ∧ (a.tmps[s]?).bind blkOf = some b)) : OwnOk P h A0 W0 (relR A S) O E i o := by
  refine ⟨d, hd, fun a w hF hB hgot => ⟨hw a w hF hgot, ?_⟩⟩
  obtain ⟨v, w', row, h1, h2⟩ := hrun a w hF hB hgot
  unfold Oper.wp
  rw [h1]
  simp only [Oper.upon]
  rw [hd]
  exact ⟨v, row, rfl, h2⟩
/-- What makes a block, whatever the frame is. -/
theorem ow_new (hw : Wants h A0 A S O E W0.heap.size i o) (d : Nat) (hd : o.dst = some d) (p : Value → World → Prop) (hp : S d = some p) (hnew : ∀ (a : Act) (w : World), W0.heap.size ≤ w.heap.size → ∃ v w', (execOp a.eval o).run P w = .ok (.value v) w' ∧ p v w' ∧ Below w.heap.size w w' ∧ ∀ b, blkOf v = some b → w.heap.size ≤ b ∧ b < w'.heap.size) : OwnOk P h A0 W0 (relR A S) O E i o :=
  ow_run hw d hd fun a w _ hB _ => by
    obtain ⟨v, w', h1, h2, h3, h4⟩ := hnew a w hB.size
    exact ⟨v, w', none, h1, rel_spec p hp h2, grown_none h3, fun b hb => (by cases hb), fun _ b hb => .inl (h4 b hb)⟩
end

theorem SliceAt.keeps {t : TypeId} {k : IntKind} {l : List Nat} {cap : Nat} {v : Value} {w w' : World} {row : Option Nat} (h : SliceAt t k l cap v w) (hg : w.grownBy w' row) (hne : blkOf v = none ∨ blkOf v ≠ row) : SliceAt t k l cap v w' := by
  obtain ⟨g, rfl, h2⟩ := h
  refine ⟨g, rfl, ?_⟩
  rcases hne with hne | hne
  · cases hne
  · exact (hg.block g h2.lt (fun e => hne (by rw [← e]; rfl))).trans h2
/-- A slice of ints that the call owns. -/
def Row (base : Nat) (e : TypeId) (k : IntKind) (l : List Nat) : Value → World → Prop := fun v w => w.ownsRow base e 1 v l.length (ints k l).toList
theorem row_blk {base : Nat} {e : TypeId} {k : IntKind} {l : List Nat} {v : Value} {w : World} (h : Row base e k l v w) : v.ownBlock = blkOf v := by
  rcases h.2 with ⟨rfl, _⟩ | ⟨g, cap, cur, rfl, _⟩ <;> rfl
theorem Row.keeps {base : Nat} {e : TypeId} {k : IntKind} {l : List Nat} {v : Value} {w w' : World} {row : Option Nat} (h : Row base e k l v w) (hg : w.grownBy w' row) (hne : blkOf v = none ∨ blkOf v ≠ row) : Row base e k l v w' := World.ownsRow.kept h hg (by rw [row_blk h]; exact hne)
theorem Row.mono {base b' : Nat} {e : TypeId} {k : IntKind} {l : List Nat} {v : Value} {w : World} (h : Row base e k l v w) (hb : b' ≤ base) : Row b' e k l v w := by
  obtain ⟨h1, h2⟩ := h
  refine ⟨h1, ?_⟩
  rcases h2 with h | ⟨g, cap, cur, a, b, c⟩
  · exact .inl h
  · exact .inr ⟨g, cap, cur, a, Nat.le_trans hb b, c⟩
theorem Row.range {base : Nat} {e : TypeId} {k : IntKind} {l : List Nat} {v : Value} {w : World} (h : Row base e k l v w) : ∀ b, blkOf v = some b → base ≤ b ∧ b < w.heap.size := fun b hb => h.lt b (by rw [row_blk h]; exact hb)
/-- Ints that a slice holds. -/
def IntsV (k : IntKind) (v : Value) (w : World) (l : List Nat) : Prop := ∃ p c, v = .slice p l.length c ∧ l.length ≤ c ∧ (l ≠ [] → ∃ A, p = some A ∧ A.block < w.heap.size ∧ ∀ (j x : Nat), l[j]? = some x → w.cell? (A.add j) = some (.int k (x : Int)))
theorem IntsV.below {k : IntKind} {v : Value} {w w' : World} {l : List Nat} {B : Nat} (h : IntsV k v w l) (hB : ∀ b, blkOf v = some b → b < B) (hb : Below B w w') : IntsV k v w' l := by
  obtain ⟨p, c, rfl, h2, h3⟩ := h
  refine ⟨p, c, rfl, h2, fun hne => ?_⟩
  obtain ⟨A, rfl, e2, e3⟩ := h3 hne
  exact ⟨A, rfl, Nat.lt_of_lt_of_le e2 hb.size, fun j x hx => by rw [hb.cell (by rw [add_block]; exact hB _ rfl)]; exact e3 j x hx⟩
theorem row_cells {base : Nat} {e : TypeId} {k : IntKind} {l : List Nat} {v : Value} {w : World} (h : Row base e k l v w) : IntsV k v w l := by
  rcases h.2 with ⟨rfl, h0⟩ | ⟨g, cap, cur, rfl, hb, hg, hn, hm, hs, ht⟩
  · have : l = [] := List.eq_nil_of_length_eq_zero h0
    subst this
    exact ⟨none, 0, rfl, Nat.le_refl _, fun hne => absurd rfl hne⟩
  · refine ⟨_, cap, rfl, hn, fun _ => ⟨_, rfl, (Array.getElem?_eq_some_iff.1 hg).1, fun j x hx => ?_⟩⟩
    rw [addr_add, Nat.zero_add]
    refine cell_row hg ?_
    have hj : j < l.length := (List.getElem?_eq_some_iff.1 hx).1
    have h3 : (cur.toList.take (l.length * 1))[j]? = (ints k l).toList[j]? := by rw [ht]
    rw [List.getElem?_take_of_lt (by omega), Array.getElem?_toList] at h3
    rw [h3, Array.getElem?_toList]
    exact ints_get hx
theorem app_run {P : Program} {t ty e : TypeId} {k : IntKind} {bytes : Nat} (ht : P.underlying t = some (.slice e)) (hi : (P.info? e).map (fun i => (i.zero, i.size, i.bytes)) = some (some (.int k 0), 1, bytes)) {base : Nat} {l m : List Nat} {v u : Value} {w : World} (hown : Row base e k l v w) (hx : IntsV k u w m) (hn : l.length + m.length ≤ 8796093022208) (hby : bytes ≤ 8) (hbase : base ≤ w.heap.size) :
    ∃ v' w', (Builtin.append_ #[t, t] ty #[v, u]).run P w = .ok v' w' ∧ Row base e k (l ++ m) v' w' ∧ w.grownBy w' (blkOf v) ∧ (blkOf v' = blkOf v ∨ blkOf v' = some w.heap.size) := by
  obtain ⟨i0, hi', hz0, hz1, hz2⟩ := info_parts hi
  obtain ⟨p, c, rfl, h2, h3⟩ := hx
  have hbl := row_blk hown
  have hmax : l.length + m.length ≤ maxLen := by unfold maxLen; omega
  have hbb : (l.length + m.length) * bytes ≤ 140737488355328 := Nat.le_trans (Nat.mul_le_mul hn hby) (by decide)
  have hlen : (ints k (l ++ m)).toList = (ints k l).toList ++ (ints k m).toList := by rw [← ints_append]; simp
  cases p with
  | none =>
    have hm0 : m = [] := by
      cases m with
      | nil => rfl
      | cons x r => obtain ⟨A, h, _⟩ := h3 (by simp); cases h
    subst hm0
    refine ⟨v, w, ?_, by rw [List.append_nil]; exact hown, ⟨rfl, rfl, rfl, Nat.le_refl _, fun _ _ _ => rfl⟩, .inl rfl⟩
    rcases hown.2 with ⟨rfl, h0⟩ | ⟨g, cap, cur, rfl, _, _, hnc, _⟩
    · simp [Builtin.append_, run_underlying ht, sizeOf, typeInfo, hi', Builtin.lenOf, Builtin.firstCells, h0]
    · simp [Builtin.append_, run_underlying ht, sizeOf, typeInfo, hi', Builtin.lenOf, Builtin.firstCells, hnc, storeCells]
  | some A =>
    obtain ⟨v', w', h4, h5, h6, _, h8⟩ := run_append_own_at (P := P) w base t ty e i0 (.int k 0) 1 bytes ht hi' hz0 hz1 hz2 rfl (by decide) v l.length (ints k l).toList hown A m.length c (ints k m).toList (by simp [ints]) (by
      intro j y hj
      rw [Array.getElem?_toList] at hj
      have hjl : j < m.length := by have := (Array.getElem?_eq_some_iff.1 hj).1; rwa [ints_size] at this
      obtain ⟨A', e1, _, e3⟩ := h3 (by intro e; rw [e] at hjl; simp at hjl)
      cases e1
      rw [e3 j m[j] (List.getElem?_eq_getElem hjl), ← hj, ints_get (List.getElem?_eq_getElem hjl)]) (oneCell_ints _ _) hmax hbb hbase
    have hrow : Row base e k (l ++ m) v' w' := by unfold Row; rw [List.length_append, hlen]; exact h5
    rw [row_blk hrow, hbl] at h8
    exact ⟨v', w', h4, hrow, by rw [← hbl]; exact h6, h8⟩

theorem inf_u8 : (Tryd.prog.info? 5).map (fun i => (i.zero, i.size, i.bytes)) = some (some (.int .u8 0), 1, 1) := by kernel_rfl
section
variable {P : Program} {h : List Oper} {A0 A : Act} {W0 : World} {S : Nat → Option (Value → World → Prop)} {sp O : List Nat} {E : List (Nat × Nat)} {B i : Nat} {o : Oper}
end
/-- 'append' in a plain region. -/
theorem wl_app {ops : Array Oper} {rest : List Oper} {o : Oper} {a : Act} {w : World} {Q : Exit → Act → World → Prop} (hw : Region.wanted o (yielded ops a.tmps) = true) (s x : Operand) (t e : TypeId) (k : IntKind) (bytes : Nat) (ho : o.op = .call { callee := .builtin .append, args := #[s, x], argTypes := #[t, t] }) (ht : Tryd.prog.underlying t = some (.slice e)) (hi : (Tryd.prog.info? e).map (fun i => (i.zero, i.size, i.bytes)) = some (some (.int k 0), 1, bytes)) (hby : bytes ≤ 8) (base : Nat) (l m : List Nat) (v u : Value) (hs : a.eval s = v) (hx : a.eval x = u) (hv : Row base e k l v w) (hu : IntsV k u w m) (hn : l.length + m.length ≤ 8796093022208) (hbase : base ≤ w.heap.size)
    (hk : ∀ v' w', Row base e k (l ++ m) v' w' → w.grownBy w' (blkOf v) → (blkOf v' = blkOf v ∨ blkOf v' = some w.heap.size) → wpList Tryd.prog ops Q rest (a.put o.dst v') w') : wpList Tryd.prog ops Q (o :: rest) a w :=
  BigFrame.wpList_want hw fun K hK => by
    obtain ⟨v', w', h4, h5, h6, h7⟩ := app_run (ty := o.type) ht hi hv hu hn hby hbase
    unfold Oper.wp execOp
    simp only [ho, resolve, invoke, builtin, Sem.run_bind, Sem.run_pure, Result.andThen_ok, List.map_toArray, List.map_cons, List.map_nil, hs, hx, h4]
    exact hK _ _ (hk v' w' h5 h6 h7)
end Go.Proofs.YtjkdonjcngmjeaaDoor.sh
/-
  Slices of constants, marked by the conversion of a constant text; what is appended to them.
-/
namespace Go.Proofs.YtjkdonjcngmjeaaDoor.sh
open Go Go.RowKit
set_option linter.unusedVariables false
set_option linter.unusedSimpArgs false

/-- A slice of ints with no room, in a block of its own, marked or not. -/
def Const (e : TypeId) (k : IntKind) (l : List Nat) : Value → World → Prop := fun v w => ∃ g fr, v = .slice (some ⟨g, 0, none⟩) l.length l.length ∧ w.heap[g]? = some (.cells (ints k l) e fr)
theorem Const.keeps {e : TypeId} {k : IntKind} {l : List Nat} {v : Value} {w w' : World} {row : Option Nat} (h : Const e k l v w) (hg : w.grownBy w' row) (hne : blkOf v = none ∨ blkOf v ≠ row) : Const e k l v w' := by
  obtain ⟨g, fr, rfl, h2⟩ := h
  refine ⟨g, fr, rfl, ?_⟩
  rcases hne with hne | hne
  · cases hne
  · exact (hg.block g (Array.getElem?_eq_some_iff.1 h2).1 (fun e => hne (by rw [← e]; rfl))).trans h2
theorem Const.ints {e : TypeId} {k : IntKind} {l : List Nat} {v : Value} {w : World} (h : Const e k l v w) : IntsV k v w l := by
  obtain ⟨g, fr, rfl, h2⟩ := h
  exact ⟨_, _, rfl, Nat.le_refl _, fun _ => ⟨_, rfl, (Array.getElem?_eq_some_iff.1 h2).1, fun j x hx => by rw [addr_add, Nat.zero_add]; exact cell_row h2 (ints_get hx)⟩⟩
theorem IntsV.keeps {k : IntKind} {l : List Nat} {v : Value} {w w' : World} {row : Option Nat} (h : IntsV k v w l) (hg : w.grownBy w' row) (hne : blkOf v = none ∨ blkOf v ≠ row) : IntsV k v w' l := by
  obtain ⟨p, c, rfl, h2, h3⟩ := h
  refine ⟨p, c, rfl, h2, fun hn => ?_⟩
  obtain ⟨A, rfl, e2, e3⟩ := h3 hn
  refine ⟨A, rfl, Nat.lt_of_lt_of_le e2 hg.size, fun j x hx => ?_⟩
  rcases hne with hne | hne
  · cases hne
  · exact hg.cell (e3 j x hx) (by rw [add_block]; exact hne)

theorem conv_const {t e : TypeId} {l : List Nat} {v : Value} {w : World} (ht : Tryd.prog.underlying t = some (.slice e)) (he : Tryd.prog.underlying e = some (.int .u8)) (h : Const e .u8 l v w) :
    ∃ w', (convert t t v).run Tryd.prog w = .ok v w' ∧ Const e .u8 l v w' ∧ w.grownBy w' (blkOf v) := by
  obtain ⟨g, fr, rfl, h2⟩ := h
  have hsh : w.shape? g = some (e, (ints .u8 l).size) := by unfold World.shape?; rw [h2]
  refine ⟨w.freeze ⟨g, (ints .u8 l).size, none⟩ 1, ?_, ⟨g, (if fr.1 == fr.2 then ((ints .u8 l).size, (ints .u8 l).size + 1) else (min fr.1 (ints .u8 l).size, max fr.2 ((ints .u8 l).size + 1))), rfl, ?_⟩, ?_⟩
  · simp [convert, run_underlying ht, run_underlying he, markStringish, hsh]
  · unfold World.freeze
    rw [if_neg (by decide)]
    simp [Array.getElem?_modify, h2]
  · unfold World.freeze
    rw [if_neg (by decide)]
    refine ⟨rfl, rfl, rfl, by simp, fun k hk hne => ?_⟩
    simp only [Array.getElem?_modify]
    rw [if_neg (fun e => hne (by rw [← e]; rfl))]
theorem run_conv {o : Oper} {a : Act} {x : Operand} {t : TypeId} {v : Value} {w w' : World} (ho : o.op = .convert t t x) (hx : a.eval x = v) (h : (convert t t v).run Tryd.prog w = .ok v w') : (execOp a.eval o).run Tryd.prog w = .ok (.value v) w' := by
  unfold execOp
  simp only [ho, hx]
  simp [h]
section
variable {h : List Oper} {A0 A : Act} {W0 : World} {S : Nat → Option (Value → World → Prop)} {sp O : List Nat} {E : List (Nat × Nat)} {B i : Nat} {o : Oper}
end
end Go.Proofs.YtjkdonjcngmjeaaDoor.sh
/-
  Single operations of plain regions, guarded or not; slices cut on both sides.
-/
namespace Go.Proofs.YtjkdonjcngmjeaaDoor.sh
open Go Go.RowKit
set_option linter.unusedVariables false
set_option linter.unusedSimpArgs false

section
variable {ops : Array Oper} {rest : List Oper} {o : Oper} {a : Act} {w : World} {Q : Exit → Act → World → Prop} {d : Nat}
theorem wv_val (hd : o.dst = some d) (hw : Region.wanted o (yielded ops a.tmps) = true) (v : Value) (hrun : ∀ w, (execOp a.eval o).run Tryd.prog w = .ok (.value v) w) (h : wpList Tryd.prog ops Q rest (a.put o.dst v) w) : wpList Tryd.prog ops Q (o :: rest) a w :=
  BigFrame.wpList_want hw fun K hK => by
    unfold Oper.wp
    rw [hrun]
    exact hK _ _ h
theorem wv_rowS (hd : o.dst = some d) (hw : Region.wanted o (yielded ops a.tmps) = true) (t : TypeId) (x : Operand) (ho : o.op = .load t x) (g : Nat) (hx : a.eval x = .pointer (some ⟨g, 0, none⟩)) {t' : TypeId} (A : Array Value) (fs : Array Field) (hu : Tryd.prog.underlying t = some (.struct fs)) (hs : (Tryd.prog.info? t).map (·.size) = some A.size)
    (hg : Blk w g t' A) (h : wpList Tryd.prog ops Q rest (a.put o.dst (.agg A)) w) : wpList Tryd.prog ops Q (o :: rest) a w :=
  BigFrame.wpList_want hw fun K hK => by
    unfold Oper.wp execOp
    simp only [ho, hx, Instr.loadAt, Instr.sureAddr, Sem.run_bind, Sem.run_pure, Result.andThen_ok, run_loadVar_row w g t' t A (0, 0) _ hg hu rfl hs]
    exact hK _ _ h
theorem wv_row (hd : o.dst = some d) (hw : Region.wanted o (yielded ops a.tmps) = true) (t : TypeId) (x : Operand) (ho : o.op = .load t x) (g : Nat) (hx : a.eval x = .pointer (some ⟨g, 0, none⟩)) {t' : TypeId} (A : Array Value) (len : Nat) (e : TypeId) (hu : Tryd.prog.underlying t = some (.array len e)) (hs : (Tryd.prog.info? t).map (·.size) = some A.size)
    (hg : Blk w g t' A) (h : wpList Tryd.prog ops Q rest (a.put o.dst (.agg A)) w) : wpList Tryd.prog ops Q (o :: rest) a w :=
  BigFrame.wpList_want hw fun K hK => by
    unfold Oper.wp execOp
    simp only [ho, hx, Instr.loadAt, Instr.sureAddr, Sem.run_bind, Sem.run_pure, Result.andThen_ok, run_loadVar_row w g t' t A (0, 0) _ hg hu rfl hs]
    exact hK _ _ h
theorem wv_elem (hd : o.dst = some d) (hw : Region.wanted o (yielded ops a.tmps) = true) (e : TypeId) (ag : ∀ w, (isAgg e).run Tryd.prog w = .ok false w) (x : Operand) (ho : o.op = .load e x) (p : Addr) (hx : a.eval x = .pointer (some p)) (v : Value)
    (hc : w.cell? p = some v) (h : wpList Tryd.prog ops Q rest (a.put o.dst v) w) : wpList Tryd.prog ops Q (o :: rest) a w :=
  BigFrame.wpList_want hw fun K hK => by
    have hrun : (execOp a.eval o).run Tryd.prog w = .ok (.value v) w := by
      unfold execOp
      simp only [ho, hx, Instr.loadAt, Instr.sureAddr, Sem.run_bind, Sem.run_pure, Result.andThen_ok]
      simp [loadVar, ag, go_sem, hc]
    unfold Oper.wp
    rw [hrun]
    exact hK _ _ h
end
section
variable {o : Oper} {a : Act} {x y z : Operand}
theorem cutTo_run {p : Option Addr} {l c m : Nat} {t e : TypeId} (ho : o.op = .slice t x none (some z) none) (hx : a.eval x = .slice p l c) (hz : a.eval z = .int .i64 (m : Int)) (ht : Tryd.prog.underlying t = some (.slice e)) (sz : ∀ w, (sizeOf e).run Tryd.prog w = .ok 1 w) (hm : m ≤ c) (w : World) :
    (execOp a.eval o).run Tryd.prog w = .ok (.value (.slice p m c)) w := by
  have h2 : ((m : Int) ≤ (c : Int)) := by omega
  have h3 : ∀ q : Addr, q.add 0 = q := fun q => by simp [Addr.add]
  unfold execOp
  simp only [ho, hx, hz, Option.map_some, Option.map_none, Instr.sliceAt, Instr.slice, Instr.sliceBounds, Sem.run_bind, run_underlying ht, Result.andThen_ok]
  simp [Instr.sliceBound, asIntOf, sz, go_sem, h2]
  intro h
  omega
end
theorem run_addI {o : Oper} {a : Act} {x : Operand} {i : Nat} (c : Nat) (ho : o.op = .binOp .add 3 x (.const (.int .i64 (c : Int))) 3) (hx : a.eval x = .int .i64 (i : Int)) (hi : i + c < 4611686018427387904) (w : World) : (execOp a.eval o).run Tryd.prog w = .ok (.value (.int .i64 ((i + c : Nat) : Int))) w := by
  have e3 : a.eval (.const (.int .i64 (c : Int))) = .int .i64 (c : Int) := rfl
  unfold execOp
  simp only [ho, hx, e3]
  simp [go_sem, IntKind.wrap_i64, wrap64]
  omega
/-- The address of an element of a slice. -/
theorem run_idxS {o : Oper} {a : Act} {x y : Operand} {i l c : Nat} {A : Addr} {t e : TypeId} (ho : o.op = .indexAddr t x y) (hx : a.eval x = .slice (some A) l c) (hy : a.eval y = .int .i64 (i : Int)) (ht : Tryd.prog.underlying t = some (.slice e)) (hi : i < l) (sz : ∀ w, (sizeOf e).run Tryd.prog w = .ok 1 w) (w : World) : (execOp a.eval o).run Tryd.prog w = .ok (.value (.pointer (some (A.add i)))) w := by
  have h1 : ((i : Int) < (l : Int)) := by omega
  unfold execOp
  simp only [ho, hx, hy, Instr.indexAt]
  simp [asIntOf, run_underlying ht, h1, sz, go_sem]
  intro h
  omega
theorem dig_size {s : List Nat × List Nat × Nat} (h : Good s) : (digOf s).size = 73 := digA_size _ _ _ h.g h.r
end Go.Proofs.YtjkdonjcngmjeaaDoor.sh
/-
  A digest of bytes, as a value; its calls' contracts in those words.
-/
namespace Go.Proofs.YtjkdonjcngmjeaaDoor.sh
open Go Go.RowKit
set_option linter.unusedVariables false
set_option linter.unusedSimpArgs false

/-- The cells of the digest that bytes come to. -/
def dgs (bs : List Nat) : Array Value := digOf (feed initD bs)
theorem dgs_good {bs : List Nat} (h : Bytes bs) : Good (feed initD bs) := init_good.feed bs h
theorem dgs_size {bs : List Nat} (h : Bytes bs) : (dgs bs).size = 73 := dig_size (dgs_good h)
theorem dgs_info {bs : List Nat} (h : Bytes bs) : (Tryd.prog.info? 51).map (·.size) = some (dgs bs).size := by rw [dgs_size h]; exact dig_info
theorem dgs_one (bs : List Nat) : (dgs bs).all (·.oneCell') = true := digA_one _ _ _
theorem dgs_n (bs : List Nat) : (feed initD bs).2.2 = bs.length := by rw [feed_n]; simp [initD]
theorem dgs_zero (w : World) : (zeroValue 51).run Tryd.prog w = .ok (.agg (dgs [])) w := by rw [show dgs [] = digOf initD from rfl, ← init_val]; kernel_rfl
theorem dgs_build (w : World) : (Instr.build 51 #[]).run Tryd.prog w = .ok (.agg (dgs [])) w := by rw [show dgs [] = digOf initD from rfl, ← init_val]; kernel_rfl
theorem nil_bytes : Bytes [] := fun i x hx => by simp at hx
theorem cWrite {bs cs : List Nat} {v : Value} {w : World} (hb : Bytes bs) (hc : Bytes cs) (hn : bs.length + cs.length < 1000000000) (hr : RootsAt w) (hv : BytesV v w cs) :
    Calls Tryd.prog 9 #[.agg (dgs bs), v] w fun e w' => e = .returned (.agg (dgs (bs ++ cs))) ∧ Below w.heap.size w w' := by
  unfold dgs
  rw [feed_append]
  exact Write_any _ cs v w (dgs_good hb) hc (by rw [dgs_n]; omega) hv hr
theorem cDSum {bs : List Nat} {w : World} (hb : Bytes bs) (hn : bs.length < 1000000000) (hr : RootsAt w) :
    Calls Tryd.prog 10 #[.agg (dgs bs)] w fun e w' => e = .returned (.agg (ints .u8 (sumL bs))) ∧ Below w.heap.size w w' :=
  DSum_any _ w (dgs_good hb) (by rw [dgs_n]; omega) hr
theorem cSum {bs : List Nat} {v : Value} {w : World} (hb : Bytes bs) (hn : bs.length < 1000000000) (hr : RootsAt w) (hv : BytesV v w bs) :
    Calls Tryd.prog 8 #[v] w fun e w' => e = .returned (.agg (ints .u8 (sumL bs))) ∧ Below w.heap.size w w' :=
  Sum_any bs v w hb (by omega) hv hr
theorem RootsAt.under {w w' : World} (h : RootsAt w) (hb : Below w.heap.size w w') : RootsAt w' := h.below h.1 hb
theorem ag_bytes (w : World) : (isAgg 32).run Tryd.prog w = .ok false w := by kernel_rfl
theorem sz_bytes (w : World) : (sizeOf 32).run Tryd.prog w = .ok 1 w := by kernel_rfl
theorem grown_below0 {w w' : World} {v : Value} {B : Nat} (h : w.grownBy w' (blkOf v)) (hB : B ≤ w.heap.size) (hr : ∀ b, blkOf v = some b → B ≤ b) : Below B w w' := grown_mono h hB hr
end Go.Proofs.YtjkdonjcngmjeaaDoor.sh
/-
  Arguments that are slices of bytes, and slices of those; the program's table of words, as it is laid.
-/
namespace Go.Proofs.YtjkdonjcngmjeaaDoor.sh
open Go Go.ChangeShapes Go.WideShapes Go.ChangeAt Go.RowKit
set_option linter.unusedVariables false
set_option linter.unusedSimpArgs false

theorem own : ownKnob Tryd.prog.godebug = none := by kernel_rfl
theorem laidOut : laidOutB Tryd.prog = true := by kernel_rfl
theorem cu8 : Tryd.prog.cellsOf 5 = 1 := by kernel_rfl
theorem cu32 : Tryd.prog.cellsOf 45 = 1 := by kernel_rfl
theorem c64 : Tryd.prog.cellsOf 59 = 64 := by kernel_rfl

/-- Slices of bytes that a slice holds. -/
def RowsV (v : Value) (w : World) (V : Nat → Value) (ll : List (List Nat)) : Prop := ∃ p c, v = .slice p ll.length c ∧ ll.length ≤ c ∧ (ll ≠ [] → ∃ A, p = some A ∧ A.block < w.heap.size ∧ ∀ j, j < ll.length → w.cell? (A.add j) = some (V j)) ∧ ∀ (j : Nat) (bs : List Nat), ll[j]? = some bs → BytesV (V j) w bs ∧ Bytes bs ∧ bs.length ≤ maxLen
theorem RowsV.under {v : Value} {w w' : World} {V : Nat → Value} {ll : List (List Nat)} (h : RowsV v w V ll) (hb : Below w.heap.size w w') : RowsV v w' V ll := by
  obtain ⟨p, c, rfl, h2, h3, h4⟩ := h
  refine ⟨p, c, rfl, h2, fun hne => ?_, fun j bs hj => ⟨(h4 j bs hj).1.under hb, (h4 j bs hj).2⟩⟩
  obtain ⟨A, rfl, e2, e3⟩ := h3 hne
  exact ⟨A, rfl, Nat.lt_of_lt_of_le e2 hb.size, fun j hj => by rw [hb.cell (by rw [add_block]; exact e2)]; exact e3 j hj⟩
end Go.Proofs.YtjkdonjcngmjeaaDoor.sh
/-
  Owned slices of ints: kept, read, an element written; sums of ints.
-/
namespace Go.Proofs.YtjkdonjcngmjeaaDoor.sh
open Go Go.ChangeShapes Go.WideShapes Go.ChangeAt Go.RowKit
set_option linter.unusedVariables false
set_option linter.unusedSimpArgs false

theorem Row.alloc {base : Nat} {e : TypeId} {k : IntKind} {l : List Nat} {v : Value} {w : World} (h : Row base e k l v w) (o : Obj) : Row base e k l v (w.alloc o) := World.ownsRow.alloc h o
theorem grown_under {w w' : World} {row : Option Nat} (h : Below w.heap.size w w') : w.grownBy w' row := ⟨h.os, h.tape, h.output, h.size, fun k hk _ => h.block k hk⟩
theorem ne_none (v : Value) : blkOf v = none ∨ blkOf v ≠ none := by cases blkOf v <;> simp
theorem Row.under {base : Nat} {e : TypeId} {k : IntKind} {l : List Nat} {v : Value} {w w' : World} (h : Row base e k l v w) (hb : Below w.heap.size w w') : Row base e k l v w' := h.keeps (grown_under (row := none) hb) (ne_none v)
theorem IntsV.take {k : IntKind} {p : Option Addr} {l c m : Nat} {w : World} {bs : List Nat} (h : IntsV k (.slice p l c) w bs) (hm : m ≤ bs.length) : IntsV k (.slice p m c) w (bs.take m) := by
  obtain ⟨p', c', h1, h2, h3⟩ := h
  cases h1
  refine ⟨p, c, by rw [List.length_take, Nat.min_eq_left hm], by rw [List.length_take]; omega, fun hne => ?_⟩
  obtain ⟨A, rfl, e2, e3⟩ := h3 (by intro e; rw [e] at hne; simp at hne)
  refine ⟨A, rfl, e2, fun j x hx => ?_⟩
  rw [List.getElem?_take] at hx
  split at hx
  · exact e3 j x hx
  · cases hx
/-- Where an owned slice lies. -/
theorem Row.form {base : Nat} {e : TypeId} {k : IntKind} {l : List Nat} {v : Value} {w : World} (h : Row base e k l v w) (hn : 0 < l.length) : ∃ g cap cur, v = .slice (some ⟨g, 0, none⟩) l.length cap ∧ base ≤ g ∧ Blk w g e cur ∧ l.length ≤ cur.size ∧ ∀ (i x : Nat), l[i]? = some x → cur[i]? = some (.int k (x : Int)) := by
  obtain ⟨h1, h2⟩ := h
  rcases h2 with ⟨_, h0⟩ | ⟨g, cap, cur, rfl, hb, hg, hc, hm, hs, ht⟩
  · omega
  · refine ⟨g, cap, cur, rfl, hb, hg, by omega, fun i x hx => ?_⟩
    have hi : i < l.length := (List.getElem?_eq_some_iff.1 hx).1
    have h3 : (cur.toList.take (l.length * 1))[i]? = (ints k l).toList[i]? := by rw [ht]
    rw [List.getElem?_take_of_lt (by omega), Array.getElem?_toList, Array.getElem?_toList] at h3
    rw [h3]
    exact ints_get hx
theorem sumL_bytes (bs : List Nat) : Bytes (sumL bs) := fun i x hx => by
  unfold sumL sumD bytesL at hx
  rw [List.getElem?_map] at hx
  obtain ⟨y, _, rfl⟩ := Option.map_eq_some_iff.1 hx
  exact Nat.mod_lt _ (by decide)
/-- A pointer to a block of its own. -/
def PtrAt (t : TypeId) (C : Array Value) : Value → World → Prop := fun v w => ∃ g, v = .pointer (some ⟨g, 0, none⟩) ∧ Blk w g t C
theorem PtrAt.keeps {t : TypeId} {C : Array Value} {v : Value} {w w' : World} {row : Option Nat} (h : PtrAt t C v w) (hg : w.grownBy w' row) (hne : blkOf v = none ∨ blkOf v ≠ row) : PtrAt t C v w' := by
  obtain ⟨g, rfl, h2⟩ := h
  refine ⟨g, rfl, ?_⟩
  rcases hne with hne | hne
  · cases hne
  · exact (hg.block g h2.lt (fun e => hne (by rw [← e]; rfl))).trans h2
end Go.Proofs.YtjkdonjcngmjeaaDoor.sh
