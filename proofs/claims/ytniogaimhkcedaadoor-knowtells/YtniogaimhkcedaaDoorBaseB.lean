/-
  General pieces, joined: SI SK SV SU SQ UA SHS SHG UB UC UD UE UF UG UJ US UT UN UO XA XB XC XD XE.
-/
import Derived.Test.YtniogaimhkcedaaDoorBaseA
import Derived.OwnWalk
import Derived.ArgAppend
import Derived.Lib.SlBytesConst
import Derived.ProofKit
import Derived.LaidMore
import Derived.OpenShut
import Derived.Stop.Joined
import Derived.ChangeOld
import Derived.Deep.Slices
import Derived.Laws.BytesString
import Derived.Lib.AppendZeros
/-
  The same, told with the frame as a list of values; one lemma for each kind of operation; slices that the call owns, and appends.
-/
namespace Go.Proofs.YtniogaimhkcedaaDoor.sh
open Go Go.RowKit
set_option linter.unusedVariables false
set_option linter.unusedSimpArgs false

theorem specOf_mem' : ∀ (L : List (Nat × (Value → World → Prop))) (d : Nat) (p : Value → World → Prop), specOf L d = some p → ∃ q ∈ L, q.1 = d ∧ q.2 = p
  | [], d, p, h => by simp [specOf] at h
  | q :: r, d, p, h => by
    unfold specOf at h
    rw [List.lookup_cons] at h
    split at h
    · next he => exact ⟨q, List.mem_cons_self, by simpa using (eq_of_beq he).symm, Option.some.inj h⟩
    · obtain ⟨q', h1, h2⟩ := specOf_mem' r d p h
      exact ⟨q', List.mem_cons_of_mem _ h1, h2⟩

theorem region_ownL {P : Program} {Q : Exit → Act → World → Prop} {id : Nat} {a : Act} {w : World} (W0 : World) (n : Nat) {l : List Oper} (vals : List (Nat × Value)) (L : List (Nat × (Value → World → Prop))) (O : List Nat) (E : List (Nat × Nat)) (hm : P.follows .mixedOrders = true)
    (hE : edgesIn (l.take n) = true) (hG : guardsIn (l.take n) = true) (hA : dstsApart (l.take n) 0 = true) (hI : dstsIn (l.take n) a.tmps.size = true) (hT : tailUnder (l.take n) (l.drop n) = true)
    (hS : Region.seqB .any l.toArray (l.drop n).length (l.take n).length (Array.replicate (l.take n).length true ++ Array.replicate (l.drop n).length false) = true)
    (hv : (vals.all fun p => (dstsOf (l.take n)).contains p.1) = true) (hsp : ((L.map (·.1)).all fun d => (dstsOf (l.take n)).contains d) = true) (hO : (O.all fun d => (L.map (·.1)).contains d) = true)
    (hEw : (E.all fun q => O.contains q.2 && match (l.take n)[q.1]? with | some o => waitsFor (l.take n) o q.2 | none => false) = true) (hEn : apartB (E.map (·.2)) = true)
    (hst1 : ∀ q ∈ L, O.contains q.1 = false → ∀ (v : Value) (w w' : World), q.2 v w → Below W0.heap.size W0 w → Below W0.heap.size w w' → q.2 v w')
    (hst2 : ∀ q ∈ L, O.contains q.1 = true → ∀ (v : Value) (w w' : World) (row : Option Nat), q.2 v w → w.grownBy w' row → (blkOf v = none ∨ blkOf v ≠ row) → (∀ b, blkOf v = some b → b < w.heap.size) → q.2 v w') (hw : Below W0.heap.size W0 w)
    (hok : Full (l.take n) a (putR a vals) (specOf L) (L.map (·.1)) → OwnAll P (l.take n) a W0 (relR (putR a vals) (specOf L)) O E 0 (l.take n))
    (hfin : ∀ (f : Nat → Value) w', (∀ d p, specOf L d = some p → (E.map (·.2)).contains d = false → p (f d) w' ∧ (O.contains d = true → ∀ b, blkOf (f d) = some b → W0.heap.size ≤ b ∧ b < w'.heap.size)) →
      (∀ d d', O.contains d = true → O.contains d' = true → (E.map (·.2)).contains d = false → (E.map (·.2)).contains d' = false → d ≠ d' → ∀ b, blkOf (f d) = some b → blkOf (f d') ≠ some b) → Below W0.heap.size W0 w' →
      wpList P l.toArray Q (l.drop n) (putR (putR a vals) ((L.map (·.1)).map fun d => (d, f d))) w') : (Code.region id l.toArray true).wp P Q a w := by
  have hfull : Full (l.take n) a (putR a vals) (specOf L) (L.map (·.1)) := full_put vals hv (specOf_none L)
  have hOL : ∀ d, O.contains d = true → d ∈ L.map (·.1) := fun d hd => List.contains_iff_mem.1 (List.all_eq_true.1 hO d (List.contains_iff_mem.1 hd))
  have hEO : ∀ d, d ∈ E.map (·.2) → d ∈ L.map (·.1) := fun d hd => by
    obtain ⟨q, hq, rfl⟩ := List.mem_map.1 hd
    have := List.all_eq_true.1 hEw q hq
    simp only [Bool.and_eq_true] at this
    exact hOL _ this.1
  have hin : ∀ d, d ∈ L.map (·.1) → d ∈ dstsOf (l.take n) := fun d hd => List.contains_iff_mem.1 (List.all_eq_true.1 hsp d hd)
  have hnc : ∀ d, (E.map (·.2)).contains d = false → d ∉ E.map (·.2) := fun d h hm => by rw [List.contains_iff_mem.2 hm] at h; cases h
  refine region_own W0 n (relR (putR a vals) (specOf L)) O E _ hm hE hG hA hI hT hS hEw hEn rfl ?_ ?_ hw (hok hfull) ?_
  · intro d v w w' hd h1 h2 h3
    unfold relR at *
    cases hs : specOf L d with
    | none => rw [hs] at h1; exact h1
    | some p =>
      rw [hs] at h1
      obtain ⟨q, hq, rfl, rfl⟩ := specOf_mem' L d p hs
      exact hst1 q hq hd v w w' h1 h2 h3
  · intro d v w w' row hd h1 h2 h3 h4
    unfold relR at *
    cases hs : specOf L d with
    | none => rw [hs] at h1; exact h1
    | some p =>
      rw [hs] at h1
      obtain ⟨q, hq, rfl, rfl⟩ := specOf_mem' L d p hs
      exact hst2 q hq hd v w w' row h1 h2 h3 h4
  · intro f w' hf hD hb
    have e : putR a ((dstsOf (l.take n)).map fun d => (d, f d)) = putR (putR a vals) ((L.map (·.1)).map fun d => (d, f d)) := by
      refine act_eq (Array.ext_getElem? fun d => ?_) (by rw [putR_defers, putR_defers, putR_defers])
      rw [putR_get', putR_get', putR_size]
      by_cases hd : d < a.tmps.size
      · rw [if_pos hd, if_pos hd]
        by_cases h1 : d ∈ dstsOf (l.take n)
        · rw [if_pos h1]
          by_cases h2 : d ∈ L.map (·.1)
          · rw [if_pos h2]
          · rw [if_neg h2]
            have := (hf d h1 (fun h3 => h2 (hEO d h3))).1
            unfold relR at this
            rw [hfull.spec d h2] at this
            exact this.symm
        · rw [if_neg h1, if_neg (fun h2 => h1 (hin d h2))]
          refine (hfull.out d fun i o ho hdo => h1 ?_).symm
          exact List.mem_filterMap.2 ⟨o, List.mem_of_getElem? ho, hdo⟩
      · rw [if_neg hd, if_neg hd]
    rw [e]
    refine hfin f w' (fun d p hp hn => ?_) (fun d d' h1 h2 h3 h4 h5 => hD d (hin d (hOL d h1)) d' (hin d' (hOL d' h2)) (hnc d h3) (hnc d' h4) h1 h2 h5) hb
    by_cases hd : d ∈ L.map (·.1)
    · have := hf d (hin d hd) (hnc d hn)
      unfold relR at this
      rw [hp] at this
      exact this
    · rw [specOf_none L d hd] at hp
      cases hp

def detE (h : List Oper) (sp : List Nat) (E : List (Nat × Nat)) (i : Nat) (o : Oper) : Bool := o.op.operands.all fun x => match x with
  | .tmp d => !sp.contains d && ((h.all fun o' => o'.dst != some d) || (waitsFor h o d && E.all fun q => q.2 != d || q.1 == i))
  | _ => true
/-- The operation is carried out. -/
def Wants (h : List Oper) (A0 A : Act) (S : Nat → Option (Value → World → Prop)) (O : List Nat) (E : List (Nat × Nat)) (B i : Nat) (o : Oper) : Prop := ∀ (a : Act) (w : World), Fr h A0 a → GotE h E (relR A S) O B i a w o → Region.wanted o (yielded h.toArray a.tmps) = true

section
variable {P : Program} {h : List Oper} {A0 A : Act} {W0 : World} {S : Nat → Option (Value → World → Prop)} {sp O : List Nat} {E : List (Nat × Nat)} {B i : Nat} {o : Oper}
theorem not_mem_of {d : Nat} (h : sp.contains d = false) : d ∉ sp := fun hm => by rw [List.contains_iff_mem.2 hm] at h; cases h
/-- A slot whose value is known. -/
theorem gotE_det (hA : Full h A0 A S sp) {a : Act} {w : World} (hgot : GotE h E (relR A S) O B i a w o) {d : Nat} {v : Value} (hw : waitsFor h o d = true) (hs : sp.contains d = false) (hE : (E.all fun q => q.2 != d || q.1 == i) = true) (hv : A.tmps[d]? = some v) : a.eval (.tmp d) = v := by
  obtain ⟨u, e1, e2, _⟩ := hgot d hw hE
  unfold relR at e2
  rw [hA.spec d (not_mem_of hs), hv] at e2
  cases e2
  simp [Act.eval, e1]
/-- A slot of which something holds. -/
theorem gotE_spec {a : Act} {w : World} (hgot : GotE h E (relR A S) O B i a w o) {d : Nat} (p : Value → World → Prop) (hw : waitsFor h o d = true) (hE : (E.all fun q => q.2 != d || q.1 == i) = true) (hp : S d = some p) : p (a.eval (.tmp d)) w ∧ a.tmps[d]? = some (a.eval (.tmp d)) ∧ (O.contains d = true → ∀ b, blkOf (a.eval (.tmp d)) = some b → B ≤ b ∧ b < w.heap.size) := by
  obtain ⟨u, e1, e2, e3⟩ := hgot d hw hE
  unfold relR at e2
  rw [hp] at e2
  have : a.eval (.tmp d) = u := by simp [Act.eval, e1]
  rw [this]
  exact ⟨e2, e1, e3⟩
/-- A slot that the region does not write. -/
theorem out_eval {a : Act} (hF : Fr h A0 a) {d : Nat} {v : Value} (hd : (h.all fun o' => o'.dst != some d) = true) (hv : A0.tmps[d]? = some v) : a.eval (.tmp d) = v := by
  have := out_slot hF hd
  simp [Act.eval, this, hv]
theorem wants_none (hg : o.guard = none) : Wants h A0 A S O E B i o := fun _ _ _ _ => by simp [Region.wanted, hg]
theorem wants_at (hA : Full h A0 A S sp) (j : Nat) (b : Bool) (d : Nat) (hg : o.guard = some (j, b)) (hj : (h[j]?).bind (·.dst) = some d) (hw : waitsFor h o d = true) (hs : sp.contains d = false) (hE : (E.all fun q => q.2 != d || q.1 == i) = true) (hv : A.tmps[d]? = some (.bool b)) : Wants h A0 A S O E B i o := fun a w _ hgot => by
  obtain ⟨u, e1, e2, _⟩ := hgot d hw hE
  unfold relR at e2
  rw [hA.spec d (not_mem_of hs), hv] at e2
  cases e2
  simp [Region.wanted, hg, yielded, hj, e1]
theorem detE_eval (hA : Full h A0 A S sp) (hdet : detE h sp E i o = true) {a : Act} {w : World} (hF : Fr h A0 a) (hgot : GotE h E (relR A S) O B i a w o) : ∀ x ∈ o.op.operands, a.eval x = A.eval x := by
  intro x hx
  cases x with
  | tmp t =>
    have h1 := Array.all_eq_true_iff_forall_mem.1 hdet _ hx
    simp only [Bool.and_eq_true, Bool.or_eq_true, Bool.not_eq_true'] at h1
    obtain ⟨h2, h3⟩ := h1
    have hS : S t = none := hA.spec t (not_mem_of h2)
    have : a.tmps[t]? = A.tmps[t]? := by
      rcases h3 with h3 | h3
      · rw [out_slot hF h3]
        refine (hA.out t fun i o' ho' hdo => ?_).symm
        have := List.all_eq_true.1 h3 o' (List.mem_of_getElem? ho')
        simp [hdo] at this
      · obtain ⟨v, e1, e2, _⟩ := hgot t h3.1 h3.2
        unfold relR at e2
        rw [hS] at e2
        rw [e1, e2]
    simp [Act.eval, this]
  | const v => rfl
  | global v => rfl
  | func v => rfl
theorem ow_q (hA : Full h A0 A S sp) (hdet : detE h sp E i o = true) (hsel : notSel o = true) (hw : Wants h A0 A S O E W0.heap.size i o) (d : Nat) (v : Value) (hd : o.dst = some d) (hds : sp.contains d = false) (hO : O.contains d = false) (hv : A.tmps[d]? = some v)
    (hq : ∀ w, Below W0.heap.size W0 w → o.quietAt P A (fun w' => Below w.heap.size w w') w v) : OwnOk P h A0 W0 (relR A S) O E i o := by
  refine ⟨d, hd, fun a w hF hB hgot => ⟨hw a w hF hgot, ?_⟩⟩
  have hex := execOp_congr o (notSel_spec hsel) (detE_eval hA hdet hF hgot)
  have h3 := hq w hB
  have hR : ∀ w', relR A S d v w' := fun w' => by unfold relR; rw [hA.spec d (not_mem_of hds)]; exact hv
  have fin : ∀ w', Below w.heap.size w w' → ∃ v' row, a.put (some d) v = a.put (some d) v' ∧ relR A S d v' w' ∧ w.grownBy w' row ∧ (∀ b, row = some b → ∃ s, (i, s) ∈ E ∧ (a.tmps[s]?).bind blkOf = some b) ∧ (O.contains d = true → ∀ b, blkOf v' = some b → (w.heap.size ≤ b ∧ b < w'.heap.size) ∨ ∃ s, (i, s) ∈ E ∧ (a.tmps[s]?).bind blkOf = some b) :=
    fun w' hb => ⟨v, none, rfl, hR w', grown_none hb, fun b hb => (by cases hb), fun h' => by rw [hO] at h'; cases h'⟩
  unfold Oper.quietAt at h3
  unfold Oper.wp
  rw [hex]
  generalize (execOp A.eval o).run P w = res at *
  cases res with
  | ok n w' =>
    cases n <;> simp only [Oper.quietUpon] at h3 <;> simp only [Oper.upon]
    case value u =>
      obtain ⟨e1, e2⟩ := h3
      rw [e1, e2, hd]
      exact fin w (Below.refl _ _)
    case skip =>
      obtain ⟨e1, e2⟩ := h3
      rw [e1, ← e2, hd]
      exact fin w (Below.refl _ _)
    case enter f args =>
      obtain ⟨e1, hc⟩ := h3
      rw [e1]
      refine hc.mono fun e w'' hh => ?_
      obtain ⟨rfl, hb⟩ := hh
      rw [hd]
      exact fin w'' hb
  | halt x w' => simp only [Oper.quietUpon] at h3
/-- A value that hangs on the frame alone. -/
theorem ow_val (hA : Full h A0 A S sp) (hw : Wants h A0 A S O E W0.heap.size i o) (d : Nat) (v : Value) (hdet : detE h sp E i o = true) (hsel : notSel o = true) (hd : o.dst = some d) (hds : sp.contains d = false) (hO : O.contains d = false) (hv : A.tmps[d]? = some v) (hrun : ∀ w, (execOp A.eval o).run P w = .ok (.value v) w) : OwnOk P h A0 W0 (relR A S) O E i o :=
  ow_q hA hdet hsel hw d v hd hds hO hv fun w _ => by
    unfold Oper.quietAt
    rw [hrun]
    exact ⟨rfl, rfl⟩
/-- One cell of a block is read. -/
theorem ow_elem (hA : Full h A0 A S sp) (hw : Wants h A0 A S O E W0.heap.size i o) (d : Nat) (v : Value) (hdet : detE h sp E i o = true) (hsel : notSel o = true) (hd : o.dst = some d) (hds : sp.contains d = false) (hO : O.contains d = false) (hv : A.tmps[d]? = some v) (e : TypeId) (ag : ∀ w, (isAgg e).run P w = .ok false w) (x : Operand) (ho : o.op = .load e x) (p : Addr) (hx : A.eval x = .pointer (some p))
    (hc : ∀ w, Below W0.heap.size W0 w → w.cell? p = some v) : OwnOk P h A0 W0 (relR A S) O E i o :=
  ow_q hA hdet hsel hw d v hd hds hO hv fun w hb => by
    have hc := hc w hb
    unfold Oper.quietAt execOp
    simp only [ho, hx, Instr.loadAt, Instr.sureAddr, Sem.run_bind, Sem.run_pure, Result.andThen_ok]
    simp [loadVar, ag, go_sem, hc]
/-- A whole block is read (an array, a struct). -/
theorem ow_row (hA : Full h A0 A S sp) (hw : Wants h A0 A S O E W0.heap.size i o) (d : Nat) (v : Value) (hdet : detE h sp E i o = true) (hsel : notSel o = true) (hd : o.dst = some d) (hds : sp.contains d = false) (hO : O.contains d = false) (hv : A.tmps[d]? = some v) (ty : TypeId) (x : Operand) (ho : o.op = .load ty x) (g : Nat) (hx : A.eval x = .pointer (some ⟨g, 0, none⟩)) (t : TypeId) (C : Array Value) (len : Nat) (e : TypeId) (hu : P.underlying ty = some (.array len e)) (hi : (P.info? ty).map (·.size) = some C.size)
    (hb : ∀ w, Below W0.heap.size W0 w → Blk w g t C) (hvB : v = .agg C) : OwnOk P h A0 W0 (relR A S) O E i o :=
  ow_q hA hdet hsel hw d v hd hds hO hv fun w hw => by
    unfold Oper.quietAt execOp
    simp only [ho, hx, Instr.loadAt, Instr.sureAddr, Sem.run_bind, Sem.run_pure, Result.andThen_ok, run_loadVar_row w g t ty C (0, 0) _ (hb w hw) hu rfl hi]
    exact ⟨rfl, hvB.symm⟩
theorem ow_rowS (hA : Full h A0 A S sp) (hw : Wants h A0 A S O E W0.heap.size i o) (d : Nat) (v : Value) (hdet : detE h sp E i o = true) (hsel : notSel o = true) (hd : o.dst = some d) (hds : sp.contains d = false) (hO : O.contains d = false) (hv : A.tmps[d]? = some v) (ty : TypeId) (x : Operand) (ho : o.op = .load ty x) (g : Nat) (hx : A.eval x = .pointer (some ⟨g, 0, none⟩)) (t : TypeId) (C : Array Value) (fs : Array Field) (hu : P.underlying ty = some (.struct fs)) (hi : (P.info? ty).map (·.size) = some C.size)
    (hb : ∀ w, Below W0.heap.size W0 w → Blk w g t C) (hvB : v = .agg C) : OwnOk P h A0 W0 (relR A S) O E i o :=
  ow_q hA hdet hsel hw d v hd hds hO hv fun w hw => by
    unfold Oper.quietAt execOp
    simp only [ho, hx, Instr.loadAt, Instr.sureAddr, Sem.run_bind, Sem.run_pure, Result.andThen_ok, run_loadVar_row w g t ty C (0, 0) _ (hb w hw) hu rfl hi]
    exact ⟨rfl, hvB.symm⟩
/-- A struct in the midst of a block is read. -/
theorem ow_partS (hA : Full h A0 A S sp) (hw : Wants h A0 A S O E W0.heap.size i o) (d : Nat) (v : Value) (hdet : detE h sp E i o = true) (hsel : notSel o = true) (hd : o.dst = some d) (hds : sp.contains d = false) (hO : O.contains d = false) (hv : A.tmps[d]? = some v) (ty : TypeId) (x : Operand) (ho : o.op = .load ty x) (g off : Nat) (hx : A.eval x = .pointer (some ⟨g, off, none⟩)) (t : TypeId) (cs es : Array Value) (fs : Array Field) (hu : P.underlying ty = some (.struct fs)) (hi : (P.info? ty).map (·.size) = some es.size)
    (hb : ∀ w, Below W0.heap.size W0 w → Blk w g t cs) (hp : ∀ j v, es[j]? = some v → cs[off + j]? = some v) (hvB : v = .agg es) : OwnOk P h A0 W0 (relR A S) O E i o :=
  ow_q hA hdet hsel hw d v hd hds hO hv fun w hw => by
    unfold Oper.quietAt execOp
    simp only [ho, hx, Instr.loadAt, Instr.sureAddr, Sem.run_bind, Sem.run_pure, Result.andThen_ok, run_loadVar_at w g off t ty cs es (0, 0) _ (hb w hw) hp hu rfl hi]
    exact ⟨rfl, hvB.symm⟩
/-- A call of known values with a known answer. -/
theorem ow_calld (hA : Full h A0 A S sp) (hw : Wants h A0 A S O E W0.heap.size i o) (d : Nat) (v : Value) (hdet : detE h sp E i o = true) (hsel : notSel o = true) (hd : o.dst = some d) (hds : sp.contains d = false) (hO : O.contains d = false) (hv : A.tmps[d]? = some v) (f : Nat) (fn : Func) (c : Code) (args : List Operand) (ts : Array TypeId) (vs : List Value) (ho : o.op = .call { callee := .value (.func f), args := args.toArray, argTypes := ts })
    (hargs : args.map A.eval = vs) (hf : P.funcs[f]? = some fn) (hname : (fn.name == "runtime.NumGoroutine") = false) (hb : fn.body = some c)
    (hc : ∀ w, Below W0.heap.size W0 w → Calls P f vs.toArray w fun e w' => e = .returned v ∧ Below w.heap.size w w') : OwnOk P h A0 W0 (relR A S) O E i o :=
  ow_q hA hdet hsel hw d v hd hds hO hv fun w hw => by
    have h1 : fn.name ≠ "runtime.NumGoroutine" := by simpa using hname
    have ha : args.toArray.map A.eval = vs.toArray := by rw [List.map_toArray, hargs]
    have hrun : (execOp A.eval o).run P w = .ok (.enter f vs.toArray) w := by
      unfold execOp
      simp only [ho, resolve, ha, Act.eval]
      simp [Deferred.ofValue, invoke, callFunc, hf, h1, hb]
    unfold Oper.quietAt
    rw [hrun]
    exact ⟨rfl, hc w hw⟩
/-- A call, whatever its arguments are. -/
theorem ow_call (hw : Wants h A0 A S O E W0.heap.size i o) (d f : Nat) (fn : Func) (c : Code) (args : List Operand) (ts : Array TypeId) (hd : o.dst = some d) (ho : o.op = .call { callee := .value (.func f), args := args.toArray, argTypes := ts }) (hf : P.funcs[f]? = some fn) (hname : (fn.name == "runtime.NumGoroutine") = false) (hb : fn.body = some c)
    (hc : ∀ a w, Fr h A0 a → Below W0.heap.size W0 w → GotE h E (relR A S) O W0.heap.size i a w o → Calls P f (args.map a.eval).toArray w fun e w' => ∃ v, e = .returned v ∧ relR A S d v w' ∧ Below w.heap.size w w' ∧ (O.contains d = true → ∀ b, blkOf v = some b → w.heap.size ≤ b ∧ b < w'.heap.size)) : OwnOk P h A0 W0 (relR A S) O E i o := by
  refine ⟨d, hd, fun a w hF hB hgot => ⟨hw a w hF hgot, ?_⟩⟩
  have h1 : fn.name ≠ "runtime.NumGoroutine" := by simpa using hname
  have hrun : (execOp a.eval o).run P w = .ok (.enter f (args.map a.eval).toArray) w := by
    unfold execOp
    simp only [ho, resolve, List.map_toArray, Act.eval]
    simp [Deferred.ofValue, invoke, callFunc, hf, h1, hb]
  unfold Oper.wp
  rw [hrun]
  simp only [Oper.upon]
  refine (hc a w hF hB hgot).mono fun e w' hh => ?_
  obtain ⟨v, rfl, hR, hb', hO⟩ := hh
  rw [hd]
  exact ⟨v, none, rfl, hR, grown_none hb', fun b hb => (by cases hb), fun h1 b hb => .inl (hO h1 b hb)⟩
/-- Whatever makes a value. -/
theorem ow_run (hw : Wants h A0 A S O E W0.heap.size i o) (d : Nat) (hd : o.dst = some d) (hrun : ∀ (a : Act) (w : World), Fr h A0 a → Below W0.heap.size W0 w → GotE h E (relR A S) O W0.heap.size i a w o → ∃ v w' row, (execOp a.eval o).run P w = .ok (.value v) w' ∧ relR A S d v w' ∧ w.grownBy w' row ∧ (∀ b, row = some b → ∃ s, (i, s) ∈ E ∧ (a.tmps[s]?).bind blkOf = some b) ∧
    (O.contains d = true → ∀ b, blkOf v = some b → (w.heap.size ≤ b ∧ b < w'.heap.size) ∨ ∃ s, (i, s) ∈ E ∧ (a.tmps[s]?).bind blkOf = some b)) : OwnOk P h A0 W0 (relR A S) O E i o := by
  refine ⟨d, hd, fun a w hF hB hgot => ⟨hw a w hF hgot, ?_⟩⟩
  obtain ⟨v, w', row, h1, h2⟩ := hrun a w hF hB hgot
  unfold Oper.wp
  rw [h1]
  simp only [Oper.upon]
  rw [hd]
  exact ⟨v, row, rfl, h2⟩
/-- What makes a block, whatever the frame is. -/
theorem ow_new (hw : Wants h A0 A S O E W0.heap.size i o) (d : Nat) (hd : o.dst = some d) (p : Value → World → Prop) (hp : S d = some p) (hnew : ∀ (a : Act) (w : World), W0.heap.size ≤ w.heap.size → ∃ v w', (execOp a.eval o).run P w = .ok (.value v) w' ∧ p v w' ∧ Below w.heap.size w w' ∧ ∀ b, blkOf v = some b → w.heap.size ≤ b ∧ b < w'.heap.size) : OwnOk P h A0 W0 (relR A S) O E i o :=
  ow_run hw d hd fun a w _ hB _ => by
    obtain ⟨v, w', h1, h2, h3, h4⟩ := hnew a w hB.size
    exact ⟨v, w', none, h1, rel_spec p hp h2, grown_none h3, fun b hb => (by cases hb), fun _ b hb => .inl (h4 b hb)⟩
/-- A slot is taken over as it is. -/
theorem ow_take (hw : Wants h A0 A S O E W0.heap.size i o) (d s : Nat) (hd : o.dst = some d) (p : Value → World → Prop) (hp : S d = some p) (hps : S s = some p) (hws : waitsFor h o s = true) (hE : (E.all fun q => q.2 != s || q.1 == i) = true) (hm : (i, s) ∈ E) (hrun : ∀ (a : Act) (w : World), p (a.eval (.tmp s)) w → (execOp a.eval o).run P w = .ok (.value (a.eval (.tmp s))) w) : OwnOk P h A0 W0 (relR A S) O E i o :=
  ow_run hw d hd fun a w _ hB hgot => by
    obtain ⟨h1, h2, h3⟩ := gotE_spec hgot p hws hE hps
    exact ⟨_, w, none, hrun a w h1, rel_spec p hp h1, grown_none (Below.refl _ _), fun b hb => (by cases hb), fun _ b hb => .inr ⟨s, hm, by rw [h2]; exact hb⟩⟩
end

theorem SliceAt.keeps {t : TypeId} {k : IntKind} {l : List Nat} {cap : Nat} {v : Value} {w w' : World} {row : Option Nat} (h : SliceAt t k l cap v w) (hg : w.grownBy w' row) (hne : blkOf v = none ∨ blkOf v ≠ row) : SliceAt t k l cap v w' := by
  obtain ⟨g, rfl, h2⟩ := h
  refine ⟨g, rfl, ?_⟩
  rcases hne with hne | hne
  · cases hne
  · exact (hg.block g h2.lt (fun e => hne (by rw [← e]; rfl))).trans h2
/-- A slice of ints that the call owns. -/
def Row (base : Nat) (e : TypeId) (k : IntKind) (l : List Nat) : Value → World → Prop := fun v w => w.ownsRow base e 1 v l.length (ints k l).toList
theorem row_blk {base : Nat} {e : TypeId} {k : IntKind} {l : List Nat} {v : Value} {w : World} (h : Row base e k l v w) : v.ownBlock = blkOf v := by
  rcases h.2 with ⟨rfl, _⟩ | ⟨g, cap, cur, rfl, _⟩ <;> rfl
theorem Row.keeps {base : Nat} {e : TypeId} {k : IntKind} {l : List Nat} {v : Value} {w w' : World} {row : Option Nat} (h : Row base e k l v w) (hg : w.grownBy w' row) (hne : blkOf v = none ∨ blkOf v ≠ row) : Row base e k l v w' := World.ownsRow.kept h hg (by rw [row_blk h]; exact hne)
theorem Row.mono {base b' : Nat} {e : TypeId} {k : IntKind} {l : List Nat} {v : Value} {w : World} (h : Row base e k l v w) (hb : b' ≤ base) : Row b' e k l v w := by
  obtain ⟨h1, h2⟩ := h
  refine ⟨h1, ?_⟩
  rcases h2 with h | ⟨g, cap, cur, a, b, c⟩
  · exact .inl h
  · exact .inr ⟨g, cap, cur, a, Nat.le_trans hb b, c⟩
theorem Row.range {base : Nat} {e : TypeId} {k : IntKind} {l : List Nat} {v : Value} {w : World} (h : Row base e k l v w) : ∀ b, blkOf v = some b → base ≤ b ∧ b < w.heap.size := fun b hb => h.lt b (by rw [row_blk h]; exact hb)
theorem row_nil (w : World) (base : Nat) (e : TypeId) (k : IntKind) : Row base e k [] (.slice none 0 0) w := World.ownsRow_nil w base e 1
/-- Ints that a slice holds. -/
def IntsV (k : IntKind) (v : Value) (w : World) (l : List Nat) : Prop := ∃ p c, v = .slice p l.length c ∧ l.length ≤ c ∧ (l ≠ [] → ∃ A, p = some A ∧ A.block < w.heap.size ∧ ∀ (j x : Nat), l[j]? = some x → w.cell? (A.add j) = some (.int k (x : Int)))
theorem bytesV_ints {v : Value} {w : World} {l : List Nat} (h : BytesV v w l) : IntsV .u8 v w l := h
theorem IntsV.below {k : IntKind} {v : Value} {w w' : World} {l : List Nat} {B : Nat} (h : IntsV k v w l) (hB : ∀ b, blkOf v = some b → b < B) (hb : Below B w w') : IntsV k v w' l := by
  obtain ⟨p, c, rfl, h2, h3⟩ := h
  refine ⟨p, c, rfl, h2, fun hne => ?_⟩
  obtain ⟨A, rfl, e2, e3⟩ := h3 hne
  exact ⟨A, rfl, Nat.lt_of_lt_of_le e2 hb.size, fun j x hx => by rw [hb.cell (by rw [add_block]; exact hB _ rfl)]; exact e3 j x hx⟩
theorem row_cells {base : Nat} {e : TypeId} {k : IntKind} {l : List Nat} {v : Value} {w : World} (h : Row base e k l v w) : IntsV k v w l := by
  rcases h.2 with ⟨rfl, h0⟩ | ⟨g, cap, cur, rfl, hb, hg, hn, hm, hs, ht⟩
  · have : l = [] := List.eq_nil_of_length_eq_zero h0
    subst this
    exact ⟨none, 0, rfl, Nat.le_refl _, fun hne => absurd rfl hne⟩
  · refine ⟨_, cap, rfl, hn, fun _ => ⟨_, rfl, (Array.getElem?_eq_some_iff.1 hg).1, fun j x hx => ?_⟩⟩
    rw [addr_add, Nat.zero_add]
    refine cell_row hg ?_
    have hj : j < l.length := (List.getElem?_eq_some_iff.1 hx).1
    have h3 : (cur.toList.take (l.length * 1))[j]? = (ints k l).toList[j]? := by rw [ht]
    rw [List.getElem?_take_of_lt (by omega), Array.getElem?_toList] at h3
    rw [h3, Array.getElem?_toList]
    exact ints_get hx
theorem row_bytes {base : Nat} {e : TypeId} {l : List Nat} {v : Value} {w : World} (h : Row base e .u8 l v w) : BytesV v w l := row_cells h

theorem app_run {P : Program} {t ty e : TypeId} {k : IntKind} {bytes : Nat} (ht : P.underlying t = some (.slice e)) (hi : (P.info? e).map (fun i => (i.zero, i.size, i.bytes)) = some (some (.int k 0), 1, bytes)) {base : Nat} {l m : List Nat} {v u : Value} {w : World} (hown : Row base e k l v w) (hx : IntsV k u w m) (hn : l.length + m.length ≤ 8796093022208) (hby : bytes ≤ 8) (hbase : base ≤ w.heap.size) :
    ∃ v' w', (Builtin.append_ #[t, t] ty #[v, u]).run P w = .ok v' w' ∧ Row base e k (l ++ m) v' w' ∧ w.grownBy w' (blkOf v) ∧ (blkOf v' = blkOf v ∨ blkOf v' = some w.heap.size) := by
  obtain ⟨i0, hi', hz0, hz1, hz2⟩ := info_parts hi
  obtain ⟨p, c, rfl, h2, h3⟩ := hx
  have hbl := row_blk hown
  have hmax : l.length + m.length ≤ maxLen := by unfold maxLen; omega
  have hbb : (l.length + m.length) * bytes ≤ 140737488355328 := Nat.le_trans (Nat.mul_le_mul hn hby) (by decide)
  have hlen : (ints k (l ++ m)).toList = (ints k l).toList ++ (ints k m).toList := by rw [← ints_append]; simp
  cases p with
  | none =>
    have hm0 : m = [] := by
      cases m with
      | nil => rfl
      | cons x r => obtain ⟨A, h, _⟩ := h3 (by simp); cases h
    subst hm0
    refine ⟨v, w, ?_, by rw [List.append_nil]; exact hown, ⟨rfl, rfl, rfl, Nat.le_refl _, fun _ _ _ => rfl⟩, .inl rfl⟩
    rcases hown.2 with ⟨rfl, h0⟩ | ⟨g, cap, cur, rfl, _, _, hnc, _⟩
    · simp [Builtin.append_, run_underlying ht, sizeOf, typeInfo, hi', Builtin.lenOf, Builtin.firstCells, h0]
    · simp [Builtin.append_, run_underlying ht, sizeOf, typeInfo, hi', Builtin.lenOf, Builtin.firstCells, hnc, storeCells]
  | some A =>
    obtain ⟨v', w', h4, h5, h6, _, h8⟩ := run_append_own_at (P := P) w base t ty e i0 (.int k 0) 1 bytes ht hi' hz0 hz1 hz2 rfl (by decide) v l.length (ints k l).toList hown A m.length c (ints k m).toList (by simp [ints]) (by
      intro j y hj
      rw [Array.getElem?_toList] at hj
      have hjl : j < m.length := by have := (Array.getElem?_eq_some_iff.1 hj).1; rwa [ints_size] at this
      obtain ⟨A', e1, _, e3⟩ := h3 (by intro e; rw [e] at hjl; simp at hjl)
      cases e1
      rw [e3 j m[j] (List.getElem?_eq_getElem hjl), ← hj, ints_get (List.getElem?_eq_getElem hjl)]) (oneCell_ints _ _) hmax hbb hbase
    have hrow : Row base e k (l ++ m) v' w' := by unfold Row; rw [List.length_append, hlen]; exact h5
    rw [row_blk hrow, hbl] at h8
    exact ⟨v', w', h4, hrow, by rw [← hbl]; exact h6, h8⟩

theorem inf_u8 : (Tryd.prog.info? 5).map (fun i => (i.zero, i.size, i.bytes)) = some (some (.int .u8 0), 1, 1) := by kernel_rfl
theorem inf_u32 : (Tryd.prog.info? 132).map (fun i => (i.zero, i.size, i.bytes)) = some (some (.int .u32 0), 1, 4) := by kernel_rfl
theorem inf_u64 : (Tryd.prog.info? 44).map (fun i => (i.zero, i.size, i.bytes)) = some (some (.int .u64 0), 1, 8) := by kernel_rfl

section
variable {P : Program} {h : List Oper} {A0 A : Act} {W0 : World} {S : Nat → Option (Value → World → Prop)} {sp O : List Nat} {E : List (Nat × Nat)} {B i : Nat} {o : Oper}
/-- 'append' in a region that draws its order: onto an owned slot (taken over), or onto nil. -/
theorem ow_app (hw : Wants h A0 A S O E W0.heap.size i o) (d : Nat) (hd : o.dst = some d) (s x : Operand) (t e : TypeId) (k : IntKind) (bytes : Nat) (ho : o.op = .call { callee := .builtin .append, args := #[s, x], argTypes := #[t, t] }) (ht : P.underlying t = some (.slice e)) (hi : (P.info? e).map (fun i => (i.zero, i.size, i.bytes)) = some (some (.int k 0), 1, bytes)) (hby : bytes ≤ 8) (l m : List Nat) (hn : l.length + m.length ≤ 8796093022208) (hp : S d = some (Row W0.heap.size e k (l ++ m)))
    (hs : ∀ (a : Act) (w : World), Fr h A0 a → Below W0.heap.size W0 w → GotE h E (relR A S) O W0.heap.size i a w o → Row W0.heap.size e k l (a.eval s) w ∧ IntsV k (a.eval x) w m ∧ ∀ b, blkOf (a.eval s) = some b → ∃ q, (i, q) ∈ E ∧ (a.tmps[q]?).bind blkOf = some b) : OwnOk P h A0 W0 (relR A S) O E i o :=
  ow_run hw d hd fun a w hF hB hgot => by
    obtain ⟨h1, h2, h3⟩ := hs a w hF hB hgot
    obtain ⟨v', w', h4, h5, h6, h7⟩ := app_run (ty := o.type) ht hi h1 h2 hn hby hB.size
    refine ⟨v', w', _, ?_, rel_spec _ hp h5, h6, h3, fun _ b hb => ?_⟩
    · unfold execOp
      simp only [ho, resolve, invoke, builtin, Sem.run_bind, Sem.run_pure, Result.andThen_ok, List.map_toArray, List.map_cons, List.map_nil, h4]
    · rcases h7 with h7 | h7
      · exact .inr (h3 b (by rw [← h7]; exact hb))
      · rw [hb] at h7
        cases h7
        exact .inl ⟨Nat.le_refl _, (h5.range _ hb).2⟩
end
/-- 'append' in a plain region. -/
theorem wl_app {ops : Array Oper} {rest : List Oper} {o : Oper} {a : Act} {w : World} {Q : Exit → Act → World → Prop} (hw : Region.wanted o (yielded ops a.tmps) = true) (s x : Operand) (t e : TypeId) (k : IntKind) (bytes : Nat) (ho : o.op = .call { callee := .builtin .append, args := #[s, x], argTypes := #[t, t] }) (ht : Tryd.prog.underlying t = some (.slice e)) (hi : (Tryd.prog.info? e).map (fun i => (i.zero, i.size, i.bytes)) = some (some (.int k 0), 1, bytes)) (hby : bytes ≤ 8) (base : Nat) (l m : List Nat) (v u : Value) (hs : a.eval s = v) (hx : a.eval x = u) (hv : Row base e k l v w) (hu : IntsV k u w m) (hn : l.length + m.length ≤ 8796093022208) (hbase : base ≤ w.heap.size)
    (hk : ∀ v' w', Row base e k (l ++ m) v' w' → w.grownBy w' (blkOf v) → (blkOf v' = blkOf v ∨ blkOf v' = some w.heap.size) → wpList Tryd.prog ops Q rest (a.put o.dst v') w') : wpList Tryd.prog ops Q (o :: rest) a w :=
  BigFrame.wpList_want hw fun K hK => by
    obtain ⟨v', w', h4, h5, h6, h7⟩ := app_run (ty := o.type) ht hi hv hu hn hby hbase
    unfold Oper.wp execOp
    simp only [ho, resolve, invoke, builtin, Sem.run_bind, Sem.run_pure, Result.andThen_ok, List.map_toArray, List.map_cons, List.map_nil, hs, hx, h4]
    exact hK _ _ (hk v' w' h5 h6 h7)
/-- Two rows of ints are compared. -/
theorem rows_all (l m : List Nat) (n : Nat) (hl : l.length = n) (hm : m.length = n) : ((List.range n).all fun i => ((l.getD i 0 : Nat) : Int) == ((m.getD i 0 : Nat) : Int)) = decide (l = m) := by
  rw [Bool.eq_iff_iff]
  simp only [List.all_eq_true, List.mem_range, beq_iff_eq, decide_eq_true_eq]
  constructor
  · intro h
    refine List.ext_getElem (by rw [hl, hm]) fun i h1 h2 => ?_
    have := Int.ofNat.inj (h i (by omega))
    simpa [List.getD_eq_getElem?_getD, h1, h2] using this
  · rintro rfl i _
    rfl
theorem ints_getD {k : IntKind} {l : List Nat} {n : Nat} (hl : l.length = n) : ∀ i, i < n → (ints k l)[i]? = some (.int k ((l.getD i 0 : Nat) : Int)) := fun i hi => ints_get (by simp [List.getD_eq_getElem?_getD, show i < l.length by omega])
theorem run_eql_row {P : Program} {t e : TypeId} {k : IntKind} {n : Nat} {o : Oper} {ρ : Operand → Value} {x y : Operand} {u : TypeId} (l m : List Nat) (ho : o.op = .binOp .eql t x y u) (hx : ρ x = .agg (ints k l)) (hy : ρ y = .agg (ints k m)) (hl : l.length = n) (hm : m.length = n) (ht : P.underlying t = some (.array n e)) (he : P.underlying e = some (.int k)) (hs : ∀ w, (sizeOf e).run P w = .ok 1 w) (hagg : ∀ w, (isAgg e).run P w = .ok false w) (hg : P.eqGuardType P.depth t = false) (w : World) :
    (execOp ρ o).run P w = .ok (.value (.bool (decide (l = m)))) w := by
  have hq : ∀ w, (Op.equal t (.agg (ints k l)) (.agg (ints k m))).run P w = .ok (decide (l = m)) w := fun w => by
    rw [run_equal_cells ht he hs hagg (ints_getD hl) (ints_getD hm), rows_all l m n hl hm]
  unfold execOp
  simp only [ho, hx, hy, eqGuard, binOp, Sem.run_bind, Sem.run_pure, Result.andThen_ok, hq, run_program, hg, Bool.not_false, if_true]
  simp
  intro h
  rw [hg] at h
  cases h
theorem run_neq_row {P : Program} {t e : TypeId} {k : IntKind} {n : Nat} {o : Oper} {ρ : Operand → Value} {x y : Operand} {u : TypeId} (l m : List Nat) (ho : o.op = .binOp .neq t x y u) (hx : ρ x = .agg (ints k l)) (hy : ρ y = .agg (ints k m)) (hl : l.length = n) (hm : m.length = n) (ht : P.underlying t = some (.array n e)) (he : P.underlying e = some (.int k)) (hs : ∀ w, (sizeOf e).run P w = .ok 1 w) (hagg : ∀ w, (isAgg e).run P w = .ok false w) (hg : P.eqGuardType P.depth t = false) (w : World) :
    (execOp ρ o).run P w = .ok (.value (.bool (!decide (l = m)))) w := by
  have hq : ∀ w, (Op.equal t (.agg (ints k l)) (.agg (ints k m))).run P w = .ok (decide (l = m)) w := fun w => by
    rw [run_equal_cells ht he hs hagg (ints_getD hl) (ints_getD hm), rows_all l m n hl hm]
  unfold execOp
  simp only [ho, hx, hy, eqGuard, binOp, Sem.run_bind, Sem.run_pure, Result.andThen_ok, hq, run_program, hg, Bool.not_false, if_true]
  simp
  intro h
  rw [hg] at h
  cases h
end Go.Proofs.YtniogaimhkcedaaDoor.sh
/-
  Slices of constants, marked by the conversion of a constant text; what is appended to them.
-/
namespace Go.Proofs.YtniogaimhkcedaaDoor.sh
open Go Go.RowKit
set_option linter.unusedVariables false
set_option linter.unusedSimpArgs false

/-- A slice of ints with no room, in a block of its own, marked or not. -/
def Const (e : TypeId) (k : IntKind) (l : List Nat) : Value → World → Prop := fun v w => ∃ g fr, v = .slice (some ⟨g, 0, none⟩) l.length l.length ∧ w.heap[g]? = some (.cells (ints k l) e fr)
theorem Const.keeps {e : TypeId} {k : IntKind} {l : List Nat} {v : Value} {w w' : World} {row : Option Nat} (h : Const e k l v w) (hg : w.grownBy w' row) (hne : blkOf v = none ∨ blkOf v ≠ row) : Const e k l v w' := by
  obtain ⟨g, fr, rfl, h2⟩ := h
  refine ⟨g, fr, rfl, ?_⟩
  rcases hne with hne | hne
  · cases hne
  · exact (hg.block g (Array.getElem?_eq_some_iff.1 h2).1 (fun e => hne (by rw [← e]; rfl))).trans h2
theorem Const.ints {e : TypeId} {k : IntKind} {l : List Nat} {v : Value} {w : World} (h : Const e k l v w) : IntsV k v w l := by
  obtain ⟨g, fr, rfl, h2⟩ := h
  exact ⟨_, _, rfl, Nat.le_refl _, fun _ => ⟨_, rfl, (Array.getElem?_eq_some_iff.1 h2).1, fun j x hx => by rw [addr_add, Nat.zero_add]; exact cell_row h2 (ints_get hx)⟩⟩
theorem IntsV.keeps {k : IntKind} {l : List Nat} {v : Value} {w w' : World} {row : Option Nat} (h : IntsV k v w l) (hg : w.grownBy w' row) (hne : blkOf v = none ∨ blkOf v ≠ row) : IntsV k v w' l := by
  obtain ⟨p, c, rfl, h2, h3⟩ := h
  refine ⟨p, c, rfl, h2, fun hn => ?_⟩
  obtain ⟨A, rfl, e2, e3⟩ := h3 hn
  refine ⟨A, rfl, Nat.lt_of_lt_of_le e2 hg.size, fun j x hx => ?_⟩
  rcases hne with hne | hne
  · cases hne
  · exact hg.cell (e3 j x hx) (by rw [add_block]; exact hne)

theorem conv_const {t e : TypeId} {l : List Nat} {v : Value} {w : World} (ht : Tryd.prog.underlying t = some (.slice e)) (he : Tryd.prog.underlying e = some (.int .u8)) (h : Const e .u8 l v w) :
    ∃ w', (convert t t v).run Tryd.prog w = .ok v w' ∧ Const e .u8 l v w' ∧ w.grownBy w' (blkOf v) := by
  obtain ⟨g, fr, rfl, h2⟩ := h
  have hsh : w.shape? g = some (e, (ints .u8 l).size) := by unfold World.shape?; rw [h2]
  refine ⟨w.freeze ⟨g, (ints .u8 l).size, none⟩ 1, ?_, ⟨g, (if fr.1 == fr.2 then ((ints .u8 l).size, (ints .u8 l).size + 1) else (min fr.1 (ints .u8 l).size, max fr.2 ((ints .u8 l).size + 1))), rfl, ?_⟩, ?_⟩
  · simp [convert, run_underlying ht, run_underlying he, markStringish, hsh]
  · unfold World.freeze
    rw [if_neg (by decide)]
    simp [Array.getElem?_modify, h2]
  · unfold World.freeze
    rw [if_neg (by decide)]
    refine ⟨rfl, rfl, rfl, by simp, fun k hk hne => ?_⟩
    simp only [Array.getElem?_modify]
    rw [if_neg (fun e => hne (by rw [← e]; rfl))]
theorem run_conv {o : Oper} {a : Act} {x : Operand} {t : TypeId} {v : Value} {w w' : World} (ho : o.op = .convert t t x) (hx : a.eval x = v) (h : (convert t t v).run Tryd.prog w = .ok v w') : (execOp a.eval o).run Tryd.prog w = .ok (.value v) w' := by
  unfold execOp
  simp only [ho, hx]
  simp [h]
theorem grown_weak {w w' : World} {row : Option Nat} (h : w.grownBy w' none) : w.grownBy w' row := ⟨h.os, h.tape, h.output, h.size, fun k hk _ => h.block k hk (by simp)⟩

/-- What is appended to a slice with no room lies in a block of its own. -/
theorem app_const {t ty e : TypeId} {k : IntKind} {bytes : Nat} (ht : Tryd.prog.underlying t = some (.slice e)) (hi : (Tryd.prog.info? e).map (fun i => (i.zero, i.size, i.bytes)) = some (some (.int k 0), 1, bytes)) {l m : List Nat} {v u : Value} {w : World} (hv : Const e k l v w) (hx : IntsV k u w m) (hn : l.length + m.length ≤ 8796093022208) (hby : bytes ≤ 8) :
    ∃ v' w', (Builtin.append_ #[t, t] ty #[v, u]).run Tryd.prog w = .ok v' w' ∧ IntsV k v' w' (l ++ m) ∧ w.grownBy w' none ∧ (blkOf v' = blkOf v ∨ ∃ b, blkOf v' = some b ∧ w.heap.size ≤ b ∧ b < w'.heap.size) := by
  obtain ⟨i0, hi', hz0, hz1, hz2⟩ := info_parts hi
  have hvi := hv.ints
  obtain ⟨g, fr, rfl, h2⟩ := hv
  obtain ⟨p, c, rfl, h3, h4⟩ := hx
  have hgl : g < w.heap.size := (Array.getElem?_eq_some_iff.1 h2).1
  by_cases hm : m = []
  · subst hm
    refine ⟨.slice (some ⟨g, 0, none⟩) l.length l.length, w, ?_, by rw [List.append_nil]; exact hvi, ⟨rfl, rfl, rfl, Nat.le_refl _, fun _ _ _ => rfl⟩, .inl rfl⟩
    cases p with
    | none => simp [Builtin.append_, run_underlying ht, sizeOf, typeInfo, hi', Builtin.lenOf, Builtin.firstCells, storeCells]
    | some A =>
      have hf := run_firstCells_some (P := Tryd.prog) w i0.size 0 A 0 c [] (by simp) (by simp)
      simp [Builtin.append_, run_underlying ht, sizeOf, typeInfo, hi', Builtin.lenOf, hf, storeCells]
  · have hmp : 0 < m.length := List.length_pos_iff.2 hm
    obtain ⟨A, rfl, e2, e3⟩ := h4 hm
    have hmax : l.length + m.length ≤ maxLen := by unfold maxLen; omega
    have hbb : (l.length + m.length) * bytes ≤ 140737488355328 := Nat.le_trans (Nat.mul_le_mul hn hby) (by decide)
    obtain ⟨v', w', h5, h6, h7⟩ := run_append_arg_grows (P := Tryd.prog) w t ty e i0 (.int k 0) 1 bytes ht hi' hz0 hz1 hz2 rfl (by decide) ⟨g, 0, none⟩ l.length l.length (sh.ints k l).toList (by simp [sh.ints]) (by
      intro j y hj
      rw [Array.getElem?_toList] at hj
      rw [addr_add, Nat.zero_add]
      exact cell_row h2 hj) A m.length c (sh.ints k m).toList (by simp [sh.ints]) (by
      intro j y hj
      rw [Array.getElem?_toList] at hj
      have hjl : j < m.length := by have := (Array.getElem?_eq_some_iff.1 hj).1; rwa [ints_size] at this
      rw [e3 j m[j] (List.getElem?_eq_getElem hjl), ← hj, ints_get (List.getElem?_eq_getElem hjl)]) (by omega) hmax hbb
    have hrow : Row w.heap.size e k (l ++ m) v' w' := by
      unfold Row
      rw [List.length_append, show (sh.ints k (l ++ m)).toList = (sh.ints k l).toList ++ (sh.ints k m).toList from by rw [← ints_append]; simp]
      exact h6
    refine ⟨v', w', h5, row_cells hrow, h7, .inr ?_⟩
    obtain ⟨g', cap, rfl, hb, hlt⟩ := World.ownsRow.form hrow (by simp; omega)
    exact ⟨g', rfl, hb, hlt⟩

section
variable {h : List Oper} {A0 A : Act} {W0 : World} {S : Nat → Option (Value → World → Prop)} {sp O : List Nat} {E : List (Nat × Nat)} {B i : Nat} {o : Oper}
/-- A constant's bytes, marked, are taken over. -/
theorem ow_conv (hw : Wants h A0 A S O E W0.heap.size i o) (d s : Nat) (hd : o.dst = some d) (t e : TypeId) (l : List Nat) (ho : o.op = .convert t t (.tmp s)) (ht : Tryd.prog.underlying t = some (.slice e)) (he : Tryd.prog.underlying e = some (.int .u8)) (hp : S d = some (Const e .u8 l)) (hps : S s = some (Const e .u8 l)) (hws : waitsFor h o s = true) (hE : (E.all fun q => q.2 != s || q.1 == i) = true) (hm : (i, s) ∈ E) : OwnOk Tryd.prog h A0 W0 (relR A S) O E i o :=
  ow_run hw d hd fun a w _ hB hgot => by
    obtain ⟨h1, h2, h3⟩ := gotE_spec hgot _ hws hE hps
    obtain ⟨w', h4, h5, h6⟩ := conv_const ht he h1
    exact ⟨_, w', _, run_conv ho rfl h4, rel_spec _ hp h5, h6, fun b hb => ⟨s, hm, by rw [h2]; exact hb⟩, fun _ b hb => .inr ⟨s, hm, by rw [h2]; exact hb⟩⟩
/-- 'append' onto a constant's bytes, which are taken over. -/
theorem ow_appc (hw : Wants h A0 A S O E W0.heap.size i o) (d s : Nat) (hd : o.dst = some d) (x : Operand) (t e : TypeId) (k : IntKind) (bytes : Nat) (ho : o.op = .call { callee := .builtin .append, args := #[.tmp s, x], argTypes := #[t, t] }) (ht : Tryd.prog.underlying t = some (.slice e)) (hi : (Tryd.prog.info? e).map (fun i => (i.zero, i.size, i.bytes)) = some (some (.int k 0), 1, bytes)) (hby : bytes ≤ 8) (l m : List Nat) (hn : l.length + m.length ≤ 8796093022208) (hp : S d = some (fun v w => IntsV k v w (l ++ m))) (hps : S s = some (Const e k l)) (hws : waitsFor h o s = true) (hE : (E.all fun q => q.2 != s || q.1 == i) = true) (hm : (i, s) ∈ E)
    (hx : ∀ (a : Act) (w : World), Fr h A0 a → Below W0.heap.size W0 w → GotE h E (relR A S) O W0.heap.size i a w o → IntsV k (a.eval x) w m) : OwnOk Tryd.prog h A0 W0 (relR A S) O E i o :=
  ow_run hw d hd fun a w hF hB hgot => by
    obtain ⟨h1, h2, h3⟩ := gotE_spec hgot _ hws hE hps
    obtain ⟨v', w', h4, h5, h6, h7⟩ := app_const (ty := o.type) ht hi h1 (hx a w hF hB hgot) hn hby
    refine ⟨v', w', none, ?_, rel_spec _ hp h5, h6, fun b hb => (by cases hb), fun _ b hb => ?_⟩
    · unfold execOp
      simp only [ho, resolve, invoke, builtin, Sem.run_bind, Sem.run_pure, Result.andThen_ok, List.map_toArray, List.map_cons, List.map_nil, h4]
    · rcases h7 with h7 | ⟨b', h7, h8⟩
      · exact .inr ⟨s, hm, by rw [h2, ← hb, h7]; rfl⟩
      · rw [hb] at h7
        cases h7
        exact .inl h8
end
end Go.Proofs.YtniogaimhkcedaaDoor.sh
/-
  Single operations of plain regions, guarded or not; slices cut on both sides.
-/
namespace Go.Proofs.YtniogaimhkcedaaDoor.sh
open Go Go.RowKit
set_option linter.unusedVariables false
set_option linter.unusedSimpArgs false

section
variable {ops : Array Oper} {rest : List Oper} {o : Oper} {a : Act} {w : World} {Q : Exit → Act → World → Prop} {d : Nat}
theorem wv_val (hd : o.dst = some d) (hw : Region.wanted o (yielded ops a.tmps) = true) (v : Value) (hrun : ∀ w, (execOp a.eval o).run Tryd.prog w = .ok (.value v) w) (h : wpList Tryd.prog ops Q rest (a.put o.dst v) w) : wpList Tryd.prog ops Q (o :: rest) a w :=
  BigFrame.wpList_want hw fun K hK => by
    unfold Oper.wp
    rw [hrun]
    exact hK _ _ h
theorem wv_rowS (hd : o.dst = some d) (hw : Region.wanted o (yielded ops a.tmps) = true) (t : TypeId) (x : Operand) (ho : o.op = .load t x) (g : Nat) (hx : a.eval x = .pointer (some ⟨g, 0, none⟩)) {t' : TypeId} (A : Array Value) (fs : Array Field) (hu : Tryd.prog.underlying t = some (.struct fs)) (hs : (Tryd.prog.info? t).map (·.size) = some A.size)
    (hg : Blk w g t' A) (h : wpList Tryd.prog ops Q rest (a.put o.dst (.agg A)) w) : wpList Tryd.prog ops Q (o :: rest) a w :=
  BigFrame.wpList_want hw fun K hK => by
    unfold Oper.wp execOp
    simp only [ho, hx, Instr.loadAt, Instr.sureAddr, Sem.run_bind, Sem.run_pure, Result.andThen_ok, run_loadVar_row w g t' t A (0, 0) _ hg hu rfl hs]
    exact hK _ _ h
theorem wv_row (hd : o.dst = some d) (hw : Region.wanted o (yielded ops a.tmps) = true) (t : TypeId) (x : Operand) (ho : o.op = .load t x) (g : Nat) (hx : a.eval x = .pointer (some ⟨g, 0, none⟩)) {t' : TypeId} (A : Array Value) (len : Nat) (e : TypeId) (hu : Tryd.prog.underlying t = some (.array len e)) (hs : (Tryd.prog.info? t).map (·.size) = some A.size)
    (hg : Blk w g t' A) (h : wpList Tryd.prog ops Q rest (a.put o.dst (.agg A)) w) : wpList Tryd.prog ops Q (o :: rest) a w :=
  BigFrame.wpList_want hw fun K hK => by
    unfold Oper.wp execOp
    simp only [ho, hx, Instr.loadAt, Instr.sureAddr, Sem.run_bind, Sem.run_pure, Result.andThen_ok, run_loadVar_row w g t' t A (0, 0) _ hg hu rfl hs]
    exact hK _ _ h
theorem wv_elem (hd : o.dst = some d) (hw : Region.wanted o (yielded ops a.tmps) = true) (e : TypeId) (ag : ∀ w, (isAgg e).run Tryd.prog w = .ok false w) (x : Operand) (ho : o.op = .load e x) (p : Addr) (hx : a.eval x = .pointer (some p)) (v : Value)
    (hc : w.cell? p = some v) (h : wpList Tryd.prog ops Q rest (a.put o.dst v) w) : wpList Tryd.prog ops Q (o :: rest) a w :=
  BigFrame.wpList_want hw fun K hK => by
    have hrun : (execOp a.eval o).run Tryd.prog w = .ok (.value v) w := by
      unfold execOp
      simp only [ho, hx, Instr.loadAt, Instr.sureAddr, Sem.run_bind, Sem.run_pure, Result.andThen_ok]
      simp [loadVar, ag, go_sem, hc]
    unfold Oper.wp
    rw [hrun]
    exact hK _ _ h
end
section
variable {o : Oper} {a : Act} {x y z : Operand}
theorem cuts_run {p : Option Addr} {l c k m : Nat} {t e : TypeId} (ho : o.op = .slice t x (some y) (some z) none) (hx : a.eval x = .slice p l c) (hy : a.eval y = .int .i64 (k : Int)) (hz : a.eval z = .int .i64 (m : Int)) (ht : Tryd.prog.underlying t = some (.slice e)) (sz : ∀ w, (sizeOf e).run Tryd.prog w = .ok 1 w) (hk : k ≤ m) (hm : m ≤ c) (w : World) :
    (execOp a.eval o).run Tryd.prog w = .ok (.value (.slice (if c = k then p else p.map (·.add k)) (m - k) (c - k))) w := by
  have h1 : ((k : Int) ≤ (m : Int)) := by omega
  have h2 : ((m : Int) ≤ (c : Int)) := by omega
  unfold execOp
  simp only [ho, hx, hy, hz, Option.map_some, Option.map_none, Instr.sliceAt, Instr.slice, Instr.sliceBounds, Sem.run_bind, run_underlying ht, Result.andThen_ok]
  simp [Instr.sliceBound, asIntOf, sz, go_sem, h1, h2]
  rw [if_pos hm, if_pos hk]
theorem cutTo_run {p : Option Addr} {l c m : Nat} {t e : TypeId} (ho : o.op = .slice t x none (some z) none) (hx : a.eval x = .slice p l c) (hz : a.eval z = .int .i64 (m : Int)) (ht : Tryd.prog.underlying t = some (.slice e)) (sz : ∀ w, (sizeOf e).run Tryd.prog w = .ok 1 w) (hm : m ≤ c) (w : World) :
    (execOp a.eval o).run Tryd.prog w = .ok (.value (.slice p m c)) w := by
  have h2 : ((m : Int) ≤ (c : Int)) := by omega
  have h3 : ∀ q : Addr, q.add 0 = q := fun q => by simp [Addr.add]
  unfold execOp
  simp only [ho, hx, hz, Option.map_some, Option.map_none, Instr.sliceAt, Instr.slice, Instr.sliceBounds, Sem.run_bind, run_underlying ht, Result.andThen_ok]
  simp [Instr.sliceBound, asIntOf, sz, go_sem, h2]
  intro h
  omega
end
theorem run_addI {o : Oper} {a : Act} {x : Operand} {i : Nat} (c : Nat) (ho : o.op = .binOp .add 3 x (.const (.int .i64 (c : Int))) 3) (hx : a.eval x = .int .i64 (i : Int)) (hi : i + c < 4611686018427387904) (w : World) : (execOp a.eval o).run Tryd.prog w = .ok (.value (.int .i64 ((i + c : Nat) : Int))) w := by
  have e3 : a.eval (.const (.int .i64 (c : Int))) = .int .i64 (c : Int) := rfl
  unfold execOp
  simp only [ho, hx, e3]
  simp [go_sem, IntKind.wrap_i64, wrap64]
  omega
/-- The address of an element of a slice. -/
theorem run_idxS {o : Oper} {a : Act} {x y : Operand} {i l c : Nat} {A : Addr} {t e : TypeId} (ho : o.op = .indexAddr t x y) (hx : a.eval x = .slice (some A) l c) (hy : a.eval y = .int .i64 (i : Int)) (ht : Tryd.prog.underlying t = some (.slice e)) (hi : i < l) (sz : ∀ w, (sizeOf e).run Tryd.prog w = .ok 1 w) (w : World) : (execOp a.eval o).run Tryd.prog w = .ok (.value (.pointer (some (A.add i)))) w := by
  have h1 : ((i : Int) < (l : Int)) := by omega
  unfold execOp
  simp only [ho, hx, hy, Instr.indexAt]
  simp [asIntOf, run_underlying ht, h1, sz, go_sem]
  intro h
  omega
theorem dig_size {s : List Nat × List Nat × Nat} (h : Good s) : (digOf s).size = 73 := digA_size _ _ _ h.g h.r
theorem rep_bytes (n c : Nat) (hc : c < 256) : Bytes (List.replicate n c) := fun i x hx => by
  rw [List.getElem?_replicate] at hx
  split at hx <;> simp at hx
  omega
end Go.Proofs.YtniogaimhkcedaaDoor.sh
/-
  A digest of bytes, as a value; its calls' contracts in those words.
-/
namespace Go.Proofs.YtniogaimhkcedaaDoor.sh
open Go Go.RowKit
set_option linter.unusedVariables false
set_option linter.unusedSimpArgs false

/-- The cells of the digest that bytes come to. -/
def dgs (bs : List Nat) : Array Value := digOf (feed initD bs)
theorem dgs_good {bs : List Nat} (h : Bytes bs) : Good (feed initD bs) := init_good.feed bs h
theorem dgs_size {bs : List Nat} (h : Bytes bs) : (dgs bs).size = 73 := dig_size (dgs_good h)
theorem dgs_one (bs : List Nat) : (dgs bs).all (·.oneCell') = true := digA_one _ _ _
theorem dgs_n (bs : List Nat) : (feed initD bs).2.2 = bs.length := by rw [feed_n]; simp [initD]
theorem nil_bytes : Bytes [] := fun i x hx => by simp at hx
theorem RootsAt.under {w w' : World} (h : RootsAt w) (hb : Below w.heap.size w w') : RootsAt w' := h.below h.1 hb
theorem ag_bytes (w : World) : (isAgg 23).run Tryd.prog w = .ok false w := by kernel_rfl
theorem sz_bytes (w : World) : (sizeOf 23).run Tryd.prog w = .ok 1 w := by kernel_rfl
theorem grown_below0 {w w' : World} {v : Value} {B : Nat} (h : w.grownBy w' (blkOf v)) (hB : B ≤ w.heap.size) (hr : ∀ b, blkOf v = some b → B ≤ b) : Below B w w' := grown_mono h hB hr
end Go.Proofs.YtniogaimhkcedaaDoor.sh
/-
  Arguments that are slices of bytes, and slices of those; the program's table of words, as it is laid.
-/
namespace Go.Proofs.YtniogaimhkcedaaDoor.sh
open Go Go.ChangeShapes Go.WideShapes Go.ChangeAt Go.RowKit
set_option linter.unusedVariables false
set_option linter.unusedSimpArgs false

theorem own : ownKnob Tryd.prog.godebug = none := by kernel_rfl
theorem laidOut : laidOutB Tryd.prog = true := by kernel_rfl
theorem cu8 : Tryd.prog.cellsOf 5 = 1 := by kernel_rfl
theorem cu32 : Tryd.prog.cellsOf 132 = 1 := by kernel_rfl
theorem cbytes : Tryd.prog.cellsOf 23 = 1 := by kernel_rfl
/-- The number of a byte's value. -/
theorem byte_cell {H : Type} {enc : TypeId × Value → H} {W : World} {base : Nat} {sp : Nat → Bool} {held : Bool} {fuel : Nat} {v : Value} {x : DataW H × List MemPlace}
    (hf : DataW.trod enc Tryd.prog W base sp held fuel 5 [v] = some x) : ∃ n : Nat, v = .int .u8 (n : Int) ∧ n < 256 := by
  obtain ⟨k, e1, e2, hwf⟩ := DataW.trod_int Tryd.underlying5 hf
  have hb := bounds_u8 hwf
  obtain ⟨n, rfl⟩ := Int.eq_ofNat_of_zero_le hb.1
  exact ⟨n, by simpa using e1, by omega⟩
theorem bytes_cells {H : Type} {enc : TypeId × Value → H} {W : World} {base : Nat} {sp : Nat → Bool} {held : Bool} {fuel : Nat} {cs : List Value} {x : DataW H × List MemPlace}
    (hf : DataW.trod enc Tryd.prog W base sp held fuel 23 cs = some x) : ∃ v bs, cs = [v] ∧ BytesV v W bs ∧ Bytes bs ∧ bs.length ≤ maxLen := by
  rcases Go.Deep.open_slice1 Tryd.underlying23 cu8 hf with ⟨hcs, hx⟩ | ⟨a, len, cap, m, n, V, D, Pl, hcs, _, hl, hm, hmm, hx, hel⟩
  · exact ⟨_, [], hcs, ⟨none, 0, rfl, Nat.le_refl _, fun h => absurd rfl h⟩, fun i x hx => by simp at hx, Nat.zero_le _⟩
  · have hlm : len ≤ m := by rw [hmm]; split <;> omega
    have key : ∀ i, ∃ n : Nat, i < len → V i = .int .u8 (n : Int) ∧ n < 256 := fun i => by
      by_cases hi : i < len
      · obtain ⟨n, h1, h2⟩ := byte_cell (hel i (by omega)).2
        exact ⟨n, fun _ => ⟨h1, h2⟩⟩
      · exact ⟨0, fun h => absurd h hi⟩
    let f : Nat → Nat := fun i => Classical.choose (key i)
    have hk : ∀ i, i < len → V i = .int .u8 (f i : Int) ∧ f i < 256 := fun i => Classical.choose_spec (key i)
    have hget : ∀ (j x : Nat), ((List.range len).map f)[j]? = some x → j < len ∧ x = f j := fun j x hx => by
      rw [List.getElem?_map] at hx
      obtain ⟨y, hy, rfl⟩ := Option.map_eq_some_iff.1 hx
      obtain ⟨h1, h2⟩ := List.getElem?_eq_some_iff.1 hy
      simp at h1 h2
      exact ⟨h1, by rw [h2]⟩
    refine ⟨_, (List.range len).map f, hcs, ⟨some a, cap, by simp, by simpa using hl, fun hne => ⟨a, rfl, ?_, fun j x hx => ?_⟩⟩, fun j x hx => ?_, by simp; omega⟩
    · have h0 : 0 < len := by
        rcases Nat.eq_zero_or_pos len with h | h
        · subst h; exact absurd rfl hne
        · exact h
      have := World.block_lt_of_cell? _ _ (hel 0 (by omega)).1
      rwa [add_block] at this
    · obtain ⟨h1, rfl⟩ := hget j x hx
      rw [(hel j (by omega)).1, (hk j h1).1]
    · obtain ⟨h1, rfl⟩ := hget j x hx
      exact (hk j h1).2
set_option maxRecDepth 100000 in
theorem open_bytes {H : Type} {enc : TypeId × Value → H} {W : World} {r : Reach} {b0 base : Nat} {sp : Nat → Bool} {held : Bool} {v : Value} {d : DataW H} {p : List MemPlace}
    (hv : Value.okWide Tryd.prog W r b0 23 v) (h : DataW.Trod enc Tryd.prog W base sp held 23 v d p) : ∃ bs, BytesV v W bs ∧ Bytes bs ∧ bs.length ≤ maxLen := by
  obtain ⟨a0, len, cap, rfl⟩ := okWide_slice Tryd.underlying23 hv
  obtain ⟨fuel, hf⟩ := h
  obtain ⟨v', bs, h1, h2, h3, h4⟩ := bytes_cells hf
  simp [Value.cells] at h1
  subst h1
  exact ⟨bs, h2, h3, h4⟩

/-- Slices of bytes that a slice holds. -/
def RowsV (v : Value) (w : World) (V : Nat → Value) (ll : List (List Nat)) : Prop := ∃ p c, v = .slice p ll.length c ∧ ll.length ≤ c ∧ (ll ≠ [] → ∃ A, p = some A ∧ A.block < w.heap.size ∧ ∀ j, j < ll.length → w.cell? (A.add j) = some (V j)) ∧ ∀ (j : Nat) (bs : List Nat), ll[j]? = some bs → BytesV (V j) w bs ∧ Bytes bs ∧ bs.length ≤ maxLen
theorem RowsV.under {v : Value} {w w' : World} {V : Nat → Value} {ll : List (List Nat)} (h : RowsV v w V ll) (hb : Below w.heap.size w w') : RowsV v w' V ll := by
  obtain ⟨p, c, rfl, h2, h3, h4⟩ := h
  refine ⟨p, c, rfl, h2, fun hne => ?_, fun j bs hj => ⟨(h4 j bs hj).1.under hb, (h4 j bs hj).2⟩⟩
  obtain ⟨A, rfl, e2, e3⟩ := h3 hne
  exact ⟨A, rfl, Nat.lt_of_lt_of_le e2 hb.size, fun j hj => by rw [hb.cell (by rw [add_block]; exact e2)]; exact e3 j hj⟩
end Go.Proofs.YtniogaimhkcedaaDoor.sh
/-
  Owned slices of ints: kept, read, an element written; sums of ints.
-/
namespace Go.Proofs.YtniogaimhkcedaaDoor.sh
open Go Go.ChangeShapes Go.WideShapes Go.ChangeAt Go.RowKit
set_option linter.unusedVariables false
set_option linter.unusedSimpArgs false

theorem Row.alloc {base : Nat} {e : TypeId} {k : IntKind} {l : List Nat} {v : Value} {w : World} (h : Row base e k l v w) (o : Obj) : Row base e k l v (w.alloc o) := World.ownsRow.alloc h o
theorem grown_under {w w' : World} {row : Option Nat} (h : Below w.heap.size w w') : w.grownBy w' row := ⟨h.os, h.tape, h.output, h.size, fun k hk _ => h.block k hk⟩
theorem ne_none (v : Value) : blkOf v = none ∨ blkOf v ≠ none := by cases blkOf v <;> simp
theorem Row.under {base : Nat} {e : TypeId} {k : IntKind} {l : List Nat} {v : Value} {w w' : World} (h : Row base e k l v w) (hb : Below w.heap.size w w') : Row base e k l v w' := h.keeps (grown_under (row := none) hb) (ne_none v)
theorem ne_of_range {v : Value} {B g : Nat} (h : ∀ b, blkOf v = some b → B ≤ b) (hg : g < B) : blkOf v = none ∨ blkOf v ≠ some g := by
  cases hv : blkOf v with
  | none => exact .inl rfl
  | some b => exact .inr fun e => by cases e; have := h g hv; omega
theorem IntsV.take {k : IntKind} {p : Option Addr} {l c m : Nat} {w : World} {bs : List Nat} (h : IntsV k (.slice p l c) w bs) (hm : m ≤ bs.length) : IntsV k (.slice p m c) w (bs.take m) := by
  obtain ⟨p', c', h1, h2, h3⟩ := h
  cases h1
  refine ⟨p, c, by rw [List.length_take, Nat.min_eq_left hm], by rw [List.length_take]; omega, fun hne => ?_⟩
  obtain ⟨A, rfl, e2, e3⟩ := h3 (by intro e; rw [e] at hne; simp at hne)
  refine ⟨A, rfl, e2, fun j x hx => ?_⟩
  rw [List.getElem?_take] at hx
  split at hx
  · exact e3 j x hx
  · cases hx
theorem run_addV {o : Oper} {a : Act} {x y : Operand} {i j : Nat} (ho : o.op = .binOp .add 3 x y 3) (hx : a.eval x = .int .i64 (i : Int)) (hy : a.eval y = .int .i64 (j : Int)) (hi : i + j < 4611686018427387904) (w : World) : (execOp a.eval o).run Tryd.prog w = .ok (.value (.int .i64 ((i + j : Nat) : Int))) w := by
  unfold execOp
  simp only [ho, hx, hy]
  simp [go_sem, IntKind.wrap_i64, wrap64]
  omega
/-- The rows' lengths keep the form's own reach. -/
theorem bytes_cellsZ {H : Type} {enc : TypeId × Value → H} {W : World} {base : Nat} {sp : Nat → Bool} {held : Bool} {fuel : Nat} {cs : List Value} {x : DataW H × List MemPlace}
    (hf : DataW.trod enc Tryd.prog W base sp held fuel 23 cs = some x) (hz : ∀ n ∈ x.1.weights Tryd.prog 23, n ≤ reachBytes) {v : Value} {bs : List Nat} (hcs : cs = [v]) (hb : BytesV v W bs) : bs.length ≤ reachBytes := by
  obtain ⟨p, c, rfl, hlc, _⟩ := hb
  rcases Go.Deep.open_slice1 Tryd.underlying23 cu8 hf with ⟨h1, _⟩ | ⟨a, len, cap, m, n, V, D, Pl, h1, _, hl, hm, hmm, hx, hel⟩
  · rw [hcs] at h1
    simp at h1
    rw [h1.2.1]
    exact Nat.zero_le _
  · rw [hcs] at h1
    simp at h1
    obtain ⟨_, h2, _⟩ := h1
    have hby : Tryd.prog.bytesOf 5 = 1 := by kernel_rfl
    have := hz ((((List.range len).map D).length + ((List.range (m - len)).map fun j => D (len + j)).length) * Tryd.prog.bytesOf 5) (by rw [hx]; simp [DataW.weights, Tryd.underlying23])
    rw [hby, Nat.mul_one] at this
    simp at this
    omega
theorem weightsAll_mem {H : Type} {P : Program} {e : TypeId} : ∀ {l : List (DataW H)} {d : DataW H}, d ∈ l → ∀ n ∈ d.weights P e, n ∈ DataW.weightsAll P e l
  | x :: r, d, hd, n, hn => by
    simp only [DataW.weightsAll, List.mem_append]
    rcases List.mem_cons.1 hd with rfl | h
    · exact Or.inl hn
    · exact Or.inr (weightsAll_mem h n hn)
theorem row_set {base g n cap : Nat} {e : TypeId} {k : IntKind} {xs : List Nat} {cur : Array Value} {w w' : World} (h : w.ownsRow base e 1 (.slice (some ⟨g, 0, none⟩) n cap) xs.length (ints k xs).toList) (hg : Blk w g e cur) (i y : Nat) (hw : Blk w' g e (cur.setIfInBounds i (.int k (y : Int)))) : Row base e k (xs.set i y) (.slice (some ⟨g, 0, none⟩) n cap) w' := by
  obtain ⟨h1, h2⟩ := h
  rcases h2 with ⟨h3, _⟩ | ⟨g', cap', cur', h3, hb, hg', hc, hm, hs, ht⟩
  · cases h3
  · cases h3
    have : cur' = cur := by
      have hq := hg.symm.trans hg'
      cases hq
      rfl
    subst this
    unfold Row
    refine ⟨by simp [ints], .inr ⟨g, cap, _, by rw [List.length_set], hb, hw, by rw [List.length_set]; exact hc, hm, by rw [Array.size_setIfInBounds]; exact hs, ?_⟩⟩
    rw [List.length_set, Array.toList_setIfInBounds, ← ints_set, Array.toList_setIfInBounds, ← ht, ← List.take_set]
/-- Where an owned slice lies. -/
theorem Row.form {base : Nat} {e : TypeId} {k : IntKind} {l : List Nat} {v : Value} {w : World} (h : Row base e k l v w) (hn : 0 < l.length) : ∃ g cap cur, v = .slice (some ⟨g, 0, none⟩) l.length cap ∧ base ≤ g ∧ Blk w g e cur ∧ l.length ≤ cur.size ∧ ∀ (i x : Nat), l[i]? = some x → cur[i]? = some (.int k (x : Int)) := by
  obtain ⟨h1, h2⟩ := h
  rcases h2 with ⟨_, h0⟩ | ⟨g, cap, cur, rfl, hb, hg, hc, hm, hs, ht⟩
  · omega
  · refine ⟨g, cap, cur, rfl, hb, hg, by omega, fun i x hx => ?_⟩
    have hi : i < l.length := (List.getElem?_eq_some_iff.1 hx).1
    have h3 : (cur.toList.take (l.length * 1))[i]? = (ints k l).toList[i]? := by rw [ht]
    rw [List.getElem?_take_of_lt (by omega), Array.getElem?_toList, Array.getElem?_toList] at h3
    rw [h3]
    exact ints_get hx
theorem run_xor8 {o : Oper} {a : Act} {x : Operand} {m z : Nat} (ho : o.op = .binOp .xor 5 x (.const (.int .u8 255)) 5) (hx : a.eval x = .int .u8 (m : Int)) (hm : m < 256) (hz : z = m ^^^ 255) (w : World) : (execOp a.eval o).run Tryd.prog w = .ok (.value (.int .u8 (z : Int))) w := by
  have h := u8_xor_nat m 255 hm (by decide)
  have e3 : a.eval (.const (.int .u8 255)) = .int .u8 255 := rfl
  unfold execOp
  simp only [ho, hx, e3]
  simp [go_sem, hz]
  exact h
theorem xor8_lt (m : Nat) (h : m < 256) : m ^^^ 255 < 256 := Nat.xor_lt_two_pow (n := 8) h (by decide)
theorem sumL_bytes (bs : List Nat) : Bytes (sumL bs) := fun i x hx => by
  unfold sumL sumD bytesL at hx
  rw [List.getElem?_map] at hx
  obtain ⟨y, _, rfl⟩ := Option.map_eq_some_iff.1 hx
  exact Nat.mod_lt _ (by decide)
/-- A pointer to a block of its own. -/
def PtrAt (t : TypeId) (C : Array Value) : Value → World → Prop := fun v w => ∃ g, v = .pointer (some ⟨g, 0, none⟩) ∧ Blk w g t C
theorem PtrAt.keeps {t : TypeId} {C : Array Value} {v : Value} {w w' : World} {row : Option Nat} (h : PtrAt t C v w) (hg : w.grownBy w' row) (hne : blkOf v = none ∨ blkOf v ≠ row) : PtrAt t C v w' := by
  obtain ⟨g, rfl, h2⟩ := h
  refine ⟨g, rfl, ?_⟩
  rcases hne with hne | hne
  · cases hne
  · exact (hg.block g h2.lt (fun e => hne (by rw [← e]; rfl))).trans h2
theorem RowsAt.trans_under {w1 w w' : World} (h : Below w1.heap.size w1 w) (hb : Below w.heap.size w w') : Below w1.heap.size w1 w' := h.trans (hb.mono h.size)
end Go.Proofs.YtniogaimhkcedaaDoor.sh
/-
  Regions that draw their order, as in SH, with stores among them that wait for no more than they need: each into a block that a slot owns.
-/
namespace Go.Proofs.YtniogaimhkcedaaDoor.sh
open Go Go.RowKit
set_option linter.unusedVariables false
set_option linter.unusedSimpArgs false

/-- Stores: the operation's index, the slot whose block it writes, and what holds behind it. -/
abbrev Stores := List (Nat × Nat × (Value → World → Prop))
/-- A store into a block that a slot owns. -/
def StoreOk (P : Program) (h : List Oper) (A0 : Act) (W0 : World) (R : Nat → Value → World → Prop) (O : List Nat) (E : List (Nat × Nat)) (St : Stores) (i : Nat) (o : Oper) : Prop := o.dst = none ∧ ∃ s p, (i, s, p) ∈ St ∧ ∀ a w, Fr h A0 a → Below W0.heap.size W0 w → GotE h E R O W0.heap.size i a w o →
  Region.wanted o (yielded h.toArray a.tmps) = true ∧ o.wp P a w (fun a' w' => a' = a ∧ ∀ v, a.tmps[s]? = some v → R s v w' ∧ p v w' ∧ w.grownBy w' (blkOf v)) (fun _ _ _ => False)
def OwnAllS (P : Program) (h : List Oper) (A0 : Act) (W0 : World) (R : Nat → Value → World → Prop) (O : List Nat) (E : List (Nat × Nat)) (St : Stores) : Nat → List Oper → Prop
  | _, [] => True
  | i, o :: r => (OwnOk P h A0 W0 R O E i o ∨ StoreOk P h A0 W0 R O E St i o) ∧ OwnAllS P h A0 W0 R O E St (i + 1) r
theorem ownAllS_get {P : Program} {h : List Oper} {A0 : Act} {W0 : World} {R : Nat → Value → World → Prop} {O : List Nat} {E : List (Nat × Nat)} {St : Stores} : ∀ (r : List Oper) (k : Nat), OwnAllS P h A0 W0 R O E St k r → ∀ i o, r[i]? = some o → OwnOk P h A0 W0 R O E (k + i) o ∨ StoreOk P h A0 W0 R O E St (k + i) o
  | [], _, _, i, o, ho => by simp at ho
  | x :: r, k, hr, 0, o, ho => by simp at ho; subst ho; exact hr.1
  | x :: r, k, hr, i + 1, o, ho => by
    have := ownAllS_get r (k + 1) hr.2 i o (by simpa using ho)
    rwa [show k + 1 + i = k + (i + 1) from by omega] at this
theorem apart_gen {α : Type} (f : α → Nat) : ∀ (E : List α), apartB (E.map f) = true → ∀ q ∈ E, ∀ q' ∈ E, f q = f q' → q = q'
  | [], _, q, hq, _, _, _ => by cases hq
  | x :: r, h, q, hq, q', hq', he => by
    simp only [List.map_cons, apartB, Bool.and_eq_true, Bool.not_eq_true'] at h
    have hn : ∀ y ∈ r, f y ≠ f x := fun y hy e => by
      have : (r.map f).contains (f x) = true := List.contains_iff_mem.2 (List.mem_map.2 ⟨y, hy, e⟩)
      rw [h.1] at this
      cases this
    rcases List.mem_cons.1 hq with h1 | h1 <;> rcases List.mem_cons.1 hq' with h2 | h2
    · rw [h1, h2]
    · exact absurd (by rw [← he, h1]) (hn q' h2)
    · exact absurd (by rw [he, h2]) (hn q h1)
    · exact apart_gen f r h.2 q h1 q' h2 he

theorem region_ownS {P : Program} {Q : Exit → Act → World → Prop} {id : Nat} {a : Act} {w : World} (W0 : World) (n : Nat) {l : List Oper} (R : Nat → Value → World → Prop) (O : List Nat) (E : List (Nat × Nat)) (St : Stores) (ds : List Nat) (hm : P.follows .mixedOrders = true)
    (hE : edgesIn (l.take n) = true) (hG : guardsIn (l.take n) = true) (hA : dstsApart (l.take n) 0 = true) (hI : dstsIn (l.take n) a.tmps.size = true) (hT : tailUnder (l.take n) (l.drop n) = true)
    (hS : Region.seqB .any l.toArray (l.drop n).length (l.take n).length (Array.replicate (l.take n).length true ++ Array.replicate (l.drop n).length false) = true)
    (hEw : (E.all fun q => O.contains q.2 && match (l.take n)[q.1]? with | some o => waitsFor (l.take n) o q.2 | none => false) = true) (hEn : apartB (E.map (·.2)) = true)
    (hSw : (St.all fun q => O.contains q.2.1 && !((E.map (·.2)).contains q.2.1) && match (l.take n)[q.1]? with | some o => waitsFor (l.take n) o q.2.1 && o.dst.isNone | none => false) = true) (hSn : apartB (St.map (·.2.1)) = true) (hSi : apartB (St.map (·.1)) = true)
    (hds : dstsOf (l.take n) = ds)
    (hst1 : ∀ d v w w', O.contains d = false → R d v w → Below W0.heap.size W0 w → Below W0.heap.size w w' → R d v w')
    (hst2 : ∀ d v w w' row, O.contains d = true → R d v w → w.grownBy w' row → (blkOf v = none ∨ blkOf v ≠ row) → (∀ b, blkOf v = some b → b < w.heap.size) → R d v w')
    (hst3 : ∀ q ∈ St, ∀ (v : Value) (w w' : World) (row : Option Nat), q.2.2 v w → w.grownBy w' row → (blkOf v = none ∨ blkOf v ≠ row) → (∀ b, blkOf v = some b → b < w.heap.size) → q.2.2 v w') (hw : Below W0.heap.size W0 w)
    (hok : OwnAllS P (l.take n) a W0 R O E St 0 (l.take n))
    (hfin : ∀ (f : Nat → Value) w', (∀ d ∈ ds, d ∉ E.map (·.2) → R d (f d) w' ∧ (O.contains d = true → ∀ b, blkOf (f d) = some b → W0.heap.size ≤ b ∧ b < w'.heap.size)) →
      (∀ d ∈ ds, ∀ d' ∈ ds, d ∉ E.map (·.2) → d' ∉ E.map (·.2) → O.contains d = true → O.contains d' = true → d ≠ d' → ∀ b, blkOf (f d) = some b → blkOf (f d') ≠ some b) → (∀ q ∈ St, q.2.2 (f q.2.1) w') → Below W0.heap.size W0 w' →
      wpList P l.toArray Q (l.drop n) (putR a (ds.map fun d => (d, f d))) w') : (Code.region id l.toArray true).wp P Q a w := by
  have e : l.take n ++ l.drop n = l := List.take_append_drop n l
  refine wp_region_any hm ?_
  generalize hh : l.take n = h at *
  have hEw' : ∀ q ∈ E, O.contains q.2 = true ∧ ∃ o, h[q.1]? = some o ∧ waitsFor h o q.2 = true := fun q hq => by
    have := List.all_eq_true.1 hEw q hq
    simp only [Bool.and_eq_true] at this
    refine ⟨this.1, ?_⟩
    cases ho : h[q.1]? with
    | none => simp [ho] at this
    | some o => exact ⟨o, rfl, by simpa [ho] using this.2⟩
  have hSw' : ∀ q ∈ St, O.contains q.2.1 = true ∧ q.2.1 ∉ E.map (·.2) ∧ ∃ o, h[q.1]? = some o ∧ waitsFor h o q.2.1 = true ∧ o.dst = none := fun q hq => by
    have := List.all_eq_true.1 hSw q hq
    simp only [Bool.and_eq_true, Bool.not_eq_true'] at this
    refine ⟨this.1.1, fun hm => (by have h2 := this.1.2; rw [List.contains_iff_mem.2 hm] at h2; cases h2), ?_⟩
    cases ho : h[q.1]? with
    | none => simp [ho] at this
    | some o =>
      have h3 := this.2
      simp only [ho, Bool.and_eq_true, Option.isNone_iff_eq_none] at h3
      exact ⟨o, rfl, h3⟩
  have hnt : ∀ s, s ∉ E.map (·.2) → ∀ q ∈ E, q.2 = s → False := fun s hs q hq he => hs (List.mem_map.2 ⟨q, hq, he⟩)
  have main := wpAny_inv (P := P) (l := h) (Q := headPost P (h ++ l.drop n).toArray Q (l.drop n))
    (fun listed a' w' => Fr h a a' ∧ Below W0.heap.size W0 w' ∧ (∀ d, Liv h E listed d → ∃ v, a'.tmps[d]? = some v ∧ R d v w' ∧ (O.contains d = true → ∀ b, blkOf v = some b → W0.heap.size ≤ b ∧ b < w'.heap.size)) ∧
      (∀ d d', Liv h E listed d → Liv h E listed d' → O.contains d = true → O.contains d' = true → d ≠ d' → ∀ b, (a'.tmps[d]?).bind blkOf = some b → (a'.tmps[d']?).bind blkOf ≠ some b) ∧
      ∀ q ∈ St, listed.getD q.1 false = true → Liv h E listed q.2.1 ∧ ∃ v, a'.tmps[q.2.1]? = some v ∧ q.2.2 v w') hE
    (by
      intro listed a' w' i o hls hI' ho hun hall
      obtain ⟨hF, hB, hV, hD, hSt⟩ := hI'
      have hil : i < listed.size := by rw [hls]; exact (List.getElem?_eq_some_iff.1 ho).1
      have hun' : listed.getD i false = false := by simpa [hil] using hun
      have hson : ∀ k, (listed.setIfInBounds i true).getD k false = if k = i then true else listed.getD k false := fun k => by
        by_cases hk : k = i
        · subst hk; simp [hil]
        · rw [if_neg hk, getD_set_ne false (Ne.symm hk)]
      have hlist : ∀ s, waitsFor h o s = true → ∃ (j : Nat) (o' : Oper), h[j]? = some o' ∧ listed.getD j false = true ∧ o'.dst = some s := fun s hs => by
        obtain ⟨x, hx, h1⟩ := Array.any_eq_true'.1 hs
        simp only [Bool.and_eq_true] at h1
        cases ho' : h[x.on]? with
        | none => simp [ho'] at h1
        | some o' => exact ⟨x.on, o', ho', hall x hx h1.1, by simpa [ho'] using h1.2⟩
      have hgot : GotE h E R O W0.heap.size i a' w' o := fun s hs hq => hV s ⟨hlist s hs, fun q hq' he => by
        have := List.all_eq_true.1 hq q hq'
        simp only [he, bne_self_eq_false, Bool.false_or, beq_iff_eq] at this
        rw [this]
        exact hun'⟩
      have hSe : ∀ s, (i, s) ∈ E → Liv h E listed s ∧ O.contains s = true := fun s hs => by
        obtain ⟨h1, o', h2, h3⟩ := hEw' _ hs
        rw [ho] at h2
        cases h2
        refine ⟨⟨hlist s h3, fun q hq he => ?_⟩, h1⟩
        have := apart_eq E hEn q hq (i, s) hs he
        rw [this]
        exact hun'
      have hkeep : ∀ d', Liv h E listed d' → (∀ q ∈ E, q.2 = d' → False) → Liv h E (listed.setIfInBounds i true) d' := fun d' hL hne => by
        obtain ⟨⟨j, o', h1, h2, h3⟩, h4⟩ := hL
        refine ⟨⟨j, o', h1, ?_, h3⟩, fun q hq he => (hne q hq he).elim⟩
        rw [hson j]
        split
        · rfl
        · exact h2
      rcases (by have := ownAllS_get h 0 hok i o ho; rwa [Nat.zero_add] at this : OwnOk P h a W0 R O E i o ∨ StoreOk P h a W0 R O E St i o) with ⟨d, hd, hrun⟩ | ⟨hd, s, p, hms, hrun⟩
      · obtain ⟨hwant, hwp⟩ := hrun a' w' hF hB hgot
        refine ⟨hwant, wp_false ?_ hwp⟩
        rintro a2 w2 ⟨v, row, rfl, hR, hg, hrow, hblk⟩
        have hdl : d < a'.tmps.size := by
          have := List.all_eq_true.1 hI o (List.mem_of_getElem? ho)
          rw [hd] at this
          rw [hF.size]
          simpa using this
        have hother : ∀ d', d' ≠ d → (a'.put (some d) v).tmps[d']? = a'.tmps[d']? := fun d' hne => by simp [Act.put, Array.getElem?_setIfInBounds_ne (Ne.symm hne)]
        have hself : (a'.put (some d) v).tmps[d]? = some v := by simp [Act.put, hdl]
        have hrange : ∀ s, (i, s) ∈ E → ∀ b, (a'.tmps[s]?).bind blkOf = some b → W0.heap.size ≤ b ∧ b < w'.heap.size := fun s hs b hb => by
          obtain ⟨h1, h2⟩ := hSe s hs
          obtain ⟨u, e1, _, e3⟩ := hV s h1
          rw [e1] at hb
          exact e3 h2 b hb
        have hBw : Below W0.heap.size w' w2 := grown_mono hg hB.size (fun b hb => by
          obtain ⟨s, hs, hb'⟩ := hrow b hb
          exact (hrange s hs b hb').1)
        have hold : ∀ d', Liv h E (listed.setIfInBounds i true) d' → d' ≠ d → Liv h E listed d' := fun d' hL hne => by
          obtain ⟨⟨j, o', h1, h2, h3⟩, h4⟩ := hL
          refine ⟨⟨j, o', h1, ?_, h3⟩, fun q hq he => ?_⟩
          · rw [hson j] at h2
            split at h2
            · next hji => subst hji; rw [ho] at h1; cases h1; rw [hd] at h3; exact absurd (Option.some.inj h3).symm hne
            · exact h2
          · have := h4 q hq he
            rw [hson q.1] at this
            split at this
            · cases this
            · exact this
        have hne_s : ∀ s d', (i, s) ∈ E → Liv h E (listed.setIfInBounds i true) d' → s ≠ d' := fun s d' hs hL he => by
          have := hL.2 (i, s) hs he
          rw [hson i, if_pos rfl] at this
          cases this
        refine ⟨⟨by rw [size_put]; exact hF.size, hF.defers, fun d' h' => ?_⟩, hB.trans hBw, fun d' hL => ?_, fun d1 d2 hL1 hL2 hO1 hO2 hne b hb1 hb2 => ?_, fun q hq hql => ?_⟩
        · rw [hother d' (fun e2 => h' i o ho (by rw [hd, e2]))]
          exact hF.out d' h'
        · by_cases hdd : d' = d
          · subst hdd
            refine ⟨v, hself, hR, fun hO b hb => ?_⟩
            rcases hblk hO b hb with ⟨h1, h2⟩ | ⟨s, hs, hb'⟩
            · exact ⟨Nat.le_trans hB.size h1, h2⟩
            · have := hrange s hs b hb'
              exact ⟨this.1, Nat.lt_of_lt_of_le this.2 hg.size⟩
          · have hL' := hold d' hL hdd
            obtain ⟨u, e1, e2, e3⟩ := hV d' hL'
            refine ⟨u, by rw [hother d' hdd]; exact e1, ?_, fun hO b hb => ⟨(e3 hO b hb).1, Nat.lt_of_lt_of_le (e3 hO b hb).2 hg.size⟩⟩
            cases hO : O.contains d' with
            | false => exact hst1 d' u w' w2 hO e2 hB hBw
            | true =>
              refine hst2 d' u w' w2 row hO e2 hg ?_ (fun b hb => (e3 hO b hb).2)
              cases hb : blkOf u with
              | none => exact .inl rfl
              | some b =>
                refine .inr fun hr => ?_
                obtain ⟨s, hs, hb'⟩ := hrow b hr.symm
                obtain ⟨h1, h2⟩ := hSe s hs
                exact hD s d' h1 hL' h2 hO (hne_s s d' hs hL) b hb' (by rw [e1]; exact hb)
        · by_cases h1 : d1 = d
          · subst h1
            have h2 : d2 ≠ d1 := Ne.symm hne
            have hL2' := hold d2 hL2 h2
            rw [hother d2 h2] at hb2
            rw [hself] at hb1
            rcases hblk hO1 b hb1 with ⟨h3, _⟩ | ⟨s, hs, hb'⟩
            · obtain ⟨u, e1, _, e3⟩ := hV d2 hL2'
              rw [e1] at hb2
              have := (e3 hO2 b hb2).2
              omega
            · obtain ⟨h4, h5⟩ := hSe s hs
              exact hD s d2 h4 hL2' h5 hO2 (hne_s s d2 hs hL2) b hb' hb2
          · have hL1' := hold d1 hL1 h1
            rw [hother d1 h1] at hb1
            by_cases h2 : d2 = d
            · subst h2
              rw [hself] at hb2
              rcases hblk hO2 b hb2 with ⟨h3, _⟩ | ⟨s, hs, hb'⟩
              · obtain ⟨u, e1, _, e3⟩ := hV d1 hL1'
                rw [e1] at hb1
                have := (e3 hO1 b hb1).2
                omega
              · obtain ⟨h4, h5⟩ := hSe s hs
                exact hD s d1 h4 hL1' h5 hO1 (hne_s s d1 hs hL1) b hb' hb1
            · rw [hother d2 h2] at hb2
              exact hD d1 d2 hL1' (hold d2 hL2 h2) hO1 hO2 hne b hb1 hb2
        · obtain ⟨hqO, hqE, oq, hoq, hwq, hqn⟩ := hSw' q hq
          have hqi : q.1 ≠ i := fun e2 => by
            rw [e2, ho] at hoq
            cases hoq
            rw [hd] at hqn
            cases hqn
          rw [hson, if_neg hqi] at hql
          obtain ⟨hL, u, e1, e2⟩ := hSt q hq hql
          have hqd : q.2.1 ≠ d := fun e3 => by
            obtain ⟨⟨j, o', h1, h2, h3⟩, _⟩ := hL
            have hij : i ≠ j := fun e4 => by rw [e4, h2] at hun'; cases hun'
            exact dst_ne hA ho h1 hij hd (by rw [h3, e3])
          refine ⟨hkeep _ hL (hnt _ hqE), u, by rw [hother _ hqd]; exact e1, ?_⟩
          obtain ⟨u', e1', _, e3'⟩ := hV q.2.1 hL
          rw [e1] at e1'
          cases e1'
          refine hst3 q hq u w' w2 row e2 hg ?_ (fun b hb => (e3' hqO b hb).2)
          cases hb : blkOf u with
          | none => exact .inl rfl
          | some b =>
            refine .inr fun hr => ?_
            obtain ⟨s, hs, hb'⟩ := hrow b hr.symm
            obtain ⟨h1, h2⟩ := hSe s hs
            exact hD s q.2.1 h1 hL h2 hqO (fun e5 => hqE (List.mem_map.2 ⟨(i, s), hs, e5⟩)) b hb' (by rw [e1]; exact hb)
      · obtain ⟨hsO, hsE, os, hos, hws, _⟩ := hSw' _ hms
        have hos' : os = o := by rw [ho] at hos; exact (Option.some.inj hos).symm
        subst hos'
        have hLs : Liv h E listed s := ⟨hlist s hws, fun q hq he => (hnt s hsE q hq he).elim⟩
        obtain ⟨vs, es1, es2, es3⟩ := hV s hLs
        obtain ⟨hwant, hwp⟩ := hrun a' w' hF hB hgot
        refine ⟨hwant, wp_false ?_ hwp⟩
        rintro a2 w2 ⟨rfl, hrest⟩
        obtain ⟨hR, hp, hg⟩ := hrest vs es1
        have hBw : Below W0.heap.size w' w2 := grown_mono hg hB.size (fun b hb => (es3 hsO b hb).1)
        have hold : ∀ d', Liv h E (listed.setIfInBounds i true) d' → Liv h E listed d' := fun d' hL => by
          obtain ⟨⟨j, o', h1, h2, h3⟩, h4⟩ := hL
          refine ⟨⟨j, o', h1, ?_, h3⟩, fun q hq he => ?_⟩
          · rw [hson j] at h2
            split at h2
            · next hji => subst hji; rw [ho] at h1; cases h1; rw [hd] at h3; cases h3
            · exact h2
          · have := h4 q hq he
            rw [hson q.1] at this
            split at this
            · cases this
            · exact this
        have hapart : ∀ d' u, Liv h E listed d' → O.contains d' = true → d' ≠ s → a2.tmps[d']? = some u → blkOf u = none ∨ blkOf u ≠ blkOf vs := fun d' u hL hO hne hu => by
          cases hb : blkOf u with
          | none => exact .inl rfl
          | some b => exact .inr fun hr => hD s d' hLs hL hsO hO (Ne.symm hne) b (by rw [es1]; exact hr.symm) (by rw [hu]; exact hb)
        refine ⟨hF, hB.trans hBw, fun d' hL => ?_, fun d1 d2 hL1 hL2 hO1 hO2 hne b hb1 hb2 => hD d1 d2 (hold d1 hL1) (hold d2 hL2) hO1 hO2 hne b hb1 hb2, fun q hq hql => ?_⟩
        · by_cases hdd : d' = s
          · subst hdd
            exact ⟨vs, es1, hR, fun hO b hb => ⟨(es3 hO b hb).1, Nat.lt_of_lt_of_le (es3 hO b hb).2 hg.size⟩⟩
          · have hL' := hold d' hL
            obtain ⟨u, e1, e2, e3⟩ := hV d' hL'
            refine ⟨u, e1, ?_, fun hO b hb => ⟨(e3 hO b hb).1, Nat.lt_of_lt_of_le (e3 hO b hb).2 hg.size⟩⟩
            cases hO : O.contains d' with
            | false => exact hst1 d' u w' w2 hO e2 hB hBw
            | true => exact hst2 d' u w' w2 _ hO e2 hg (hapart d' u hL' hO hdd e1) (fun b hb => (e3 hO b hb).2)
        · obtain ⟨hqO, hqE, oq, hoq, hwq, hqn⟩ := hSw' q hq
          by_cases hqi : q.1 = i
          · have := apart_gen (fun q : Nat × Nat × (Value → World → Prop) => q.1) St hSi q hq (i, s, p) hms hqi
            subst this
            exact ⟨hkeep _ hLs (hnt _ hsE), vs, es1, hp⟩
          · rw [hson, if_neg hqi] at hql
            obtain ⟨hL, u, e1, e2⟩ := hSt q hq hql
            refine ⟨hkeep _ hL (hnt _ hqE), u, e1, ?_⟩
            have hqs : q.2.1 ≠ s := fun e3 => hqi (by
              have := apart_gen (fun q : Nat × Nat × (Value → World → Prop) => q.2.1) St hSn q hq (i, s, p) hms e3
              rw [this])
            obtain ⟨u', e1', _, e3'⟩ := hV q.2.1 hL
            rw [e1] at e1'
            cases e1'
            exact hst3 q hq u w' w2 _ e2 hg (hapart q.2.1 u hL hqO hqs e1) (fun b hb => (e3' hqO b hb).2))
    (by
      intro a' w' hI'
      obtain ⟨hF, hB, hV, hD, hSt⟩ := hI'
      have hliv : ∀ d ∈ ds, d ∉ E.map (·.2) → Liv h E (Array.replicate h.length true) d := fun d hd hn => by
        rw [← hds] at hd
        obtain ⟨o, ho, hd'⟩ := List.mem_filterMap.1 hd
        obtain ⟨i, hi, he⟩ := List.getElem_of_mem ho
        exact ⟨⟨i, o, by rw [List.getElem?_eq_getElem hi, he], by simp [hi], hd'⟩, fun q hq he => absurd (List.mem_map.2 ⟨q, hq, he⟩) hn⟩
      have hsome : ∀ d ∈ ds, ∃ v, a'.tmps[d]? = some v := fun d hd => by
        rw [← hds] at hd
        obtain ⟨o, ho, hd'⟩ := List.mem_filterMap.1 hd
        have := List.all_eq_true.1 hI o ho
        rw [hd'] at this
        exact ⟨_, Array.getElem?_eq_getElem (by rw [hF.size]; simpa using this)⟩
      have hfr := hfin (fun d => (a'.tmps[d]?).getD undef) w' (fun d hd hn => by obtain ⟨v, h1, h2⟩ := hV d (hliv d hd hn); simp only [h1, Option.getD_some]; exact h2)
        (fun d hd d' hd' hn hn' hO hO' hne b hb hb' => by
          obtain ⟨v, h1, _⟩ := hV d (hliv d hd hn)
          obtain ⟨v', h1', _⟩ := hV d' (hliv d' hd' hn')
          simp only [h1, h1', Option.getD_some] at hb hb'
          exact hD d d' (hliv d hd hn) (hliv d' hd' hn') hO hO' hne b (by rw [h1]; exact hb) (by rw [h1']; exact hb'))
        (fun q hq => by
          obtain ⟨_, _, oq, hoq, _⟩ := hSw' q hq
          have hlt := (List.getElem?_eq_some_iff.1 hoq).1
          obtain ⟨_, v, h1, h2⟩ := hSt q hq (by simp [hlt])
          simp only [h1, Option.getD_some]
          exact h2) hB
      have ea : a' = putR a (ds.map fun d => (d, (a'.tmps[d]?).getD undef)) := by
        refine act_eq (Array.ext_getElem? fun d => ?_) (by rw [putR_defers]; exact hF.defers)
        by_cases hdl : d < a.tmps.size
        · rw [putR_get (fun d => (a'.tmps[d]?).getD undef) d ds a hdl]
          by_cases hd : d ∈ ds
          · rw [if_pos hd]
            obtain ⟨v, h1⟩ := hsome d hd
            simp [h1]
          · rw [if_neg hd]
            refine hF.out d fun i o ho hd' => hd ?_
            rw [← hds]
            exact List.mem_filterMap.2 ⟨o, List.mem_of_getElem? ho, hd'⟩
        · rw [Array.getElem?_eq_none (by rw [hF.size]; omega), Array.getElem?_eq_none (by rw [putR_size]; omega)]
      rw [← ea] at hfr
      show wpList P (h ++ l.drop n).toArray Q (l.drop n) a' w'
      rw [e]
      exact hfr)
    h.length (Array.replicate h.length false) a { w with drawn := w.drawn + 1 } (by simp) (by simp [open_])
    (by
      have hno : ∀ k, (Array.replicate h.length false).getD k false = true → False := fun k hk => by
        rw [Array.getD_eq_getD_getElem?, Array.getElem?_replicate] at hk
        split at hk <;> simp at hk
      exact ⟨⟨rfl, rfl, fun _ _ => rfl⟩, hw.drew, fun d hL => (by obtain ⟨⟨i, o, _, hon, _⟩, _⟩ := hL; exact (hno i hon).elim), fun d d' hL => (by obtain ⟨⟨i, o, _, hon, _⟩, _⟩ := hL; exact (hno i hon).elim), fun q _ hql => (hno q.1 hql).elim⟩)
  have h3 := lift_under (Q := Q) hE hG hT (by rw [e]; exact hS) h.length (Array.replicate h.length false) a _ (by simp) (by simp [open_]) (closed_none _) main
  rw [e] at h3
  have e1 : l.toArray.size = h.length + (l.drop n).length := by rw [← List.length_append, e]; simp
  rw [e1, show Array.replicate (h.length + (l.drop n).length) false = Array.replicate h.length false ++ Array.replicate (l.drop n).length false by simp]
  exact h3

theorem region_ownSL {P : Program} {Q : Exit → Act → World → Prop} {id : Nat} {a : Act} {w : World} (W0 : World) (n : Nat) {l : List Oper} (vals : List (Nat × Value)) (L : List (Nat × (Value → World → Prop))) (O : List Nat) (E : List (Nat × Nat)) (St : Stores) (hm : P.follows .mixedOrders = true)
    (hE : edgesIn (l.take n) = true) (hG : guardsIn (l.take n) = true) (hA : dstsApart (l.take n) 0 = true) (hI : dstsIn (l.take n) a.tmps.size = true) (hT : tailUnder (l.take n) (l.drop n) = true)
    (hS : Region.seqB .any l.toArray (l.drop n).length (l.take n).length (Array.replicate (l.take n).length true ++ Array.replicate (l.drop n).length false) = true)
    (hv : (vals.all fun p => (dstsOf (l.take n)).contains p.1) = true) (hsp : ((L.map (·.1)).all fun d => (dstsOf (l.take n)).contains d) = true) (hO : (O.all fun d => (L.map (·.1)).contains d) = true)
    (hEw : (E.all fun q => O.contains q.2 && match (l.take n)[q.1]? with | some o => waitsFor (l.take n) o q.2 | none => false) = true) (hEn : apartB (E.map (·.2)) = true)
    (hSw : (St.all fun q => O.contains q.2.1 && !((E.map (·.2)).contains q.2.1) && match (l.take n)[q.1]? with | some o => waitsFor (l.take n) o q.2.1 && o.dst.isNone | none => false) = true) (hSn : apartB (St.map (·.2.1)) = true) (hSi : apartB (St.map (·.1)) = true)
    (hst1 : ∀ q ∈ L, O.contains q.1 = false → ∀ (v : Value) (w w' : World), q.2 v w → Below W0.heap.size W0 w → Below W0.heap.size w w' → q.2 v w')
    (hst2 : ∀ q ∈ L, O.contains q.1 = true → ∀ (v : Value) (w w' : World) (row : Option Nat), q.2 v w → w.grownBy w' row → (blkOf v = none ∨ blkOf v ≠ row) → (∀ b, blkOf v = some b → b < w.heap.size) → q.2 v w')
    (hst3 : ∀ q ∈ St, ∀ (v : Value) (w w' : World) (row : Option Nat), q.2.2 v w → w.grownBy w' row → (blkOf v = none ∨ blkOf v ≠ row) → (∀ b, blkOf v = some b → b < w.heap.size) → q.2.2 v w') (hw : Below W0.heap.size W0 w)
    (hok : Full (l.take n) a (putR a vals) (specOf L) (L.map (·.1)) → OwnAllS P (l.take n) a W0 (relR (putR a vals) (specOf L)) O E St 0 (l.take n))
    (hfin : ∀ (f : Nat → Value) w', (∀ d p, specOf L d = some p → (E.map (·.2)).contains d = false → p (f d) w' ∧ (O.contains d = true → ∀ b, blkOf (f d) = some b → W0.heap.size ≤ b ∧ b < w'.heap.size)) →
      (∀ d d', O.contains d = true → O.contains d' = true → (E.map (·.2)).contains d = false → (E.map (·.2)).contains d' = false → d ≠ d' → ∀ b, blkOf (f d) = some b → blkOf (f d') ≠ some b) → (∀ q ∈ St, q.2.2 (f q.2.1) w') → Below W0.heap.size W0 w' →
      wpList P l.toArray Q (l.drop n) (putR (putR a vals) ((L.map (·.1)).map fun d => (d, f d))) w') : (Code.region id l.toArray true).wp P Q a w := by
  have hfull : Full (l.take n) a (putR a vals) (specOf L) (L.map (·.1)) := full_put vals hv (specOf_none L)
  have hOL : ∀ d, O.contains d = true → d ∈ L.map (·.1) := fun d hd => List.contains_iff_mem.1 (List.all_eq_true.1 hO d (List.contains_iff_mem.1 hd))
  have hEO : ∀ d, d ∈ E.map (·.2) → d ∈ L.map (·.1) := fun d hd => by
    obtain ⟨q, hq, rfl⟩ := List.mem_map.1 hd
    have := List.all_eq_true.1 hEw q hq
    simp only [Bool.and_eq_true] at this
    exact hOL _ this.1
  have hin : ∀ d, d ∈ L.map (·.1) → d ∈ dstsOf (l.take n) := fun d hd => List.contains_iff_mem.1 (List.all_eq_true.1 hsp d hd)
  have hnc : ∀ d, (E.map (·.2)).contains d = false → d ∉ E.map (·.2) := fun d h hm => by rw [List.contains_iff_mem.2 hm] at h; cases h
  refine region_ownS W0 n (relR (putR a vals) (specOf L)) O E St _ hm hE hG hA hI hT hS hEw hEn hSw hSn hSi rfl ?_ ?_ hst3 hw (hok hfull) ?_
  · intro d v w w' hd h1 h2 h3
    unfold relR at *
    cases hs : specOf L d with
    | none => rw [hs] at h1; exact h1
    | some p =>
      rw [hs] at h1
      obtain ⟨q, hq, rfl, rfl⟩ := specOf_mem' L d p hs
      exact hst1 q hq hd v w w' h1 h2 h3
  · intro d v w w' row hd h1 h2 h3 h4
    unfold relR at *
    cases hs : specOf L d with
    | none => rw [hs] at h1; exact h1
    | some p =>
      rw [hs] at h1
      obtain ⟨q, hq, rfl, rfl⟩ := specOf_mem' L d p hs
      exact hst2 q hq hd v w w' row h1 h2 h3 h4
  · intro f w' hf hD hSq hb
    have e : putR a ((dstsOf (l.take n)).map fun d => (d, f d)) = putR (putR a vals) ((L.map (·.1)).map fun d => (d, f d)) := by
      refine act_eq (Array.ext_getElem? fun d => ?_) (by rw [putR_defers, putR_defers, putR_defers])
      rw [putR_get', putR_get', putR_size]
      by_cases hd : d < a.tmps.size
      · rw [if_pos hd, if_pos hd]
        by_cases h1 : d ∈ dstsOf (l.take n)
        · rw [if_pos h1]
          by_cases h2 : d ∈ L.map (·.1)
          · rw [if_pos h2]
          · rw [if_neg h2]
            have := (hf d h1 (fun h3 => h2 (hEO d h3))).1
            unfold relR at this
            rw [hfull.spec d h2] at this
            exact this.symm
        · rw [if_neg h1, if_neg (fun h2 => h1 (hin d h2))]
          refine (hfull.out d fun i o ho hdo => h1 ?_).symm
          exact List.mem_filterMap.2 ⟨o, List.mem_of_getElem? ho, hdo⟩
      · rw [if_neg hd, if_neg hd]
    rw [e]
    refine hfin f w' (fun d p hp hn => ?_) (fun d d' h1 h2 h3 h4 h5 => hD d (hin d (hOL d h1)) d' (hin d' (hOL d' h2)) (hnc d h3) (hnc d' h4) h1 h2 h5) hSq hb
    by_cases hd : d ∈ L.map (·.1)
    · have := hf d (hin d hd) (hnc d hn)
      unfold relR at this
      rw [hp] at this
      exact this
    · rw [specOf_none L d hd] at hp
      cases hp

/-- A pointer to a block of its own, of so many cells. -/
def PtrSz (t : TypeId) (m : Nat) : Value → World → Prop := fun v w => ∃ g C, v = .pointer (some ⟨g, 0, none⟩) ∧ C.size = m ∧ Blk w g t C
theorem PtrSz.keeps {t : TypeId} {m : Nat} {v : Value} {w w' : World} {row : Option Nat} (h : PtrSz t m v w) (hg : w.grownBy w' row) (hne : blkOf v = none ∨ blkOf v ≠ row) : PtrSz t m v w' := by
  obtain ⟨g, C, rfl, h1, h2⟩ := h
  refine ⟨g, C, rfl, h1, ?_⟩
  rcases hne with hne | hne
  · cases hne
  · exact (hg.block g h2.lt (fun e => hne (by rw [← e]; rfl))).trans h2
section
variable {h : List Oper} {A0 A : Act} {W0 : World} {S : Nat → Option (Value → World → Prop)} {sp O : List Nat} {E : List (Nat × Nat)} {St : Stores} {i : Nat} {o : Oper}
/-- A whole block is written, behind a slot that owns it. -/
theorem ow_storeP (hA : Full h A0 A S sp) (hw : Wants h A0 A S O E W0.heap.size i o) (ty t : TypeId) (s y m : Nat) (C : Array Value) (hd : o.dst = none) (ho : o.op = .store ty (.tmp s) (.tmp y)) (hmem : (i, s, PtrAt t C) ∈ St) (hws : waitsFor h o s = true) (hEs : (E.all fun q => q.2 != s || q.1 == i) = true) (hps : S s = some (PtrSz t m)) (hwy : waitsFor h o y = true) (hsy : sp.contains y = false) (hEy : (E.all fun q => q.2 != y || q.1 == i) = true) (hy : A.tmps[y]? = some (.agg C)) (hsz : C.size = m) (hi : (Tryd.prog.info? ty).map (·.size) = some C.size) (h1 : C.all (·.oneCell') = true) : StoreOk Tryd.prog h A0 W0 (relR A S) O E St i o :=
  ⟨hd, s, _, hmem, fun a w hF hB hgot => ⟨hw a w hF hgot, by
    obtain ⟨h2, h3, _⟩ := gotE_spec hgot _ hws hEs hps
    have ey := gotE_det hA hgot hwy hsy hEy hy
    obtain ⟨g, C0, e1, e2, e3⟩ := h2
    refine wp_store_row ty (.tmp s) (.tmp y) ho g C e1 ey t C0 e3 hi (by rw [e2, hsz]) h1 ?_
    rw [hd]
    refine ⟨rfl, fun v hv => ?_⟩
    rw [h3] at hv
    cases hv
    rw [e1]
    have hb : Blk (w.setRow g C) g t C := setRow_heap _ _ _ _ _ _ e3
    exact ⟨rel_spec _ hps ⟨g, C, rfl, hsz, hb⟩, ⟨g, rfl, hb⟩, ⟨rfl, rfl, rfl, by simp, fun k _ hk => setRow_other _ _ _ _ (fun e => hk (by rw [e]; rfl))⟩⟩⟩⟩
end
end Go.Proofs.YtniogaimhkcedaaDoor.sh
/-
  Regions that draw their order, as in SHS, where slices that were there ahead of them are taken over, too.
-/
namespace Go.Proofs.YtniogaimhkcedaaDoor.sh
open Go Go.RowKit
set_option linter.unusedVariables false
set_option linter.unusedSimpArgs false

/-- What an operation meets in the slots that it waits for, or that were there, and that no other one takes over. -/
def GotG (h : List Oper) (E : List (Nat × Nat)) (G : List Nat) (R : Nat → Value → World → Prop) (O : List Nat) (B i : Nat) (a : Act) (w : World) (o : Oper) : Prop :=
  ∀ d, (waitsFor h o d = true ∨ d ∈ G) → (E.all fun q => q.2 != d || q.1 == i) = true → ∃ v, a.tmps[d]? = some v ∧ R d v w ∧ (O.contains d = true → ∀ b, blkOf v = some b → B ≤ b ∧ b < w.heap.size)
theorem GotG.toE {h : List Oper} {E : List (Nat × Nat)} {G : List Nat} {R : Nat → Value → World → Prop} {O : List Nat} {B i : Nat} {a : Act} {w : World} {o : Oper} (hg : GotG h E G R O B i a w o) : GotE h E R O B i a w o := fun d hd hE => hg d (.inl hd) hE
def OwnOkG (P : Program) (h : List Oper) (A0 : Act) (W0 : World) (R : Nat → Value → World → Prop) (O : List Nat) (E : List (Nat × Nat)) (G : List Nat) (i : Nat) (o : Oper) : Prop := ∃ d, o.dst = some d ∧ ∀ a w, Fr h A0 a → Below W0.heap.size W0 w → GotG h E G R O W0.heap.size i a w o →
  Region.wanted o (yielded h.toArray a.tmps) = true ∧ o.wp P a w (fun a' w' => ∃ v row, a' = a.put (some d) v ∧ R d v w' ∧ w.grownBy w' row ∧ (∀ b, row = some b → ∃ s, (i, s) ∈ E ∧ (a.tmps[s]?).bind blkOf = some b) ∧
    (O.contains d = true → ∀ b, blkOf v = some b → (w.heap.size ≤ b ∧ b < w'.heap.size) ∨ ∃ s, (i, s) ∈ E ∧ (a.tmps[s]?).bind blkOf = some b)) (fun _ _ _ => False)
theorem OwnOk.toG {P : Program} {h : List Oper} {A0 : Act} {W0 : World} {R : Nat → Value → World → Prop} {O : List Nat} {E : List (Nat × Nat)} {G : List Nat} {i : Nat} {o : Oper} (hk : OwnOk P h A0 W0 R O E i o) : OwnOkG P h A0 W0 R O E G i o := by
  obtain ⟨d, hd, h1⟩ := hk
  exact ⟨d, hd, fun a w hF hB hgot => h1 a w hF hB hgot.toE⟩
def OwnAllG (P : Program) (h : List Oper) (A0 : Act) (W0 : World) (R : Nat → Value → World → Prop) (O : List Nat) (E : List (Nat × Nat)) (St : Stores) (G : List Nat) : Nat → List Oper → Prop
  | _, [] => True
  | i, o :: r => (OwnOkG P h A0 W0 R O E G i o ∨ StoreOk P h A0 W0 R O E St i o) ∧ OwnAllG P h A0 W0 R O E St G (i + 1) r
theorem ownAllG_get {P : Program} {h : List Oper} {A0 : Act} {W0 : World} {R : Nat → Value → World → Prop} {O : List Nat} {E : List (Nat × Nat)} {St : Stores} {G : List Nat} : ∀ (r : List Oper) (k : Nat), OwnAllG P h A0 W0 R O E St G k r → ∀ i o, r[i]? = some o → OwnOkG P h A0 W0 R O E G (k + i) o ∨ StoreOk P h A0 W0 R O E St (k + i) o
  | [], _, _, i, o, ho => by simp at ho
  | x :: r, k, hr, 0, o, ho => by simp at ho; subst ho; exact hr.1
  | x :: r, k, hr, i + 1, o, ho => by
    have := ownAllG_get r (k + 1) hr.2 i o (by simpa using ho)
    rwa [show k + 1 + i = k + (i + 1) from by omega] at this
def LivG (h : List Oper) (E : List (Nat × Nat)) (G : List Nat) (listed : Array Bool) (d : Nat) : Prop := ((∃ (i : Nat) (o : Oper), h[i]? = some o ∧ listed.getD i false = true ∧ o.dst = some d) ∨ d ∈ G) ∧ ∀ q ∈ E, q.2 = d → listed.getD q.1 false = false

theorem specOf_some : ∀ (L : List (Nat × (Value → World → Prop))) (q : Nat × (Value → World → Prop)), q ∈ L → ∃ p, specOf L q.1 = some p
  | [], q, hq => by cases hq
  | x :: r, q, hq => by
    unfold specOf
    rw [List.lookup_cons]
    split
    · exact ⟨_, rfl⟩
    · next hne =>
      rcases List.mem_cons.1 hq with h | h
      · subst h
        simp at hne
      · exact specOf_some r q h
theorem region_ownG {P : Program} {Q : Exit → Act → World → Prop} {id : Nat} {a : Act} {w : World} (W0 : World) (n : Nat) {l : List Oper} (R : Nat → Value → World → Prop) (O : List Nat) (E : List (Nat × Nat)) (St : Stores) (G : List Nat) (ds : List Nat) (hm : P.follows .mixedOrders = true)
    (hE : edgesIn (l.take n) = true) (hG : guardsIn (l.take n) = true) (hA : dstsApart (l.take n) 0 = true) (hI : dstsIn (l.take n) a.tmps.size = true) (hT : tailUnder (l.take n) (l.drop n) = true)
    (hS : Region.seqB .any l.toArray (l.drop n).length (l.take n).length (Array.replicate (l.take n).length true ++ Array.replicate (l.drop n).length false) = true)
    (hEw : (E.all fun q => O.contains q.2 && match (l.take n)[q.1]? with | some o => waitsFor (l.take n) o q.2 || G.contains q.2 | none => false) = true) (hEn : apartB (E.map (·.2)) = true)
    (hSw : (St.all fun q => O.contains q.2.1 && !((E.map (·.2)).contains q.2.1) && match (l.take n)[q.1]? with | some o => waitsFor (l.take n) o q.2.1 && o.dst.isNone | none => false) = true) (hSn : apartB (St.map (·.2.1)) = true) (hSi : apartB (St.map (·.1)) = true)
    (hGd : (G.all fun d => (l.take n).all fun o => o.dst != some d) = true) (hGO : (G.all fun d => O.contains d) = true) (hds : dstsOf (l.take n) = ds)
    (hG1 : ∀ d ∈ G, ∃ v, a.tmps[d]? = some v ∧ R d v w ∧ ∀ b, blkOf v = some b → W0.heap.size ≤ b ∧ b < w.heap.size) (hG2 : ∀ d ∈ G, ∀ d' ∈ G, d ≠ d' → ∀ b, (a.tmps[d]?).bind blkOf = some b → (a.tmps[d']?).bind blkOf ≠ some b)
    (hst1 : ∀ d v w w', O.contains d = false → R d v w → Below W0.heap.size W0 w → Below W0.heap.size w w' → R d v w')
    (hst2 : ∀ d v w w' row, O.contains d = true → R d v w → w.grownBy w' row → (blkOf v = none ∨ blkOf v ≠ row) → (∀ b, blkOf v = some b → b < w.heap.size) → R d v w')
    (hst3 : ∀ q ∈ St, ∀ (v : Value) (w w' : World) (row : Option Nat), q.2.2 v w → w.grownBy w' row → (blkOf v = none ∨ blkOf v ≠ row) → (∀ b, blkOf v = some b → b < w.heap.size) → q.2.2 v w') (hw : Below W0.heap.size W0 w)
    (hok : OwnAllG P (l.take n) a W0 R O E St G 0 (l.take n))
    (hfin : ∀ (f : Nat → Value) w', (∀ d ∈ ds, d ∉ E.map (·.2) → R d (f d) w' ∧ (O.contains d = true → ∀ b, blkOf (f d) = some b → W0.heap.size ≤ b ∧ b < w'.heap.size)) →
      (∀ d ∈ ds, ∀ d' ∈ ds, d ∉ E.map (·.2) → d' ∉ E.map (·.2) → O.contains d = true → O.contains d' = true → d ≠ d' → ∀ b, blkOf (f d) = some b → blkOf (f d') ≠ some b) → (∀ q ∈ St, q.2.2 (f q.2.1) w') → Below W0.heap.size W0 w' →
      wpList P l.toArray Q (l.drop n) (putR a (ds.map fun d => (d, f d))) w') : (Code.region id l.toArray true).wp P Q a w := by
  have e : l.take n ++ l.drop n = l := List.take_append_drop n l
  refine wp_region_any hm ?_
  generalize hh : l.take n = h at *
  have hEw' : ∀ q ∈ E, O.contains q.2 = true ∧ ∃ o, h[q.1]? = some o ∧ (waitsFor h o q.2 = true ∨ q.2 ∈ G) := fun q hq => by
    have := List.all_eq_true.1 hEw q hq
    simp only [Bool.and_eq_true] at this
    refine ⟨this.1, ?_⟩
    cases ho : h[q.1]? with
    | none => simp [ho] at this
    | some o =>
      have h3 := this.2
      simp only [ho, Bool.or_eq_true] at h3
      exact ⟨o, rfl, h3.imp (fun h => h) List.contains_iff_mem.1⟩
  have hSw' : ∀ q ∈ St, O.contains q.2.1 = true ∧ q.2.1 ∉ E.map (·.2) ∧ ∃ o, h[q.1]? = some o ∧ waitsFor h o q.2.1 = true ∧ o.dst = none := fun q hq => by
    have := List.all_eq_true.1 hSw q hq
    simp only [Bool.and_eq_true, Bool.not_eq_true'] at this
    refine ⟨this.1.1, fun hm => (by have h2 := this.1.2; rw [List.contains_iff_mem.2 hm] at h2; cases h2), ?_⟩
    cases ho : h[q.1]? with
    | none => simp [ho] at this
    | some o =>
      have h3 := this.2
      simp only [ho, Bool.and_eq_true, Option.isNone_iff_eq_none] at h3
      exact ⟨o, rfl, h3⟩
  have hGn : ∀ d ∈ G, ∀ (i : Nat) (o : Oper), h[i]? = some o → o.dst ≠ some d := fun d hd i o ho e => by
    have := List.all_eq_true.1 (List.all_eq_true.1 hGd d hd) o (List.mem_of_getElem? ho)
    rw [e] at this
    simp at this
  have hnt : ∀ s, s ∉ E.map (·.2) → ∀ q ∈ E, q.2 = s → False := fun s hs q hq he => hs (List.mem_map.2 ⟨q, hq, he⟩)
  have main := wpAny_inv (P := P) (l := h) (Q := headPost P (h ++ l.drop n).toArray Q (l.drop n))
    (fun listed a' w' => Fr h a a' ∧ Below W0.heap.size W0 w' ∧ (∀ d, LivG h E G listed d → ∃ v, a'.tmps[d]? = some v ∧ R d v w' ∧ (O.contains d = true → ∀ b, blkOf v = some b → W0.heap.size ≤ b ∧ b < w'.heap.size)) ∧
      (∀ d d', LivG h E G listed d → LivG h E G listed d' → O.contains d = true → O.contains d' = true → d ≠ d' → ∀ b, (a'.tmps[d]?).bind blkOf = some b → (a'.tmps[d']?).bind blkOf ≠ some b) ∧
      ∀ q ∈ St, listed.getD q.1 false = true → LivG h E G listed q.2.1 ∧ ∃ v, a'.tmps[q.2.1]? = some v ∧ q.2.2 v w') hE
    (by
      intro listed a' w' i o hls hI' ho hun hall
      obtain ⟨hF, hB, hV, hD, hSt⟩ := hI'
      have hil : i < listed.size := by rw [hls]; exact (List.getElem?_eq_some_iff.1 ho).1
      have hun' : listed.getD i false = false := by simpa [hil] using hun
      have hson : ∀ k, (listed.setIfInBounds i true).getD k false = if k = i then true else listed.getD k false := fun k => by
        by_cases hk : k = i
        · subst hk; simp [hil]
        · rw [if_neg hk, getD_set_ne false (Ne.symm hk)]
      have hlist : ∀ s, waitsFor h o s = true → ∃ (j : Nat) (o' : Oper), h[j]? = some o' ∧ listed.getD j false = true ∧ o'.dst = some s := fun s hs => by
        obtain ⟨x, hx, h1⟩ := Array.any_eq_true'.1 hs
        simp only [Bool.and_eq_true] at h1
        cases ho' : h[x.on]? with
        | none => simp [ho'] at h1
        | some o' => exact ⟨x.on, o', ho', hall x hx h1.1, by simpa [ho'] using h1.2⟩
      have hgot : GotG h E G R O W0.heap.size i a' w' o := fun s hs hq => hV s ⟨hs.imp (hlist s) (fun h => h), fun q hq' he => by
        have := List.all_eq_true.1 hq q hq'
        simp only [he, bne_self_eq_false, Bool.false_or, beq_iff_eq] at this
        rw [this]
        exact hun'⟩
      have hSe : ∀ s, (i, s) ∈ E → LivG h E G listed s ∧ O.contains s = true := fun s hs => by
        obtain ⟨h1, o', h2, h3⟩ := hEw' _ hs
        rw [ho] at h2
        cases h2
        refine ⟨⟨h3.imp (hlist s) (fun h => h), fun q hq he => ?_⟩, h1⟩
        have := apart_eq E hEn q hq (i, s) hs he
        rw [this]
        exact hun'
      have hkeep : ∀ d', LivG h E G listed d' → (∀ q ∈ E, q.2 = d' → False) → LivG h E G (listed.setIfInBounds i true) d' := fun d' hL hne => by
        refine ⟨?_, fun q hq he => (hne q hq he).elim⟩
        rcases hL.1 with ⟨j, o', h1, h2, h3⟩ | hg
        · refine .inl ⟨j, o', h1, ?_, h3⟩
          rw [hson j]
          split
          · rfl
          · exact h2
        · exact .inr hg
      rcases (by have := ownAllG_get h 0 hok i o ho; rwa [Nat.zero_add] at this : OwnOkG P h a W0 R O E G i o ∨ StoreOk P h a W0 R O E St i o) with ⟨d, hd, hrun⟩ | ⟨hd, s, p, hms, hrun⟩
      · obtain ⟨hwant, hwp⟩ := hrun a' w' hF hB hgot
        refine ⟨hwant, wp_false ?_ hwp⟩
        rintro a2 w2 ⟨v, row, rfl, hR, hg, hrow, hblk⟩
        have hdl : d < a'.tmps.size := by
          have := List.all_eq_true.1 hI o (List.mem_of_getElem? ho)
          rw [hd] at this
          rw [hF.size]
          simpa using this
        have hother : ∀ d', d' ≠ d → (a'.put (some d) v).tmps[d']? = a'.tmps[d']? := fun d' hne => by simp [Act.put, Array.getElem?_setIfInBounds_ne (Ne.symm hne)]
        have hself : (a'.put (some d) v).tmps[d]? = some v := by simp [Act.put, hdl]
        have hrange : ∀ s, (i, s) ∈ E → ∀ b, (a'.tmps[s]?).bind blkOf = some b → W0.heap.size ≤ b ∧ b < w'.heap.size := fun s hs b hb => by
          obtain ⟨h1, h2⟩ := hSe s hs
          obtain ⟨u, e1, _, e3⟩ := hV s h1
          rw [e1] at hb
          exact e3 h2 b hb
        have hBw : Below W0.heap.size w' w2 := grown_mono hg hB.size (fun b hb => by
          obtain ⟨s, hs, hb'⟩ := hrow b hb
          exact (hrange s hs b hb').1)
        have hold : ∀ d', LivG h E G (listed.setIfInBounds i true) d' → d' ≠ d → LivG h E G listed d' := fun d' hL hne => by
          obtain ⟨h0, h4⟩ := hL
          refine ⟨?_, fun q hq he => ?_⟩
          · rcases h0 with ⟨j, o', h1, h2, h3⟩ | hg
            · refine .inl ⟨j, o', h1, ?_, h3⟩
              rw [hson j] at h2
              split at h2
              · next hji => subst hji; rw [ho] at h1; cases h1; rw [hd] at h3; exact absurd (Option.some.inj h3).symm hne
              · exact h2
            · exact .inr hg
          · have := h4 q hq he
            rw [hson q.1] at this
            split at this
            · cases this
            · exact this
        have hne_s : ∀ s d', (i, s) ∈ E → LivG h E G (listed.setIfInBounds i true) d' → s ≠ d' := fun s d' hs hL he => by
          have := hL.2 (i, s) hs he
          rw [hson i, if_pos rfl] at this
          cases this
        refine ⟨⟨by rw [size_put]; exact hF.size, hF.defers, fun d' h' => ?_⟩, hB.trans hBw, fun d' hL => ?_, fun d1 d2 hL1 hL2 hO1 hO2 hne b hb1 hb2 => ?_, fun q hq hql => ?_⟩
        · rw [hother d' (fun e2 => h' i o ho (by rw [hd, e2]))]
          exact hF.out d' h'
        · by_cases hdd : d' = d
          · subst hdd
            refine ⟨v, hself, hR, fun hO b hb => ?_⟩
            rcases hblk hO b hb with ⟨h1, h2⟩ | ⟨s, hs, hb'⟩
            · exact ⟨Nat.le_trans hB.size h1, h2⟩
            · have := hrange s hs b hb'
              exact ⟨this.1, Nat.lt_of_lt_of_le this.2 hg.size⟩
          · have hL' := hold d' hL hdd
            obtain ⟨u, e1, e2, e3⟩ := hV d' hL'
            refine ⟨u, by rw [hother d' hdd]; exact e1, ?_, fun hO b hb => ⟨(e3 hO b hb).1, Nat.lt_of_lt_of_le (e3 hO b hb).2 hg.size⟩⟩
            cases hO : O.contains d' with
            | false => exact hst1 d' u w' w2 hO e2 hB hBw
            | true =>
              refine hst2 d' u w' w2 row hO e2 hg ?_ (fun b hb => (e3 hO b hb).2)
              cases hb : blkOf u with
              | none => exact .inl rfl
              | some b =>
                refine .inr fun hr => ?_
                obtain ⟨s, hs, hb'⟩ := hrow b hr.symm
                obtain ⟨h1, h2⟩ := hSe s hs
                exact hD s d' h1 hL' h2 hO (hne_s s d' hs hL) b hb' (by rw [e1]; exact hb)
        · by_cases h1 : d1 = d
          · subst h1
            have h2 : d2 ≠ d1 := Ne.symm hne
            have hL2' := hold d2 hL2 h2
            rw [hother d2 h2] at hb2
            rw [hself] at hb1
            rcases hblk hO1 b hb1 with ⟨h3, _⟩ | ⟨s, hs, hb'⟩
            · obtain ⟨u, e1, _, e3⟩ := hV d2 hL2'
              rw [e1] at hb2
              have := (e3 hO2 b hb2).2
              omega
            · obtain ⟨h4, h5⟩ := hSe s hs
              exact hD s d2 h4 hL2' h5 hO2 (hne_s s d2 hs hL2) b hb' hb2
          · have hL1' := hold d1 hL1 h1
            rw [hother d1 h1] at hb1
            by_cases h2 : d2 = d
            · subst h2
              rw [hself] at hb2
              rcases hblk hO2 b hb2 with ⟨h3, _⟩ | ⟨s, hs, hb'⟩
              · obtain ⟨u, e1, _, e3⟩ := hV d1 hL1'
                rw [e1] at hb1
                have := (e3 hO1 b hb1).2
                omega
              · obtain ⟨h4, h5⟩ := hSe s hs
                exact hD s d1 h4 hL1' h5 hO1 (hne_s s d1 hs hL1) b hb' hb1
            · rw [hother d2 h2] at hb2
              exact hD d1 d2 hL1' (hold d2 hL2 h2) hO1 hO2 hne b hb1 hb2
        · obtain ⟨hqO, hqE, oq, hoq, hwq, hqn⟩ := hSw' q hq
          have hqi : q.1 ≠ i := fun e2 => by
            rw [e2, ho] at hoq
            cases hoq
            rw [hd] at hqn
            cases hqn
          rw [hson, if_neg hqi] at hql
          obtain ⟨hL, u, e1, e2⟩ := hSt q hq hql
          have hqd : q.2.1 ≠ d := fun e3 => by
            rcases hL.1 with ⟨j, o', h1, h2, h3⟩ | hg
            · have hij : i ≠ j := fun e4 => by rw [e4, h2] at hun'; cases hun'
              exact dst_ne hA ho h1 hij hd (by rw [h3, e3])
            · exact hGn q.2.1 hg i o ho (by rw [hd, e3])
          refine ⟨hkeep _ hL (hnt _ hqE), u, by rw [hother _ hqd]; exact e1, ?_⟩
          obtain ⟨u', e1', _, e3'⟩ := hV q.2.1 hL
          rw [e1] at e1'
          cases e1'
          refine hst3 q hq u w' w2 row e2 hg ?_ (fun b hb => (e3' hqO b hb).2)
          cases hb : blkOf u with
          | none => exact .inl rfl
          | some b =>
            refine .inr fun hr => ?_
            obtain ⟨s, hs, hb'⟩ := hrow b hr.symm
            obtain ⟨h1, h2⟩ := hSe s hs
            exact hD s q.2.1 h1 hL h2 hqO (fun e5 => hqE (List.mem_map.2 ⟨(i, s), hs, e5⟩)) b hb' (by rw [e1]; exact hb)
      · obtain ⟨hsO, hsE, os, hos, hws, _⟩ := hSw' _ hms
        have hos' : os = o := by rw [ho] at hos; exact (Option.some.inj hos).symm
        subst hos'
        have hLs : LivG h E G listed s := ⟨.inl (hlist s hws), fun q hq he => (hnt s hsE q hq he).elim⟩
        obtain ⟨vs, es1, es2, es3⟩ := hV s hLs
        obtain ⟨hwant, hwp⟩ := hrun a' w' hF hB hgot.toE
        refine ⟨hwant, wp_false ?_ hwp⟩
        rintro a2 w2 ⟨rfl, hrest⟩
        obtain ⟨hR, hp, hg⟩ := hrest vs es1
        have hBw : Below W0.heap.size w' w2 := grown_mono hg hB.size (fun b hb => (es3 hsO b hb).1)
        have hold : ∀ d', LivG h E G (listed.setIfInBounds i true) d' → LivG h E G listed d' := fun d' hL => by
          obtain ⟨h0, h4⟩ := hL
          refine ⟨?_, fun q hq he => ?_⟩
          · rcases h0 with ⟨j, o', h1, h2, h3⟩ | hg
            · refine .inl ⟨j, o', h1, ?_, h3⟩
              rw [hson j] at h2
              split at h2
              · next hji => subst hji; rw [ho] at h1; cases h1; rw [hd] at h3; cases h3
              · exact h2
            · exact .inr hg
          · have := h4 q hq he
            rw [hson q.1] at this
            split at this
            · cases this
            · exact this
        have hapart : ∀ d' u, LivG h E G listed d' → O.contains d' = true → d' ≠ s → a2.tmps[d']? = some u → blkOf u = none ∨ blkOf u ≠ blkOf vs := fun d' u hL hO hne hu => by
          cases hb : blkOf u with
          | none => exact .inl rfl
          | some b => exact .inr fun hr => hD s d' hLs hL hsO hO (Ne.symm hne) b (by rw [es1]; exact hr.symm) (by rw [hu]; exact hb)
        refine ⟨hF, hB.trans hBw, fun d' hL => ?_, fun d1 d2 hL1 hL2 hO1 hO2 hne b hb1 hb2 => hD d1 d2 (hold d1 hL1) (hold d2 hL2) hO1 hO2 hne b hb1 hb2, fun q hq hql => ?_⟩
        · by_cases hdd : d' = s
          · subst hdd
            exact ⟨vs, es1, hR, fun hO b hb => ⟨(es3 hO b hb).1, Nat.lt_of_lt_of_le (es3 hO b hb).2 hg.size⟩⟩
          · have hL' := hold d' hL
            obtain ⟨u, e1, e2, e3⟩ := hV d' hL'
            refine ⟨u, e1, ?_, fun hO b hb => ⟨(e3 hO b hb).1, Nat.lt_of_lt_of_le (e3 hO b hb).2 hg.size⟩⟩
            cases hO : O.contains d' with
            | false => exact hst1 d' u w' w2 hO e2 hB hBw
            | true => exact hst2 d' u w' w2 _ hO e2 hg (hapart d' u hL' hO hdd e1) (fun b hb => (e3 hO b hb).2)
        · obtain ⟨hqO, hqE, oq, hoq, hwq, hqn⟩ := hSw' q hq
          by_cases hqi : q.1 = i
          · have := apart_gen (fun q : Nat × Nat × (Value → World → Prop) => q.1) St hSi q hq (i, s, p) hms hqi
            subst this
            exact ⟨hkeep _ hLs (hnt _ hsE), vs, es1, hp⟩
          · rw [hson, if_neg hqi] at hql
            obtain ⟨hL, u, e1, e2⟩ := hSt q hq hql
            refine ⟨hkeep _ hL (hnt _ hqE), u, e1, ?_⟩
            have hqs : q.2.1 ≠ s := fun e3 => hqi (by
              have := apart_gen (fun q : Nat × Nat × (Value → World → Prop) => q.2.1) St hSn q hq (i, s, p) hms e3
              rw [this])
            obtain ⟨u', e1', _, e3'⟩ := hV q.2.1 hL
            rw [e1] at e1'
            cases e1'
            exact hst3 q hq u w' w2 _ e2 hg (hapart q.2.1 u hL hqO hqs e1) (fun b hb => (e3' hqO b hb).2))
    (by
      intro a' w' hI'
      obtain ⟨hF, hB, hV, hD, hSt⟩ := hI'
      have hliv : ∀ d ∈ ds, d ∉ E.map (·.2) → LivG h E G (Array.replicate h.length true) d := fun d hd hn => by
        rw [← hds] at hd
        obtain ⟨o, ho, hd'⟩ := List.mem_filterMap.1 hd
        obtain ⟨i, hi, he⟩ := List.getElem_of_mem ho
        exact ⟨.inl ⟨i, o, by rw [List.getElem?_eq_getElem hi, he], by simp [hi], hd'⟩, fun q hq he => absurd (List.mem_map.2 ⟨q, hq, he⟩) hn⟩
      have hsome : ∀ d ∈ ds, ∃ v, a'.tmps[d]? = some v := fun d hd => by
        rw [← hds] at hd
        obtain ⟨o, ho, hd'⟩ := List.mem_filterMap.1 hd
        have := List.all_eq_true.1 hI o ho
        rw [hd'] at this
        exact ⟨_, Array.getElem?_eq_getElem (by rw [hF.size]; simpa using this)⟩
      have hfr := hfin (fun d => (a'.tmps[d]?).getD undef) w' (fun d hd hn => by obtain ⟨v, h1, h2⟩ := hV d (hliv d hd hn); simp only [h1, Option.getD_some]; exact h2)
        (fun d hd d' hd' hn hn' hO hO' hne b hb hb' => by
          obtain ⟨v, h1, _⟩ := hV d (hliv d hd hn)
          obtain ⟨v', h1', _⟩ := hV d' (hliv d' hd' hn')
          simp only [h1, h1', Option.getD_some] at hb hb'
          exact hD d d' (hliv d hd hn) (hliv d' hd' hn') hO hO' hne b (by rw [h1]; exact hb) (by rw [h1']; exact hb'))
        (fun q hq => by
          obtain ⟨_, _, oq, hoq, _⟩ := hSw' q hq
          have hlt := (List.getElem?_eq_some_iff.1 hoq).1
          obtain ⟨_, v, h1, h2⟩ := hSt q hq (by simp [hlt])
          simp only [h1, Option.getD_some]
          exact h2) hB
      have ea : a' = putR a (ds.map fun d => (d, (a'.tmps[d]?).getD undef)) := by
        refine act_eq (Array.ext_getElem? fun d => ?_) (by rw [putR_defers]; exact hF.defers)
        by_cases hdl : d < a.tmps.size
        · rw [putR_get (fun d => (a'.tmps[d]?).getD undef) d ds a hdl]
          by_cases hd : d ∈ ds
          · rw [if_pos hd]
            obtain ⟨v, h1⟩ := hsome d hd
            simp [h1]
          · rw [if_neg hd]
            refine hF.out d fun i o ho hd' => hd ?_
            rw [← hds]
            exact List.mem_filterMap.2 ⟨o, List.mem_of_getElem? ho, hd'⟩
        · rw [Array.getElem?_eq_none (by rw [hF.size]; omega), Array.getElem?_eq_none (by rw [putR_size]; omega)]
      rw [← ea] at hfr
      show wpList P (h ++ l.drop n).toArray Q (l.drop n) a' w'
      rw [e]
      exact hfr)
    h.length (Array.replicate h.length false) a { w with drawn := w.drawn + 1 } (by simp) (by simp [open_])
    (by
      have hno : ∀ k, (Array.replicate h.length false).getD k false = true → False := fun k hk => by
        rw [Array.getD_eq_getD_getElem?, Array.getElem?_replicate] at hk
        split at hk <;> simp at hk
      have hgv : ∀ d, LivG h E G (Array.replicate h.length false) d → d ∈ G := fun d hL => by
        rcases hL.1 with ⟨i, o, _, hon, _⟩ | hg
        · exact (hno i hon).elim
        · exact hg
      have hgr : w.grownBy { w with drawn := w.drawn + 1 } none := ⟨rfl, rfl, rfl, Nat.le_refl _, fun _ _ _ => rfl⟩
      refine ⟨⟨rfl, rfl, fun _ _ => rfl⟩, hw.drew, fun d hL => ?_, fun d d' hL hL' _ _ hne => hG2 d (hgv d hL) d' (hgv d' hL') hne, fun q _ hql => (hno q.1 hql).elim⟩
      obtain ⟨v, h1, h2, h3⟩ := hG1 d (hgv d hL)
      have hO : O.contains d = true := List.all_eq_true.1 hGO d (hgv d hL)
      refine ⟨v, h1, hst2 d v w _ none hO h2 hgr ?_ (fun b hb => (h3 b hb).2), fun _ => h3⟩
      cases blkOf v with
      | none => exact .inl rfl
      | some b => exact .inr (by simp))
  have h3 := lift_under (Q := Q) hE hG hT (by rw [e]; exact hS) h.length (Array.replicate h.length false) a _ (by simp) (by simp [open_]) (closed_none _) main
  rw [e] at h3
  have e1 : l.toArray.size = h.length + (l.drop n).length := by rw [← List.length_append, e]; simp
  rw [e1, show Array.replicate (h.length + (l.drop n).length) false = Array.replicate h.length false ++ Array.replicate (l.drop n).length false by simp]
  exact h3

theorem region_ownGL {P : Program} {Q : Exit → Act → World → Prop} {id : Nat} {a : Act} {w : World} (W0 : World) (n : Nat) {l : List Oper} (vals : List (Nat × Value)) (L : List (Nat × (Value → World → Prop))) (O : List Nat) (E : List (Nat × Nat)) (St : Stores) (LG : List (Nat × (Value → World → Prop))) (hm : P.follows .mixedOrders = true)
    (hE : edgesIn (l.take n) = true) (hG : guardsIn (l.take n) = true) (hA : dstsApart (l.take n) 0 = true) (hI : dstsIn (l.take n) a.tmps.size = true) (hT : tailUnder (l.take n) (l.drop n) = true)
    (hS : Region.seqB .any l.toArray (l.drop n).length (l.take n).length (Array.replicate (l.take n).length true ++ Array.replicate (l.drop n).length false) = true)
    (hv : (vals.all fun p => (dstsOf (l.take n)).contains p.1) = true) (hsp : ((L.map (·.1)).all fun d => (dstsOf (l.take n)).contains d) = true) (hO : (O.all fun d => (L.map (·.1)).contains d || (LG.map (·.1)).contains d) = true)
    (hEw : (E.all fun q => O.contains q.2 && match (l.take n)[q.1]? with | some o => waitsFor (l.take n) o q.2 || (LG.map (·.1)).contains q.2 | none => false) = true) (hEn : apartB (E.map (·.2)) = true)
    (hSw : (St.all fun q => O.contains q.2.1 && !((E.map (·.2)).contains q.2.1) && match (l.take n)[q.1]? with | some o => waitsFor (l.take n) o q.2.1 && o.dst.isNone | none => false) = true) (hSn : apartB (St.map (·.2.1)) = true) (hSi : apartB (St.map (·.1)) = true)
    (hGd : ((LG.map (·.1)).all fun d => (l.take n).all fun o => o.dst != some d) = true) (hGO : ((LG.map (·.1)).all fun d => O.contains d) = true)
    (hG1 : ∀ q ∈ LG, ∃ v, a.tmps[q.1]? = some v ∧ q.2 v w ∧ ∀ b, blkOf v = some b → W0.heap.size ≤ b ∧ b < w.heap.size) (hG2 : ∀ d ∈ LG.map (·.1), ∀ d' ∈ LG.map (·.1), d ≠ d' → ∀ b, (a.tmps[d]?).bind blkOf = some b → (a.tmps[d']?).bind blkOf ≠ some b) (hGu : apartB ((L ++ LG).map (·.1)) = true)
    (hst1 : ∀ q ∈ L ++ LG, O.contains q.1 = false → ∀ (v : Value) (w w' : World), q.2 v w → Below W0.heap.size W0 w → Below W0.heap.size w w' → q.2 v w')
    (hst2 : ∀ q ∈ L ++ LG, O.contains q.1 = true → ∀ (v : Value) (w w' : World) (row : Option Nat), q.2 v w → w.grownBy w' row → (blkOf v = none ∨ blkOf v ≠ row) → (∀ b, blkOf v = some b → b < w.heap.size) → q.2 v w')
    (hst3 : ∀ q ∈ St, ∀ (v : Value) (w w' : World) (row : Option Nat), q.2.2 v w → w.grownBy w' row → (blkOf v = none ∨ blkOf v ≠ row) → (∀ b, blkOf v = some b → b < w.heap.size) → q.2.2 v w') (hw : Below W0.heap.size W0 w)
    (hok : Full (l.take n) a (putR a vals) (specOf (L ++ LG)) ((L ++ LG).map (·.1)) → OwnAllG P (l.take n) a W0 (relR (putR a vals) (specOf (L ++ LG))) O E St (LG.map (·.1)) 0 (l.take n))
    (hfin : ∀ (f : Nat → Value) w', (∀ d p, specOf L d = some p → (E.map (·.2)).contains d = false → p (f d) w' ∧ (O.contains d = true → ∀ b, blkOf (f d) = some b → W0.heap.size ≤ b ∧ b < w'.heap.size)) →
      (∀ d d', d ∈ dstsOf (l.take n) → d' ∈ dstsOf (l.take n) → O.contains d = true → O.contains d' = true → (E.map (·.2)).contains d = false → (E.map (·.2)).contains d' = false → d ≠ d' → ∀ b, blkOf (f d) = some b → blkOf (f d') ≠ some b) → (∀ q ∈ St, q.2.2 (f q.2.1) w') → Below W0.heap.size W0 w' →
      wpList P l.toArray Q (l.drop n) (putR (putR a vals) ((L.map (·.1)).map fun d => (d, f d))) w') : (Code.region id l.toArray true).wp P Q a w := by
  have hfull : Full (l.take n) a (putR a vals) (specOf (L ++ LG)) ((L ++ LG).map (·.1)) := full_put vals hv (specOf_none (L ++ LG))
  have hOL : ∀ d, O.contains d = true → d ∈ (L ++ LG).map (·.1) := fun d hd => by
    have := List.all_eq_true.1 hO d (List.contains_iff_mem.1 hd)
    simp only [Bool.or_eq_true, List.contains_iff_mem] at this
    rw [List.map_append]
    exact List.mem_append.2 this
  have hGn : ∀ d ∈ LG.map (·.1), d ∉ dstsOf (l.take n) := fun d hd hm' => by
    obtain ⟨o, ho, hdo⟩ := List.mem_filterMap.1 hm'
    have := List.all_eq_true.1 (List.all_eq_true.1 hGd d hd) o ho
    rw [hdo] at this
    simp at this
  have hEO : ∀ d, d ∈ E.map (·.2) → d ∈ dstsOf (l.take n) → d ∈ L.map (·.1) := fun d hd hdd => by
    obtain ⟨q, hq, rfl⟩ := List.mem_map.1 hd
    have := List.all_eq_true.1 hEw q hq
    simp only [Bool.and_eq_true] at this
    have h2 := hOL _ this.1
    rw [List.map_append] at h2
    rcases List.mem_append.1 h2 with h3 | h3
    · exact h3
    · exact absurd hdd (hGn _ h3)
  have hin : ∀ d, d ∈ L.map (·.1) → d ∈ dstsOf (l.take n) := fun d hd => List.contains_iff_mem.1 (List.all_eq_true.1 hsp d hd)
  have hnc : ∀ d, (E.map (·.2)).contains d = false → d ∉ E.map (·.2) := fun d h hm => by rw [List.contains_iff_mem.2 hm] at h; cases h
  have hsL : ∀ d p, specOf L d = some p → specOf (L ++ LG) d = some p := fun d p h => by
    unfold specOf at *
    rw [List.lookup_append, h]
    rfl
  refine region_ownG W0 n (relR (putR a vals) (specOf (L ++ LG))) O E St (LG.map (·.1)) _ hm hE hG hA hI hT hS hEw hEn hSw hSn hSi hGd hGO rfl ?_ hG2 ?_ ?_ hst3 hw (hok hfull) ?_
  · intro d hd
    obtain ⟨q, hq, rfl⟩ := List.mem_map.1 hd
    obtain ⟨v, h1, h2, h3⟩ := hG1 q hq
    refine ⟨v, h1, ?_, h3⟩
    unfold relR
    cases hs : specOf (L ++ LG) q.1 with
    | none =>
      obtain ⟨p, hp⟩ := specOf_some (L ++ LG) q (List.mem_append.2 (.inr hq))
      rw [hs] at hp
      cases hp
    | some p =>
      obtain ⟨q', hq', e1, rfl⟩ := specOf_mem' (L ++ LG) q.1 p hs
      have := apart_gen (fun q : Nat × (Value → World → Prop) => q.1) (L ++ LG) hGu q' hq' q (List.mem_append.2 (.inr hq)) e1
      rw [this]
      exact h2
  · intro d v w w' hd h1 h2 h3
    unfold relR at *
    cases hs : specOf (L ++ LG) d with
    | none => rw [hs] at h1; exact h1
    | some p =>
      rw [hs] at h1
      obtain ⟨q, hq, rfl, rfl⟩ := specOf_mem' (L ++ LG) d p hs
      exact hst1 q hq hd v w w' h1 h2 h3
  · intro d v w w' row hd h1 h2 h3 h4
    unfold relR at *
    cases hs : specOf (L ++ LG) d with
    | none => rw [hs] at h1; exact h1
    | some p =>
      rw [hs] at h1
      obtain ⟨q, hq, rfl, rfl⟩ := specOf_mem' (L ++ LG) d p hs
      exact hst2 q hq hd v w w' row h1 h2 h3 h4
  · intro f w' hf hD hSq hb
    have hnone : ∀ d, d ∈ dstsOf (l.take n) → d ∉ L.map (·.1) → d ∉ (L ++ LG).map (·.1) := fun d h1 h2 h3 => by
      rw [List.map_append] at h3
      rcases List.mem_append.1 h3 with h4 | h4
      · exact h2 h4
      · exact hGn d h4 h1
    have e : putR a ((dstsOf (l.take n)).map fun d => (d, f d)) = putR (putR a vals) ((L.map (·.1)).map fun d => (d, f d)) := by
      refine act_eq (Array.ext_getElem? fun d => ?_) (by rw [putR_defers, putR_defers, putR_defers])
      rw [putR_get', putR_get', putR_size]
      by_cases hd : d < a.tmps.size
      · rw [if_pos hd, if_pos hd]
        by_cases h1 : d ∈ dstsOf (l.take n)
        · rw [if_pos h1]
          by_cases h2 : d ∈ L.map (·.1)
          · rw [if_pos h2]
          · rw [if_neg h2]
            have := (hf d h1 (fun h3 => h2 (hEO d h3 h1))).1
            unfold relR at this
            rw [hfull.spec d (hnone d h1 h2)] at this
            exact this.symm
        · rw [if_neg h1, if_neg (fun h2 => h1 (hin d h2))]
          refine (hfull.out d fun i o ho hdo => h1 ?_).symm
          exact List.mem_filterMap.2 ⟨o, List.mem_of_getElem? ho, hdo⟩
      · rw [if_neg hd, if_neg hd]
    rw [e]
    have hd2 : ∀ d p, specOf L d = some p → d ∈ dstsOf (l.take n) := fun d p hp => by
      by_cases hd : d ∈ L.map (·.1)
      · exact hin d hd
      · rw [specOf_none L d hd] at hp
        cases hp
    refine hfin f w' (fun d p hp hn => ?_) (fun d d' h1 h2 h3 h4 h5 h6 h7 => hD d h1 d' h2 (hnc d h5) (hnc d' h6) h3 h4 h7) hSq hb
    have := hf d (hd2 d p hp) (hnc d hn)
    unfold relR at this
    rw [hsL d p hp] at this
    exact this

section
variable {P : Program} {h : List Oper} {A0 A : Act} {W0 : World} {S : Nat → Option (Value → World → Prop)} {O : List Nat} {E : List (Nat × Nat)} {G : List Nat} {i : Nat} {o : Oper}
/-- A slot that was there ahead is taken over as it is. -/
theorem og_take (hg : o.guard = none) (d s : Nat) (hd : o.dst = some d) (ho : o.op = .move (.tmp s)) (p : Value → World → Prop) (hp : S d = some p) (hps : S s = some p) (hG : s ∈ G) (hE : (E.all fun q => q.2 != s || q.1 == i) = true) (hm : (i, s) ∈ E) : OwnOkG P h A0 W0 (relR A S) O E G i o :=
  ⟨d, hd, fun a w hF hB hgot => by
    obtain ⟨u, e1, e2, e3⟩ := hgot s (.inr hG) hE
    unfold relR at e2
    rw [hps] at e2
    have ev : a.eval (.tmp s) = u := by simp [Act.eval, e1]
    refine ⟨by simp [Region.wanted, hg], ?_⟩
    unfold Oper.wp execOp
    simp only [ho, ev]
    simp only [Sem.run_pure, Oper.upon]
    rw [hd]
    exact ⟨u, none, rfl, rel_spec p hp e2, grown_none (Below.refl _ _), fun b hb => (by cases hb), fun _ b hb => .inr ⟨s, hm, by rw [e1]; exact hb⟩⟩⟩
end
end Go.Proofs.YtniogaimhkcedaaDoor.sh
/-
  A key filled up to 64 bytes, and changed by a byte: as lists, and package mac's two calls.
-/
namespace Go.Proofs.YtniogaimhkcedaaDoor.sh
open Go Go.RowKit
set_option linter.unusedVariables false
set_option linter.unusedSimpArgs false

/-- A key's 64 bytes. -/
def padL (k : List Nat) : List Nat := if 64 < k.length then sumL k ++ List.replicate 32 0 else k ++ List.replicate (64 - k.length) 0
theorem padL_len (k : List Nat) : (padL k).length = 64 := by
  unfold padL
  split
  · rw [List.length_append, sumL_len, List.length_replicate]
  · rw [List.length_append, List.length_replicate]; omega
theorem padL_bytes {k : List Nat} (h : Bytes k) : Bytes (padL k) := by
  unfold padL
  split
  · exact (sumL_bytes k).append (bytes_zero _)
  · exact h.append (bytes_zero _)
def xorL (b : Nat) (l : List Nat) : List Nat := l.map (· ^^^ b)
theorem xorL_len (b : Nat) (l : List Nat) : (xorL b l).length = l.length := by simp [xorL]
theorem xor_lt8 {m n : Nat} (h : m < 256) (h' : n < 256) : m ^^^ n < 256 := Nat.xor_lt_two_pow (n := 8) h h'
theorem xorL_bytes {b : Nat} {l : List Nat} (h : Bytes l) (hb : b < 256) : Bytes (xorL b l) := fun i x hx => by
  unfold xorL at hx
  rw [List.getElem?_map] at hx
  obtain ⟨y, hy, rfl⟩ := Option.map_eq_some_iff.1 hx
  exact xor_lt8 (h i y hy) hb
/-- HMAC of a key and bytes. -/
def macL (k b : List Nat) : List Nat := sumL (xorL 92 (padL k) ++ sumL (xorL 54 (padL k) ++ b))
theorem macL_len (k b : List Nat) : (macL k b).length = 32 := sumL_len _
theorem macL_bytes (k b : List Nat) : Bytes (macL k b) := sumL_bytes _
theorem splice_pad (cs : List Nat) (h : cs.length ≤ 64) : splice (List.replicate 64 0) 0 cs = cs ++ List.replicate (64 - cs.length) 0 := by
  unfold splice
  rw [List.take_zero, List.nil_append, List.drop_replicate, Nat.zero_add]
theorem arr_bytes {w : World} {g n : Nat} {t : TypeId} {l : List Nat} (h : Blk w g t (ints .u8 l)) (hn : l.length = n) : BytesV (.slice (some ⟨g, 0, none⟩) n n) w l := by
  subst hn
  exact bytesV_slice (t := t) ⟨g, rfl, h⟩ (Nat.le_refl _)
theorem arr_all_run {o : Oper} {a : Act} {x : Operand} {g off n : Nat} {t e : TypeId} (ho : o.op = .slice t x none none none) (hx : a.eval x = .pointer (some ⟨g, off, none⟩)) (ht : Tryd.prog.underlying t = some (.array n e)) (sz : ∀ w, (sizeOf e).run Tryd.prog w = .ok 1 w) (hn : 0 < n) (w : World) :
    (execOp a.eval o).run Tryd.prog w = .ok (.value (.slice (some ⟨g, off, none⟩) n n)) w := by
  unfold execOp
  simp only [ho, hx, Option.map_none, Instr.sliceAt, Instr.slice, Instr.sliceBounds, Sem.run_bind, run_underlying ht, Result.andThen_ok]
  simp [Instr.sliceBound, asIntOf, sz, go_sem]
  try omega

end Go.Proofs.YtniogaimhkcedaaDoor.sh
/-
  A key's bytes changed, its digest; the key as it is used.
-/
namespace Go.Proofs.YtniogaimhkcedaaDoor.sh
open Go Go.RowKit
set_option linter.unusedVariables false
set_option linter.unusedSimpArgs false

/-- The first i bytes changed. -/
def xTo (b : Nat) (P : List Nat) (i : Nat) : List Nat := xorL b (P.take i) ++ P.drop i
theorem xTo_len (b : Nat) (P : List Nat) (i : Nat) : (xTo b P i).length = P.length := by
  unfold xTo
  rw [List.length_append, xorL_len, List.length_take, List.length_drop]
  omega
theorem xTo_zero (b : Nat) (P : List Nat) : xTo b P 0 = P := by simp [xTo, xorL]
theorem xTo_all (b : Nat) (P : List Nat) (i : Nat) (h : P.length ≤ i) : xTo b P i = xorL b P := by
  unfold xTo
  rw [List.take_of_length_le h, List.drop_of_length_le h, List.append_nil]
theorem xTo_get (b : Nat) (P : List Nat) (i : Nat) : (xTo b P i)[i]? = P[i]? := by
  unfold xTo
  by_cases h : i < P.length
  · rw [List.getElem?_append_right (by rw [xorL_len, List.length_take]; omega), xorL_len, List.length_take, List.getElem?_drop]
    congr 1
    omega
  · rw [List.getElem?_eq_none (by rw [List.length_append, xorL_len, List.length_take, List.length_drop]; omega), List.getElem?_eq_none (by omega)]
theorem xTo_succ (b : Nat) (P : List Nat) (i x : Nat) (h : P[i]? = some x) : (xTo b P i).set i (x ^^^ b) = xTo b P (i + 1) := by
  have hi : i < P.length := (List.getElem?_eq_some_iff.1 h).1
  unfold xTo
  have e : P.drop i = x :: P.drop (i + 1) := by rw [List.drop_eq_getElem_cons hi, (List.getElem?_eq_some_iff.1 h).2]
  rw [List.set_append_right _ _ (by rw [xorL_len, List.length_take]; omega), xorL_len, List.length_take, Nat.min_eq_left (by omega), Nat.sub_self, e, List.set_cons_zero, List.take_add_one, h]
  simp [xorL]
theorem run_xorV {o : Oper} {a : Act} {x y : Operand} {m n z : Nat} (ho : o.op = .binOp .xor 5 x y 5) (hx : a.eval x = .int .u8 (m : Int)) (hy : a.eval y = .int .u8 (n : Int)) (hm : m < 256) (hn : n < 256) (hz : z = m ^^^ n) (w : World) : (execOp a.eval o).run Tryd.prog w = .ok (.value (.int .u8 (z : Int))) w := by
  have h := u8_xor_nat m n hm hn
  unfold execOp
  simp only [ho, hx, hy]
  simp [go_sem, hz]
  exact h
end Go.Proofs.YtniogaimhkcedaaDoor.sh
/-
  The key as it is used: two digests.
-/
namespace Go.Proofs.YtniogaimhkcedaaDoor.sh
open Go Go.RowKit
set_option linter.unusedVariables false
set_option linter.unusedSimpArgs false

theorem foldl_zip : ∀ (l : List Value) (k o : Nat) (cs : Array Value), (l.zipIdx k).foldl (fun (cs : Array Value) (x : Value × Nat) => cs.setIfInBounds (o + x.2) x.1) cs = setRange cs (o + k) l
  | [], k, o, cs => by simp [setRange]
  | v :: r, k, o, cs => by
    rw [List.zipIdx_cons, List.foldl_cons, foldl_zip r (k + 1) o]
    rfl
theorem fold_zipA (A cs : Array Value) (o : Nat) : A.zipIdx.foldl (fun (cs : Array Value) (x : Value × Nat) => cs.setIfInBounds (o + x.2) x.1) cs = setRange cs o A.toList := by
  rw [← Array.foldl_toList, Array.toList_zipIdx, foldl_zip]
  rfl
theorem splice_two (X Y A B : List Value) (hA : A.length = X.length) (hB : B.length = Y.length) : splice (splice (X ++ Y) 0 A) X.length B = A ++ B := by
  unfold splice
  rw [List.take_zero, List.nil_append, Nat.zero_add, hA, List.drop_left, ← hA, List.take_left, List.drop_append, List.drop_of_length_le (by omega), List.drop_of_length_le (by omega)]
  simp
theorem splice_behind (X Y B : List Value) (n : Nat) (hn : n = X.length) (hB : B.length = Y.length) : splice (X ++ Y) n B = X ++ B := by
  subst hn
  unfold splice
  rw [List.take_left, List.drop_append, List.drop_of_length_le (by omega), List.drop_of_length_le (by omega)]
  simp
/-- The cells of a key as it is used. -/
def keyD (k : List Nat) : Array Value := dgs (xorL 92 (padL k)) ++ dgs (xorL 54 (padL k))

end Go.Proofs.YtniogaimhkcedaaDoor.sh
/-
  HMAC of a key as it is used, and pieces.
-/
namespace Go.Proofs.YtniogaimhkcedaaDoor.sh
open Go Go.RowKit
set_option linter.unusedVariables false
set_option linter.unusedSimpArgs false

/-- A struct in the midst of a block is read, in a plain region. -/
theorem wv_partS {ops : Array Oper} {rest : List Oper} {o : Oper} {a : Act} {w : World} {Q : Exit → Act → World → Prop} {d : Nat} (hd : o.dst = some d) (hw : Region.wanted o (yielded ops a.tmps) = true) (t : TypeId) (x : Operand) (ho : o.op = .load t x) (g off : Nat) (hx : a.eval x = .pointer (some ⟨g, off, none⟩)) {t' : TypeId} (cs es : Array Value) (fs : Array Field) (hu : Tryd.prog.underlying t = some (.struct fs)) (hs : (Tryd.prog.info? t).map (·.size) = some es.size)
    (hg : Blk w g t' cs) (hp : ∀ j v, es[j]? = some v → cs[off + j]? = some v) (h : wpList Tryd.prog ops Q rest (a.put o.dst (.agg es)) w) : wpList Tryd.prog ops Q (o :: rest) a w :=
  BigFrame.wpList_want hw fun K hK => by
    unfold Oper.wp execOp
    simp only [ho, hx, Instr.loadAt, Instr.sureAddr, Sem.run_bind, Sem.run_pure, Result.andThen_ok, run_loadVar_at w g off t' t cs es (0, 0) _ hg hp hu rfl hs]
    exact hK _ _ h
theorem part_first (A B : Array Value) : ∀ (j : Nat) (v : Value), A[j]? = some v → (A ++ B)[0 + j]? = some v := fun j v h => by
  rw [Nat.zero_add, Array.getElem?_append_left (Array.getElem?_eq_some_iff.1 h).1]
  exact h
theorem part_second (A B : Array Value) (n : Nat) (hA : A.size = n) : ∀ (j : Nat) (v : Value), B[j]? = some v → (A ++ B)[n + j]? = some v := fun j v h => by
  subst hA
  rw [Array.getElem?_append_right (by omega), Nat.add_sub_cancel_left]
  exact h
/-- The first i of some texts, one behind the other. -/
def catTo (ll : List (List Nat)) (i : Nat) : List Nat := (ll.take i).flatten
theorem catTo_succ (ll : List (List Nat)) (i : Nat) (b : List Nat) (h : ll[i]? = some b) : catTo ll (i + 1) = catTo ll i ++ b := by
  unfold catTo
  rw [List.take_add_one, h]
  simp
theorem catTo_all (ll : List (List Nat)) (i : Nat) (h : ll.length ≤ i) : catTo ll i = ll.flatten := by
  unfold catTo
  rw [List.take_of_length_le h]
theorem catTo_len (ll : List (List Nat)) (i : Nat) : (catTo ll i).length ≤ ll.flatten.length := by
  have h : ll.flatten = (ll.take i).flatten ++ (ll.drop i).flatten := by rw [← List.flatten_append, List.take_append_drop]
  rw [h, List.length_append]
  exact Nat.le_add_right _ _
theorem bytes_flat {ll : List (List Nat)} (h : ∀ b ∈ ll, Bytes b) : Bytes ll.flatten := by
  induction ll with
  | nil => exact nil_bytes
  | cons x r ih => rw [List.flatten_cons]; exact (h x List.mem_cons_self).append (ih fun b hb => h b (List.mem_cons_of_mem _ hb))
theorem catTo_bytes {ll : List (List Nat)} (h : ∀ b ∈ ll, Bytes b) (i : Nat) : Bytes (catTo ll i) := bytes_flat fun b hb => h b (List.mem_of_mem_take hb)

end Go.Proofs.YtniogaimhkcedaaDoor.sh
/-
  HMAC of a key and bytes: mac.Sum, mac.Extract.
-/
namespace Go.Proofs.YtniogaimhkcedaaDoor.sh
open Go Go.RowKit
set_option linter.unusedVariables false
set_option linter.unusedSimpArgs false

theorem rowsV_of {w : World} {g n : Nat} {t : TypeId} (vs : List Value) (ll : List (List Nat)) (hlen : vs.length = ll.length) (hn : ll.length = n) (hg : Blk w g t vs.toArray) (h : ∀ (j : Nat) (v : Value) (bs : List Nat), vs[j]? = some v → ll[j]? = some bs → BytesV v w bs ∧ Bytes bs ∧ bs.length ≤ maxLen) :
    RowsV (.slice (some ⟨g, 0, none⟩) n n) w (fun j => vs.getD j undef) ll := by
  subst hn
  refine ⟨_, _, rfl, Nat.le_refl _, fun _ => ⟨_, rfl, hg.lt, fun j hj => ?_⟩, fun j bs hj => ?_⟩
  · rw [addr_add, Nat.zero_add]
    exact hg.cell (by simp [List.getD_eq_getElem?_getD, show j < vs.length from by omega])
  · have hjl := (List.getElem?_eq_some_iff.1 hj).1
    exact h j _ bs (by simp [List.getD_eq_getElem?_getD, show j < vs.length from by omega]) hj

end Go.Proofs.YtniogaimhkcedaaDoor.sh
/-
  HKDF's other half: mac.expanded.
-/
namespace Go.Proofs.YtniogaimhkcedaaDoor.sh
open Go Go.RowKit
set_option linter.unusedVariables false
set_option linter.unusedSimpArgs false

/-- HKDF's i-th piece; none ahead of the first. -/
def tL (key info : List Nat) : Nat → List Nat
  | 0 => []
  | i + 1 => macL key (tL key info i ++ (info ++ [(i + 1) % 256]))
theorem tL_succ (key info : List Nat) (i : Nat) : tL key info (i + 1) = macL key (tL key info i ++ (info ++ [(i + 1) % 256])) := rfl
theorem tL_len (key info : List Nat) (i : Nat) : (tL key info (i + 1)).length = 32 := macL_len _ _
theorem tL_le (key info : List Nat) (i : Nat) : (tL key info i).length ≤ 32 := by
  cases i with
  | zero => simp [tL]
  | succ i => rw [tL_len]; exact Nat.le_refl _
theorem tL_bytes (key info : List Nat) (i : Nat) : Bytes (tL key info i) := by
  cases i with
  | zero => exact nil_bytes
  | succ i => exact macL_bytes _ _
/-- The first k pieces, one behind the other. -/
def tsL (key info : List Nat) : Nat → List Nat
  | 0 => []
  | k + 1 => tsL key info k ++ tL key info (k + 1)
theorem tsL_succ (key info : List Nat) (k : Nat) : tsL key info (k + 1) = tsL key info k ++ tL key info (k + 1) := rfl
theorem tsL_len (key info : List Nat) : ∀ k, (tsL key info k).length = 32 * k
  | 0 => rfl
  | k + 1 => by rw [tsL_succ, List.length_append, tsL_len key info k, tL_len]; omega
theorem tsL_bytes (key info : List Nat) : ∀ k, Bytes (tsL key info k)
  | 0 => nil_bytes
  | k + 1 => (tsL_bytes key info k).append (tL_bytes key info (k + 1))
theorem tsL_pre (key info : List Nat) (k : Nat) : ∀ m, ∃ r, tsL key info (k + m) = tsL key info k ++ r
  | 0 => ⟨[], by simp⟩
  | m + 1 => by
    obtain ⟨r, h⟩ := tsL_pre key info k m
    exact ⟨r ++ tL key info (k + m + 1), by rw [← Nat.add_assoc, tsL_succ, h, List.append_assoc]⟩
theorem tsL_take (key info : List Nat) (k m n : Nat) (h : k ≤ m) (hn : n ≤ 32 * k) : (tsL key info m).take n = (tsL key info k).take n := by
  obtain ⟨r, hr⟩ := tsL_pre key info k (m - k)
  rw [show m = k + (m - k) from by omega, hr, List.take_append_of_le_length (by rw [tsL_len]; exact hn)]
/-- What a key is expanded to. -/
def expL (key info : List Nat) (n : Nat) : List Nat := (tsL key info 255).take n
theorem expL_len (key info : List Nat) (n : Nat) (h : n ≤ 8160) : (expL key info n).length = n := by
  unfold expL
  rw [List.length_take, tsL_len]
  omega
theorem expL_bytes (key info : List Nat) (n : Nat) : Bytes (expL key info n) := (tsL_bytes key info 255).take n
theorem expL_of (key info : List Nat) (k n : Nat) (hk : k ≤ 255) (hn : n ≤ 32 * k) : (tsL key info k).take n = expL key info n := (tsL_take key info k 255 n hk hn).symm

theorem run_min2 {o : Oper} {a : Act} {x y : Operand} {m n z : Nat} {ts : Array TypeId} (ho : o.op = .call { callee := .builtin .min, args := #[x, y], argTypes := ts }) (hx : a.eval x = .int .i64 (m : Int)) (hy : a.eval y = .int .i64 (n : Int)) (hz : z = min m n) (w : World) : (execOp a.eval o).run Tryd.prog w = .ok (.value (.int .i64 (z : Int))) w := by
  unfold execOp
  simp only [ho, resolve, invoke, builtin, Sem.run_bind, Sem.run_pure, Result.andThen_ok, List.map_toArray, List.map_cons, List.map_nil, hx, hy, run_min_int2]
  have e : (if (n : Int) < (m : Int) then (n : Int) else (m : Int)) = (z : Int) := by split <;> omega
  rw [e]
theorem run_subV {o : Oper} {a : Act} {x y : Operand} {m n z : Nat} (ho : o.op = .binOp .sub 3 x y 3) (hx : a.eval x = .int .i64 (m : Int)) (hy : a.eval y = .int .i64 (n : Int)) (hle : n ≤ m) (hm : m < 4611686018427387904) (hz : z = m - n) (w : World) : (execOp a.eval o).run Tryd.prog w = .ok (.value (.int .i64 (z : Int))) w := by
  unfold execOp
  simp only [ho, hx, hy]
  simp [go_sem, IntKind.wrap_i64, wrap64]
  omega
theorem run_inc8 {o : Oper} {a : Act} {x : Operand} {m z : Nat} (ho : o.op = .binOp .add 5 x (.const (.int .u8 1)) 5) (hx : a.eval x = .int .u8 (m : Int)) (hz : z = (m + 1) % 256) (w : World) : (execOp a.eval o).run Tryd.prog w = .ok (.value (.int .u8 (z : Int))) w := by
  have e3 : a.eval (.const (.int .u8 1)) = .int .u8 1 := rfl
  unfold execOp
  simp only [ho, hx, e3]
  simp [go_sem, IntKind.wrap_u8', hz]
theorem run_make0 (c : Nat) (hc : c < 1000000) (w : World) : (Instr.makeSlice 23 (.int .i64 0) (.int .i64 (c : Int))).run Tryd.prog w = .ok (.slice (some ⟨w.heap.size, 0, none⟩) 0 c) (w.alloc (.cells (ints .u8 (List.replicate c 0)) 5)) := by
  have hi := info_u8
  cases hq : Tryd.prog.info? 5 with
  | none => rw [hq] at hi; cases hi
  | some i =>
    rw [hq] at hi
    simp only [Option.map_some, Option.some.injEq, Prod.mk.injEq] at hi
    obtain ⟨h1, h2, h3⟩ := hi
    have h := run_make (P := Tryd.prog) w 23 5 i (.int .u8 0) Tryd.underlying23 hq h1 .i64 .i64 0 (c : Int) (Int.le_refl _) (by omega) (by rw [h3]; omega) (by omega)
    rw [h2, Nat.mul_one, Int.toNat_natCast, made_zero] at h
    exact h
theorem row_made (w : World) (base c : Nat) (hc : c < 1000000) (hb : base ≤ w.heap.size) : Row base 5 .u8 [] (.slice (some ⟨w.heap.size, 0, none⟩) 0 c) (w.alloc (.cells (ints .u8 (List.replicate c 0)) 5)) :=
  ⟨rfl, .inr ⟨w.heap.size, c, ints .u8 (List.replicate c 0), rfl, hb, heap_new w _, Nat.zero_le _, Nat.le_of_lt (Nat.lt_of_lt_of_le hc (by decide)), by rw [ints_size, List.length_replicate, Nat.mul_one], by simp [ints]⟩⟩
section
variable {h : List Oper} {A0 A : Act} {W0 : World} {S : Nat → Option (Value → World → Prop)} {sp O : List Nat} {E : List (Nat × Nat)} {i : Nat} {o : Oper}
theorem ow_make (hA : Full h A0 A S sp) (hw : Wants h A0 A S O E W0.heap.size i o) (d x n : Nat) (hd : o.dst = some d) (ho : o.op = .makeSlice 23 (.const (.int .i64 0)) (.tmp x)) (hwx : waitsFor h o x = true) (hx : A.tmps[x]? = some (.int .i64 (n : Int))) (hsx : sp.contains x = false) (hE : (E.all fun q => q.2 != x || q.1 == i) = true) (hn : n < 1000000) (hp : S d = some (Row W0.heap.size 5 .u8 [])) : OwnOk Tryd.prog h A0 W0 (relR A S) O E i o :=
  ow_run hw d hd fun a w hF hB hgot => by
    have e := gotE_det hA hgot hwx hsx hE hx
    refine ⟨_, _, none, ?_, rel_spec _ hp (row_made w _ n hn hB.size), grown_none ((Below.refl _ _).alloc (Nat.le_refl _) _), fun b hb => (by cases hb), fun _ b hb => .inl ?_⟩
    · unfold execOp
      simp only [ho, e]
      have := run_make0 n hn w
      simp [Act.eval, this]
    · cases hb
      exact ⟨Nat.le_refl _, by simp⟩
end
end Go.Proofs.YtniogaimhkcedaaDoor.sh
/-
  The answers that the document fixes for layer 4 are as they must be.
-/
namespace Go.Proofs.YtniogaimhkcedaaDoor.sh
open Go Go.RowKit
set_option linter.unusedVariables false
set_option linter.unusedSimpArgs false

theorem mac_jefe : macL [74, 101, 102, 101] [119, 104, 97, 116, 32, 100, 111, 32, 121, 97, 32, 119, 97, 110, 116, 32, 102, 111, 114, 32, 110, 111, 116, 104, 105, 110, 103, 63] = [91, 220, 193, 70, 191, 96, 117, 78, 106, 4, 36, 38, 8, 149, 117, 199, 90, 0, 63, 8, 157, 39, 57, 131, 157, 236, 88, 185, 100, 236, 56, 67] := by kernel_rfl
/-- A constant's bytes, marked, in a plain region. -/
theorem wl_conv {ops : Array Oper} {rest : List Oper} {o : Oper} {a : Act} {w : World} {Q : Exit → Act → World → Prop} {d : Nat} (hd : o.dst = some d) (hw : Region.wanted o (yielded ops a.tmps) = true) (t e : TypeId) (x : Operand) (ho : o.op = .convert t t x) (v : Value) (hx : a.eval x = v) (ht : Tryd.prog.underlying t = some (.slice e)) (he : Tryd.prog.underlying e = some (.int .u8)) (l : List Nat) (h : Const e .u8 l v w)
    (hk : ∀ w', Const e .u8 l v w' → w.grownBy w' (blkOf v) → wpList Tryd.prog ops Q rest (a.put o.dst v) w') : wpList Tryd.prog ops Q (o :: rest) a w :=
  BigFrame.wpList_want hw fun K hK => by
    obtain ⟨w', h4, h5, h6⟩ := conv_const ht he h
    unfold Oper.wp
    rw [run_conv ho hx h4]
    exact hK _ _ (hk w' h5 h6)
theorem Const.new {w : World} {e : TypeId} {k : IntKind} {l : List Nat} {n : Nat} (hn : l.length = n) : Const e k l (.slice (some ⟨w.heap.size, 0, none⟩) n n) (w.alloc (.cells (sh.ints k l) e)) := by subst hn; exact ⟨w.heap.size, (0, 0), rfl, heap_new w _⟩
theorem Const.alloc {w : World} {e : TypeId} {k : IntKind} {l : List Nat} {v : Value} (h : Const e k l v w) (o : Obj) : Const e k l v (w.alloc o) := by
  obtain ⟨g, fr, rfl, h2⟩ := h
  exact ⟨g, fr, rfl, (Below.heap_alloc w o g (Array.getElem?_eq_some_iff.1 h2).1).trans h2⟩
theorem jefe_bytes : Bytes [74, 101, 102, 101] := fun i x hx => by
  have : x ∈ [74, 101, 102, 101] := List.mem_of_getElem? hx
  revert x
  intro x _ hx
  simp at hx
  omega
theorem want_bytes : Bytes [119, 104, 97, 116, 32, 100, 111, 32, 121, 97, 32, 119, 97, 110, 116, 32, 102, 111, 114, 32, 110, 111, 116, 104, 105, 110, 103, 63] := fun i x hx => by
  have : x ∈ [119, 104, 97, 116, 32, 100, 111, 32, 121, 97, 32, 119, 97, 110, 116, 32, 102, 111, 114, 32, 110, 111, 116, 104, 105, 110, 103, 63] := List.mem_of_getElem? hx
  simp at this
  omega

end Go.Proofs.YtniogaimhkcedaaDoor.sh
/-
  Strings made of bytes, and compared; small sums.
-/
namespace Go.Proofs.YtniogaimhkcedaaDoor.sh
open Go Go.RowKit
set_option linter.unusedVariables false
set_option linter.unusedSimpArgs false

/-- The string of bytes. -/
def strOf (l : List Nat) : ByteArray := (l.map fun n : Nat => (n : Int)).foldl (fun r n => r.push (UInt8.ofNat n.toNat)) ByteArray.empty
theorem ints_map (l : List Nat) : ((l.map fun n : Nat => (n : Int)).map (Value.int .u8)).toArray = ints .u8 l := by simp [ints]
theorem str_u : Tryd.prog.underlying 9 = some .string := by kernel_rfl
theorem conv_str {v : Value} {w : World} {l : List Nat} (h : IntsV .u8 v w l) : (convert 23 9 v).run Tryd.prog w = .ok (.string (strOf l)) w := by
  obtain ⟨p, c, rfl, h2, h3⟩ := h
  rw [run_convert_bytes_string (P := Tryd.prog) w 23 9 5 p l.length c Tryd.underlying23 Tryd.underlying5 str_u]
  cases p with
  | none =>
    have : l = [] := by
      cases l with
      | nil => rfl
      | cons x r => obtain ⟨A, h, _⟩ := h3 (by simp); cases h
    subst this
    rfl
  | some A =>
    refine run_bytesToString w A l.length c (l.map fun n : Nat => (n : Int)) ?_
    rw [ints_map]
    have hf := run_loadCells_list (P := Tryd.prog) w A (ints .u8 l).toList (by
      intro j y hj
      rw [Array.getElem?_toList] at hj
      have hjl : j < l.length := by have := (Array.getElem?_eq_some_iff.1 hj).1; rwa [ints_size] at this
      obtain ⟨A', e1, _, e3⟩ := h3 (by intro e; rw [e] at hjl; simp at hjl)
      cases e1
      rw [e3 j l[j] (List.getElem?_eq_getElem hjl), ← hj, ints_get (List.getElem?_eq_getElem hjl)])
    rw [ints_toList, Array.toArray_toList] at hf
    exact hf
theorem run_str {o : Oper} {a : Act} {x : Operand} {v : Value} {w : World} {l : List Nat} (ho : o.op = .convert 23 9 x) (hx : a.eval x = v) (h : IntsV .u8 v w l) : (execOp a.eval o).run Tryd.prog w = .ok (.value (.string (strOf l))) w := by
  unfold execOp
  simp only [ho, hx]
  simp [conv_str h]
theorem run_eql_str {o : Oper} {a : Act} {x y : Operand} {u : TypeId} {s : ByteArray} (ho : o.op = .binOp .eql 9 x y u) (hx : a.eval x = .string s) (hy : a.eval y = .string s) (w : World) : (execOp a.eval o).run Tryd.prog w = .ok (.value (.bool true)) w := by
  unfold execOp
  simp only [ho, hx, hy]
  simp [go_sem]
theorem run_neq_str {o : Oper} {a : Act} {x y : Operand} {u : TypeId} {s : ByteArray} (ho : o.op = .binOp .neq 9 x y u) (hx : a.eval x = .string s) (hy : a.eval y = .string s) (w : World) : (execOp a.eval o).run Tryd.prog w = .ok (.value (.bool false)) w := by
  unfold execOp
  simp only [ho, hx, hy]
  simp [go_sem]
section
variable {h : List Oper} {A0 A : Act} {W0 : World} {S : Nat → Option (Value → World → Prop)} {sp O : List Nat} {E : List (Nat × Nat)} {i : Nat} {o : Oper}
/-- Bytes made into a string, in a region that draws its order. -/
theorem ow_str (hA : Full h A0 A S sp) (hw : Wants h A0 A S O E W0.heap.size i o) (d : Nat) (v : Value) (hdet : detE h sp E i o = true) (hsel : notSel o = true) (hd : o.dst = some d) (hds : sp.contains d = false) (hO : O.contains d = false) (hv : A.tmps[d]? = some v) (x : Operand) (ho : o.op = .convert 23 9 x) (u : Value) (hx : A.eval x = u) (l : List Nat) (hl : ∀ w, Below W0.heap.size W0 w → IntsV .u8 u w l) (hvS : v = .string (strOf l)) : OwnOk Tryd.prog h A0 W0 (relR A S) O E i o :=
  ow_q hA hdet hsel hw d v hd hds hO hv fun w hb => by
    unfold Oper.quietAt
    rw [run_str ho hx (hl w hb)]
    exact ⟨rfl, hvS.symm⟩
end
/-- Bytes made into a string, in a plain region. -/
theorem wv_str {ops : Array Oper} {rest : List Oper} {o : Oper} {a : Act} {w : World} {Q : Exit → Act → World → Prop} {d : Nat} (hd : o.dst = some d) (hw : Region.wanted o (yielded ops a.tmps) = true) (x : Operand) (ho : o.op = .convert 23 9 x) (u : Value) (hx : a.eval x = u) (l : List Nat) (hl : IntsV .u8 u w l) (h : wpList Tryd.prog ops Q rest (a.put o.dst (.string (strOf l))) w) : wpList Tryd.prog ops Q (o :: rest) a w :=
  BigFrame.wpList_want hw fun K hK => by
    unfold Oper.wp
    rw [run_str ho hx hl]
    exact hK _ _ h
/-- So many times a number. -/
theorem run_mulC {o : Oper} {a : Act} {x : Operand} {i z : Nat} (c : Nat) (ho : o.op = .binOp .mul 3 (.const (.int .i64 (c : Int))) x 3) (hx : a.eval x = .int .i64 (i : Int)) (hz : z = c * i) (h62 : z < 4611686018427387904) (w : World) : (execOp a.eval o).run Tryd.prog w = .ok (.value (.int .i64 (z : Int))) w := by
  have e3 : a.eval (.const (.int .i64 (c : Int))) = .int .i64 (c : Int) := rfl
  have e4 : ((c : Int) * (i : Int)) = (z : Int) := by rw [hz]; simp
  unfold execOp
  simp only [ho, hx, e3]
  simp [go_sem, e4, IntKind.wrap_i64, wrap64]
  omega
theorem run_mulV {o : Oper} {a : Act} {x : Operand} {i z : Nat} (c : Nat) (ho : o.op = .binOp .mul 3 x (.const (.int .i64 (c : Int))) 3) (hx : a.eval x = .int .i64 (i : Int)) (hz : z = i * c) (h62 : z < 4611686018427387904) (w : World) : (execOp a.eval o).run Tryd.prog w = .ok (.value (.int .i64 (z : Int))) w := by
  have e3 : a.eval (.const (.int .i64 (c : Int))) = .int .i64 (c : Int) := rfl
  have e4 : ((i : Int) * (c : Int)) = (z : Int) := by rw [hz]; simp
  unfold execOp
  simp only [ho, hx, e3]
  simp [go_sem, e4, IntKind.wrap_i64, wrap64]
  omega
theorem run_addC {o : Oper} {a : Act} {x : Operand} {i z : Nat} (c : Nat) (ho : o.op = .binOp .add 3 (.const (.int .i64 (c : Int))) x 3) (hx : a.eval x = .int .i64 (i : Int)) (hz : z = c + i) (h62 : z < 4611686018427387904) (w : World) : (execOp a.eval o).run Tryd.prog w = .ok (.value (.int .i64 (z : Int))) w := by
  have e3 : a.eval (.const (.int .i64 (c : Int))) = .int .i64 (c : Int) := rfl
  unfold execOp
  simp only [ho, hx, e3]
  simp [go_sem, IntKind.wrap_i64, wrap64]
  omega
theorem run_subC {o : Oper} {a : Act} {x : Operand} {i z : Nat} (c : Nat) (ho : o.op = .binOp .sub 3 (.const (.int .i64 (c : Int))) x 3) (hx : a.eval x = .int .i64 (i : Int)) (hz : z = c - i) (hle : i ≤ c) (h62 : c < 4611686018427387904) (w : World) : (execOp a.eval o).run Tryd.prog w = .ok (.value (.int .i64 (z : Int))) w := by
  have e3 : a.eval (.const (.int .i64 (c : Int))) = .int .i64 (c : Int) := rfl
  unfold execOp
  simp only [ho, hx, e3]
  simp [go_sem, IntKind.wrap_i64, wrap64]
  omega
theorem run_remV {o : Oper} {a : Act} {x y : Operand} {m n z : Nat} (ho : o.op = .binOp .rem 3 x y 3) (hx : a.eval x = .int .i64 (m : Int)) (hy : a.eval y = .int .i64 (n : Int)) (hn : 0 < n) (hz : z = m % n) (hm : m < 4611686018427387904) (w : World) : (execOp a.eval o).run Tryd.prog w = .ok (.value (.int .i64 (z : Int))) w := by
  have h1 : ((n : Int) = 0) = False := by simp; omega
  have h2 : Int.tmod (m : Int) (n : Int) = (z : Int) := by rw [hz]; rfl
  have h3 : m % n ≤ m := Nat.mod_le _ _
  unfold execOp
  simp only [ho, hx, hy]
  simp [go_sem, h1, h2, IntKind.wrap_i64, wrap64]
  omega
theorem run_conv83 {o : Oper} {a : Act} {x : Operand} {z : Nat} (ho : o.op = .convert 5 3 x) (hx : a.eval x = .int .u8 (z : Int)) (hz : z < 256) (w : World) : (execOp a.eval o).run Tryd.prog w = .ok (.value (.int .i64 (z : Int))) w := by
  unfold execOp
  simp only [ho, hx]
  simp [go_sem, IntKind.wrap_i64, wrap64]
  omega
theorem run_conv38 {o : Oper} {a : Act} {x : Operand} {m z : Nat} (ho : o.op = .convert 3 5 x) (hx : a.eval x = .int .i64 (m : Int)) (hz : z = m % 256) (w : World) : (execOp a.eval o).run Tryd.prog w = .ok (.value (.int .u8 (z : Int))) w := by
  unfold execOp
  simp only [ho, hx]
  simp [go_sem, IntKind.wrap_u8', hz]
end Go.Proofs.YtniogaimhkcedaaDoor.sh
/-
  Pieces of what is expanded; a byte in a slice of its own.
-/
namespace Go.Proofs.YtniogaimhkcedaaDoor.sh
open Go Go.RowKit
set_option linter.unusedVariables false
set_option linter.unusedSimpArgs false

theorem tsL_cut (key info : List Nat) (k i : Nat) (hi : i < k) : ((tsL key info k).drop (32 * i)).take 32 = tL key info (i + 1) := by
  obtain ⟨r, hr⟩ := tsL_pre key info (i + 1) (k - (i + 1))
  rw [show k = i + 1 + (k - (i + 1)) from by omega, hr, tsL_succ, List.append_assoc, List.drop_append, tsL_len, Nat.sub_self, List.drop_of_length_le (by rw [tsL_len]; exact Nat.le_refl _), List.nil_append, List.drop_zero, List.take_append_of_le_length (by rw [tL_len]; exact Nat.le_refl _), List.take_of_length_le (by rw [tL_len]; exact Nat.le_refl _)]
/-- A piece of a slice of bytes. -/
theorem BytesV.piece {p : Option Addr} {n c k m : Nat} {w : World} {bs : List Nat} (h : BytesV (.slice p n c) w bs) (hm : k + m ≤ bs.length) : BytesV (.slice (if c = k then p else p.map (·.add k)) m (c - k)) w ((bs.drop k).take m) := by
  have hn : n = bs.length := by obtain ⟨_, _, h1, _⟩ := h; cases h1; rfl
  subst hn
  have h2 := BytesV.cut h (k := k) (by omega)
  exact IntsV.take h2 (by rw [List.length_drop]; omega)
theorem run_byte (b : Nat) (w : World) : (Instr.buildSlice 23 1 #[(0, .int .u8 (b : Int))]).run Tryd.prog w = .ok (.slice (some ⟨w.heap.size, 0, none⟩) 1 1) (w.alloc (.cells (ints .u8 [b]) 5)) := by kernel_rfl
section
variable {h : List Oper} {A0 A : Act} {W0 : World} {S : Nat → Option (Value → World → Prop)} {sp O : List Nat} {E : List (Nat × Nat)} {i : Nat} {o : Oper}
/-- A byte in a slice of its own, in a region that draws its order. -/
theorem ow_byte (hA : Full h A0 A S sp) (hw : Wants h A0 A S O E W0.heap.size i o) (d x b : Nat) (hd : o.dst = some d) (ho : o.op = .buildSlice 23 1 #[(0, .tmp x)]) (hwx : waitsFor h o x = true) (hx : A.tmps[x]? = some (.int .u8 (b : Int))) (hsx : sp.contains x = false) (hE : (E.all fun q => q.2 != x || q.1 == i) = true) (hp : S d = some (Const 5 .u8 [b])) : OwnOk Tryd.prog h A0 W0 (relR A S) O E i o :=
  ow_run hw d hd fun a w hF hB hgot => by
    have e := gotE_det hA hgot hwx hsx hE hx
    refine ⟨_, _, none, ?_, rel_spec _ hp (Const.new (n := 1) rfl), grown_none ((Below.refl _ _).alloc (Nat.le_refl _) _), fun b hb => (by cases hb), fun _ b hb => .inl ?_⟩
    · unfold execOp
      simp only [ho]
      simp [e, run_byte]
    · cases hb
      exact ⟨Nat.le_refl _, by simp⟩
end
end Go.Proofs.YtniogaimhkcedaaDoor.sh
/-
  What MacFilled answers.
-/
namespace Go.Proofs.YtniogaimhkcedaaDoor.sh
open Go Go.RowKit
set_option linter.unusedVariables false
set_option linter.unusedSimpArgs false

theorem zero_cells (m : Nat) : Builtin.zeroCells (Value.int .u8 0).cells m = ints .u8 (List.replicate m 0) := by
  apply Array.ext_getElem?
  intro i
  by_cases h : i < m
  · simp [Builtin.zeroCells, ints, Value.cells, h, Nat.mod_one]
  · rw [Array.getElem?_eq_none (by rw [size_zeroCells]; simp [Value.cells]; omega), Array.getElem?_eq_none (by rw [ints_size, List.length_replicate]; omega)]
theorem zapp_run {ty : TypeId} {base : Nat} {l : List Nat} {v : Value} {w : World} {m : Nat} (hown : Row base 5 .u8 l v w) (hn : l.length + m ≤ 1000000) (hbase : base ≤ w.heap.size) :
    ∃ v' w', (Builtin.append_ #[23, 3] ty #[v, .int .i64 (m : Int)]).run Tryd.prog w = .ok v' w' ∧ Row base 5 .u8 (l ++ List.replicate m 0) v' w' ∧ w.grownBy w' (blkOf v) ∧ (blkOf v' = blkOf v ∨ blkOf v' = some w.heap.size) := by
  obtain ⟨i0, hi, hz0, hz1, hz2⟩ := info_parts inf_u8
  have ht := Tryd.underlying23
  have htn := Tryd.underlying3
  have hwr : IntKind.i64.wrap (m : Int) = m := by rw [IntKind.wrap_i64]; omega
  have h48i : ¬ (281474976710656 < (m : Int) * (i0.bytes : Int)) := by rw [hz2]; omega
  have hneg : ¬ ((m : Int) < 0) := by omega
  have hlen : (ints .u8 (l ++ List.replicate m 0)).toList = (ints .u8 l).toList ++ (ints .u8 (List.replicate m 0)).toList := by rw [← ints_append]; simp
  have hl1 : (ints .u8 (l ++ List.replicate m 0)).toList.length = l.length + m := by rw [ints_toList, List.length_append, List.length_replicate]
  have h63 : l.length + m ≤ maxLen := Nat.le_trans hn (by decide)
  have grown : ∀ (old : Nat), ∀ (row : Option Nat),
      Row base 5 .u8 (l ++ List.replicate m 0) (.slice (some ⟨w.heap.size, 0, none⟩) (l.length + m) (grownCap w (l.length + m) old 5)) (w.drew.alloc (.cells (ints .u8 l ++ ints .u8 (List.replicate m 0) ++ ints .u8 (List.replicate (grownCap w (l.length + m) old 5 - (l.length + m)) 0)) 5)) ∧
      w.grownBy (w.drew.alloc (.cells (ints .u8 l ++ ints .u8 (List.replicate m 0) ++ ints .u8 (List.replicate (grownCap w (l.length + m) old 5 - (l.length + m)) 0)) 5)) row := by
    intro old row
    have hge := grownCap_ge w (l.length + m) old 5
    have hcm : grownCap w (l.length + m) old 5 ≤ maxLen := grownCap_le_maxLen w (l.length + m) old 5 h63
    refine ⟨⟨by rw [hl1, List.length_append, List.length_replicate, Nat.mul_one], .inr ⟨w.heap.size, _, _, by rw [List.length_append, List.length_replicate], hbase, heap_alloc_new w.drew _, by rw [List.length_append, List.length_replicate]; exact hge, hcm, ?_, ?_⟩⟩, ⟨rfl, rfl, rfl, by simp, fun k hk _ => Below.heap_alloc w.drew _ k hk⟩⟩
    · rw [Array.size_append, Array.size_append, ints_size, ints_size, ints_size, List.length_replicate, List.length_replicate]
      omega
    · rw [ints_append, Array.toList_append, List.length_append, List.length_replicate, Nat.mul_one, ← hl1]
      exact List.take_left
  rcases hown.2 with ⟨rfl, h0⟩ | ⟨g, cap, cur, rfl, hbg, hg, hnc, hcm, hcs, htake⟩
  · have hx : l = [] := List.eq_nil_of_length_eq_zero h0
    subst hx
    by_cases hm : m = 0
    · subst hm
      refine ⟨.slice none 0 0, w, ?_, row_nil w base _ _, ⟨rfl, rfl, rfl, Nat.le_refl _, fun _ _ _ => rfl⟩, .inl rfl⟩
      simp [Builtin.append_, run_underlying ht, run_underlying htn, sizeOf, typeInfo, hi, asInt, asIntOf, IntKind.wrap_i64]
    · have hr := Lib.run_append_nil_zeros (P := Tryd.prog) w 23 3 ty 5 i0 (.int .u8 0) .i64 .i64 ht htn hi hz0 m (by omega) (by rw [hz1]; decide) (by omega) (by rw [hz2]; simp at hn; omega)
      rw [zero_cells, zero_cells] at hr
      have hgr := grown 0 (blkOf (.slice none 0 0))
      have e0 : ints .u8 ([] : List Nat) = #[] := rfl
      rw [e0, Array.empty_append] at hgr
      simp only [List.length_nil, Nat.zero_add, List.nil_append] at hgr ⊢
      exact ⟨_, _, hr, hgr.1, hgr.2, .inr rfl⟩
  · have hf : cur.toList.take l.length = (ints .u8 l).toList := by rw [Nat.mul_one] at htake; exact htake
    by_cases hroom : l.length + m ≤ cap
    · obtain ⟨NL, hNL⟩ : ∃ NL, NL = (ints .u8 (List.replicate m 0)).toList := ⟨_, rfl⟩
      have lNL : NL.length = m := by rw [hNL, ints_toList, List.length_replicate]
      have hst := run_storeCells_at Tryd.prog g l.length 5 NL 0 cur w hg (by rw [lNL]; omega) (by rw [hNL]; exact oneCell_ints _ _)
      simp only [Nat.add_zero, lNL] at hst
      have hz' : (Builtin.zeroCells (Value.int .u8 0).cells m).toList = NL := by rw [zero_cells, hNL]
      refine ⟨.slice (some ⟨g, 0, none⟩) (l.length + m) cap, w.setRow g (cur.toList.take l.length ++ NL ++ cur.toList.drop (l.length + m)).toArray, ?_, ⟨by rw [hl1, List.length_append, List.length_replicate, Nat.mul_one], .inr ⟨g, cap, _, by rw [List.length_append, List.length_replicate], hbg, setRow_heap w g cur _ 5 _ hg, by rw [List.length_append, List.length_replicate]; exact hroom, hcm, ?_, ?_⟩⟩, ⟨rfl, rfl, rfl, by simp, fun k _ hk => setRow_other w g k _ (fun e => hk (by rw [e]; rfl))⟩, .inl rfl⟩
      · by_cases hm : m = 0
        · have e0 : NL = [] := List.eq_nil_of_length_eq_zero (by rw [lNL, hm])
          rw [e0] at hst ⊢
          subst hm
          simp only [Nat.add_zero, Int.natCast_zero] at hst hroom ⊢
          simp [Builtin.append_, run_underlying ht, run_underlying htn, sizeOf, typeInfo, hi, hz1, asInt, asIntOf, IntKind.wrap_i64, hroom, Addr.add_lit, hst]
        · have hm0 : ¬ (m * i0.size = 0) := by rw [hz1]; omega
          simp [Builtin.append_, run_underlying ht, run_underlying htn, sizeOf, typeInfo, zeroValue, hi, hz0, hz1, asInt, asIntOf, hwr, hneg, h48i, hroom, hm, Addr.add_lit, hz', hst]
      · simp only [List.size_toArray, List.length_append, List.length_take, List.length_drop, Array.length_toList, lNL]
        omega
      · simp only [List.append_assoc]
        rw [hf, hNL, ← List.append_assoc, ← hlen, List.length_append, List.length_replicate, Nat.mul_one, ← hl1]
        exact List.take_left
    · have holds : ∀ j u, (ints .u8 l).toList[j]? = some u → w.cell? ((⟨g, 0, none⟩ : Addr).add j) = some u := hown.cells (g := g) rfl
      have hgr := grown cap (blkOf (.slice (some ⟨g, 0, none⟩) l.length cap))
      refine ⟨_, _, ?_, hgr.1, hgr.2, .inr rfl⟩
      have hn2 : ¬ (l.length + m ≤ cap) := hroom
      have hm0 : ¬ (m * i0.size = 0) := by rw [hz1]; omega
      have h63' : ¬ (9223372036854775807 < ((l.length : Int) + (m : Int))) := by omega
      have h48' : ¬ (281474976710656 < Builtin.nextslicecap (l.length + m) cap * i0.bytes) := by have := growslice_fits (need := l.length + m) (old := cap) (bytes := i0.bytes) (by omega) (by rw [hz2]; omega); omega
      have hfo := run_firstCells_some (P := Tryd.prog) w.drew i0.size l.length ⟨g, 0, none⟩ l.length cap (ints .u8 l).toList (by rw [ints_toList, hz1, Nat.mul_one]) (by simpa using holds)
      simp [Builtin.append_, run_underlying ht, run_underlying htn, sizeOf, typeInfo, zeroValue, hi, hz0, asInt, asIntOf, hwr, hneg, h48i, hn2, hm0, h63', h48', Question.forced, hfo, newRow, grownCap, zero_cells]
section
variable {h : List Oper} {A0 A : Act} {W0 : World} {S : Nat → Option (Value → World → Prop)} {sp O : List Nat} {E : List (Nat × Nat)} {i : Nat} {o : Oper}
/-- So many bytes 0 appended to an owned slot, which is taken over. -/
theorem ow_zapp (hA : Full h A0 A S sp) (hw : Wants h A0 A S O E W0.heap.size i o) (d s x : Nat) (hd : o.dst = some d) (ho : o.op = .call { callee := .builtin .append, args := #[.tmp s, .tmp x], argTypes := #[23, 3] }) (l : List Nat) (m : Nat) (hn : l.length + m ≤ 1000000) (hp : S d = some (Row W0.heap.size 5 .u8 (l ++ List.replicate m 0))) (hws : waitsFor h o s = true) (hE : (E.all fun q => q.2 != s || q.1 == i) = true) (hps : S s = some (Row W0.heap.size 5 .u8 l)) (hm : (i, s) ∈ E) (hwx : waitsFor h o x = true) (hsx : sp.contains x = false) (hEx : (E.all fun q => q.2 != x || q.1 == i) = true) (hx : A.tmps[x]? = some (.int .i64 (m : Int))) : OwnOk Tryd.prog h A0 W0 (relR A S) O E i o :=
  ow_run hw d hd fun a w hF hB hgot => by
    obtain ⟨h1, h2, h3⟩ := gotE_spec hgot _ hws hE hps
    have ex := gotE_det hA hgot hwx hsx hEx hx
    obtain ⟨v', w', h4, h5, h6, h7⟩ := zapp_run (ty := o.type) (m := m) h1 hn hB.size
    refine ⟨v', w', _, ?_, rel_spec _ hp h5, h6, fun b hb => ⟨s, hm, by rw [h2]; exact hb⟩, fun _ b hb => ?_⟩
    · unfold execOp
      simp only [ho, resolve, invoke, builtin, Sem.run_bind, Sem.run_pure, Result.andThen_ok, List.map_toArray, List.map_cons, List.map_nil, ex, h4]
    · rcases h7 with h7 | h7
      · exact .inr ⟨s, hm, by rw [h2]; exact h7.symm.trans hb⟩
      · rw [hb] at h7
        cases h7
        exact .inl ⟨Nat.le_refl _, (h5.range _ hb).2⟩
end
theorem padL_sum (k : List Nat) (h : 64 < k.length) : padL (sumL k) = padL k := by
  unfold padL
  rw [if_pos h, if_neg (by rw [sumL_len]; decide), sumL_len]
theorem padL_zeros (k : List Nat) (q : Nat) (h : k.length + q ≤ 64) : padL (k ++ List.replicate q 0) = padL k := by
  unfold padL
  rw [if_neg (by rw [List.length_append, List.length_replicate]; omega), if_neg (by omega), List.append_assoc, List.replicate_append_replicate, List.length_append, List.length_replicate]
  congr 2
  omega
theorem macL_pad {k k' : List Nat} (b : List Nat) (h : padL k = padL k') : macL k b = macL k' b := by unfold macL; rw [h]

end Go.Proofs.YtniogaimhkcedaaDoor.sh
/-
  Arguments that are arrays of ints.
-/
namespace Go.Proofs.YtniogaimhkcedaaDoor.sh
open Go Go.ChangeShapes Go.WideShapes Go.ChangeAt Go.RowKit
set_option linter.unusedVariables false
set_option linter.unusedSimpArgs false

set_option maxRecDepth 100000 in
theorem open_arr {H : Type} {enc : TypeId × Value → H} {W : World} {r : Reach} {b0 base : Nat} {sp : Nat → Bool} {held : Bool} {v : Value} {d : DataW H} {p : List MemPlace} {t e : TypeId} {n B : Nat} {kd : IntKind} (ht : Tryd.prog.underlying t = some (.array n e)) (he : Tryd.prog.underlying e = some (.int kd)) (ct : Tryd.prog.cellsOf t = n) (ce : Tryd.prog.cellsOf e = 1) (hB : ∀ k : Int, (Lit.int kd k).wf = true → 0 ≤ k ∧ k < B)
    (hv : Value.okWide Tryd.prog W r b0 t v) (h : DataW.Trod enc Tryd.prog W base sp held t v d p) : ∃ l : List Nat, v = .agg (ints kd l) ∧ l.length = n ∧ ∀ (i x : Nat), l[i]? = some x → x < B := by
  unfold Value.okWide at hv
  rw [ht] at hv
  obtain ⟨cs, rfl, hsz, _⟩ := hv
  rw [ct] at hsz
  obtain ⟨fuel, hf⟩ := h
  obtain ⟨xs, m, rfl, hx, hlen, hn, hel⟩ := DataW.trod_array ht hf
  have hb : ∀ i, ∃ k : Nat, i < n → cs[i]? = some (.int kd (k : Int)) ∧ k < B := by
    intro i
    by_cases hi : i < n
    · have h1 := hel i hi
      rw [ce, Nat.mul_one] at h1
      have hxi : xs[i]? = some (xs[i]'(by omega)) := List.getElem?_eq_getElem _
      rw [hxi] at h1
      obtain ⟨k, e1, e2, hwf⟩ := DataW.trod_int he h1
      have hi' : i < cs.size := by omega
      have e3 : ((Value.agg cs).cells.toList.drop i).take 1 = [cs[i]] := by
        simp only [Value.cells]
        rw [List.drop_eq_getElem_cons (by simpa using hi')]
        simp
      rw [e3] at e1
      obtain ⟨h2, h3⟩ := hB k hwf
      refine ⟨k.toNat, fun _ => ⟨?_, by omega⟩⟩
      rw [Int.toNat_of_nonneg h2, Array.getElem?_eq_getElem hi']
      simpa using e1
    · exact ⟨0, fun h' => absurd h' hi⟩
  let b : Nat → Nat := fun i => Classical.choose (hb i)
  have b1 : ∀ i, i < n → cs[i]? = some (.int kd (b i : Int)) ∧ b i < B := fun i => Classical.choose_spec (hb i)
  refine ⟨(List.range n).map b, ?_, by simp, fun i x hx => ?_⟩
  · congr 1
    apply Array.ext_getElem?
    intro j
    by_cases hj : j < n
    · rw [(b1 j hj).1]
      exact (ints_get (by simp [hj])).symm
    · rw [Array.getElem?_eq_none (by omega), Array.getElem?_eq_none (by rw [ints_size]; simp; omega)]
  · rw [List.getElem?_map] at hx
    obtain ⟨y, hy, rfl⟩ := Option.map_eq_some_iff.1 hx
    obtain ⟨h1, h2⟩ := List.getElem?_eq_some_iff.1 hy
    simp at h1 h2
    rw [← h2]
    exact (b1 _ h1).2
end Go.Proofs.YtniogaimhkcedaaDoor.sh
/-
  ChaCha20 as lists of numbers: quarters, rounds, blocks, and bytes that are turned by blocks.
-/
namespace Go.Proofs.YtniogaimhkcedaaDoor.sh
open Go Go.RowKit
set_option linter.unusedVariables false
set_option linter.unusedSimpArgs false

/-- A word turned to the left. -/
def rotl (x n : Nat) : Nat := x * 2 ^ n % 4294967296 ||| x / 2 ^ (32 - n)
theorem rotl_lt (x n : Nat) (h : x < 4294967296) : rotl x n < 4294967296 := by
  unfold rotl
  exact Nat.or_lt_two_pow (n := 32) (Nat.mod_lt _ (by decide)) (Nat.lt_of_le_of_lt (Nat.div_le_self _ _) h)
def rotA (x n : Nat) : Nat := x * 2 ^ n % 4294967296 + x / 2 ^ (32 - n)
theorem rotl_add (x n : Nat) (h : x < 4294967296) (hn : n ≤ 32) : rotl x n = rotA x n := by
  have e : (4294967296 : Nat) = 2 ^ n * 2 ^ (32 - n) := by rw [← Nat.pow_add, show n + (32 - n) = 32 from by omega]
  have hl : x / 2 ^ (32 - n) < 2 ^ n := by
    rw [Nat.div_lt_iff_lt_mul (Nat.pow_pos (by decide)), ← e]
    exact h
  unfold rotl rotA
  rw [e, Nat.mul_comm x, Nat.mul_mod_mul_left, Nat.two_pow_add_eq_or_of_lt hl]
/-- The reference's step: a word turned by one bit. -/
def turn1 (x : Nat) : Nat := (x * 2 % 4294967296 + x / 2147483648) % 4294967296
def turnT (x : Nat) : Nat → Nat
  | 0 => x
  | n + 1 => turn1 (turnT x n)
theorem turn1_lt (x : Nat) : turn1 x < 4294967296 := Nat.mod_lt _ (by decide)
theorem turnT_lt (x n : Nat) (h : x < 4294967296) : turnT x n < 4294967296 := by
  cases n with
  | zero => exact h
  | succ n => exact turn1_lt _
theorem rot_arith (P Q x : Nat) (hP : 0 < P) (hQ : 0 < Q) (hx : x < 2 * (P * Q)) :
    ((P * (x % (2 * Q)) + x / (2 * Q)) * 2 % (2 * (P * Q)) + (P * (x % (2 * Q)) + x / (2 * Q)) / (P * Q)) % (2 * (P * Q)) = 2 * P * (x % Q) + x / Q := by
  obtain ⟨q, hq⟩ : ∃ q, q = x / (2 * Q) := ⟨_, rfl⟩
  obtain ⟨r, hr⟩ : ∃ r, r = x % (2 * Q) := ⟨_, rfl⟩
  have h1 : 2 * Q * q + r = x := by rw [hq, hr]; exact Nat.div_add_mod x (2 * Q)
  have h2 : r < 2 * Q := by rw [hr]; exact Nat.mod_lt _ (by omega)
  have h3 : q < P := by
    rw [hq, Nat.div_lt_iff_lt_mul (by omega)]
    calc x < 2 * (P * Q) := hx
      _ = P * (2 * Q) := by rw [Nat.mul_left_comm]
  rw [← hq, ← hr]
  obtain ⟨b, t, hb, ht, e⟩ : ∃ b t, b < 2 ∧ t < Q ∧ r = Q * b + t := by
    by_cases h : r < Q
    · exact ⟨0, r, by omega, h, by omega⟩
    · exact ⟨1, r - Q, by omega, by omega, by omega⟩
  have e2 : x = Q * (2 * q + b) + t := by rw [← h1, e, Nat.mul_add, ← Nat.mul_assoc, Nat.mul_comm Q 2]; omega
  have e3 : x % Q = t := by rw [e2, Nat.mul_add_mod]; exact Nat.mod_eq_of_lt ht
  have e4 : x / Q = 2 * q + b := by rw [e2, Nat.mul_add_div hQ, Nat.div_eq_of_lt ht, Nat.add_zero]
  have h5 : P * t + q < P * Q := by
    have := Nat.mul_le_mul_left P (show t + 1 ≤ Q from ht)
    rw [Nat.mul_add, Nat.mul_one] at this
    omega
  obtain ⟨s, hs⟩ : ∃ s, s = P * t + q := ⟨_, rfl⟩
  obtain ⟨N, hN⟩ : ∃ N, N = P * Q := ⟨_, rfl⟩
  have e5 : P * r + q = N * b + s := by rw [e, Nat.mul_add, ← Nat.mul_assoc, ← hN, hs]; omega
  rw [e3, e4, e5, ← hN]
  rw [← hs, ← hN] at h5
  have hN0 : 0 < N := by omega
  have e6 : (N * b + s) / N = b := by rw [Nat.mul_add_div hN0, Nat.div_eq_of_lt h5, Nat.add_zero]
  have e7 : (N * b + s) * 2 % (2 * N) = s * 2 := by
    rw [show (N * b + s) * 2 = 2 * N * b + s * 2 by rw [Nat.add_mul, Nat.mul_right_comm, Nat.mul_comm N 2], Nat.mul_add_mod]
    exact Nat.mod_eq_of_lt (by omega)
  rw [e6, e7, Nat.mod_eq_of_lt (by omega), hs, Nat.add_mul, Nat.mul_assoc 2 P t]
  omega
theorem rotA_form (x n P Q : Nat) (hP : P = 2 ^ n) (hQ : 2 * Q = 2 ^ (32 - n)) (hM : 4294967296 = 2 * (P * Q)) : rotA x n = P * (x % (2 * Q)) + x / (2 * Q) := by
  unfold rotA
  rw [← hP, ← hQ, hM, Nat.mul_comm x, show 2 * (P * Q) = P * (2 * Q) by rw [Nat.mul_left_comm], Nat.mul_mod_mul_left]
theorem rotA_step (x n : Nat) (h : x < 4294967296) (hn : n < 32) : turn1 (rotA x n) = rotA x (n + 1) := by
  have e1 : (2147483648 : Nat) = 2 ^ n * 2 ^ (31 - n) := by rw [← Nat.pow_add, show n + (31 - n) = 31 from by omega]
  have eQ : 2 * 2 ^ (31 - n) = 2 ^ (32 - n) := by rw [Nat.mul_comm, ← Nat.pow_succ, show (31 - n).succ = 32 - n from by omega]
  have e2 : (4294967296 : Nat) = 2 * (2 ^ n * 2 ^ (31 - n)) := by rw [← e1]
  have hP : 0 < 2 ^ n := Nat.pow_pos (by decide)
  have hQ : 0 < 2 ^ (31 - n) := Nat.pow_pos (by decide)
  rw [rotA_form x n _ _ rfl eQ e2]
  obtain ⟨P, hP'⟩ : ∃ P, P = 2 ^ n := ⟨_, rfl⟩
  obtain ⟨Q, hQ'⟩ : ∃ Q, Q = 2 ^ (31 - n) := ⟨_, rfl⟩
  unfold turn1 rotA
  rw [show 32 - (n + 1) = 31 - n by omega, Nat.pow_succ]
  rw [← hP', ← hQ'] at e1 e2 ⊢
  rw [← hP'] at hP
  rw [← hQ'] at hQ
  have := rot_arith P Q x hP hQ (by rw [← e2]; exact h)
  rw [e1, e2, this, Nat.mul_comm x, show 2 * (P * Q) = P * 2 * Q by rw [← Nat.mul_assoc, Nat.mul_comm 2 P], Nat.mul_mod_mul_left, Nat.mul_comm P 2]
theorem turnT_rotA (x : Nat) (h : x < 4294967296) : ∀ n, n ≤ 16 → turnT x n = rotA x n
  | 0, _ => by unfold turnT rotA; simp only [Nat.reducePow, Nat.reduceSub]; omega
  | n + 1, hn => by
    show turn1 (turnT x n) = _
    rw [turnT_rotA x h n (by omega), rotA_step x n h (by omega)]
theorem turnT_rotl (x n : Nat) (h : x < 4294967296) (hn : n ≤ 16) : turnT x n = rotl x n := by rw [turnT_rotA x h n hn, rotl_add x n h (by omega)]

/-- The four words of a quarter. -/
def qa (a b c d : Nat) : Nat := (a + b) % 4294967296
def qd (a b c d : Nat) : Nat := rotl (d ^^^ qa a b c d) 16
def qc (a b c d : Nat) : Nat := (c + qd a b c d) % 4294967296
def qb (a b c d : Nat) : Nat := rotl (b ^^^ qc a b c d) 12
def qa2 (a b c d : Nat) : Nat := (qa a b c d + qb a b c d) % 4294967296
def qd2 (a b c d : Nat) : Nat := rotl (qd a b c d ^^^ qa2 a b c d) 8
def qc2 (a b c d : Nat) : Nat := (qc a b c d + qd2 a b c d) % 4294967296
def qb2 (a b c d : Nat) : Nat := rotl (qb a b c d ^^^ qc2 a b c d) 7
theorem xor_lt32 {m n : Nat} (h : m < 4294967296) (h' : n < 4294967296) : m ^^^ n < 4294967296 := Nat.xor_lt_two_pow (n := 32) h h'
structure Four (a b c d : Nat) : Prop where
  a : a < 4294967296
  b : b < 4294967296
  c : c < 4294967296
  d : d < 4294967296
theorem four_q {a b c d : Nat} (h : Four a b c d) : Four (qa a b c d) (qb a b c d) (qc a b c d) (qd a b c d) := by
  have ha : qa a b c d < 4294967296 := Nat.mod_lt _ (by decide)
  have hd : qd a b c d < 4294967296 := rotl_lt _ _ (xor_lt32 h.d ha)
  have hc : qc a b c d < 4294967296 := Nat.mod_lt _ (by decide)
  exact ⟨ha, rotl_lt _ _ (xor_lt32 h.b hc), hc, hd⟩
theorem four_q2 {a b c d : Nat} (h : Four a b c d) : Four (qa2 a b c d) (qb2 a b c d) (qc2 a b c d) (qd2 a b c d) := by
  have h1 := four_q h
  have ha : qa2 a b c d < 4294967296 := Nat.mod_lt _ (by decide)
  have hd : qd2 a b c d < 4294967296 := rotl_lt _ _ (xor_lt32 h1.d ha)
  have hc : qc2 a b c d < 4294967296 := Nat.mod_lt _ (by decide)
  exact ⟨ha, rotl_lt _ _ (xor_lt32 h1.b hc), hc, hd⟩
/-- Sixteen words. -/
structure Ws (w : List Nat) : Prop where
  len : w.length = 16
  lt : ∀ (i x : Nat), w[i]? = some x → x < 4294967296
theorem Ws.get {w : List Nat} (h : Ws w) (i : Nat) (hi : i < 16) : w[i]? = some (w.getD i 0) := by
  rw [List.getD_eq_getElem?_getD, List.getElem?_eq_getElem (by have := h.len; omega)]
  rfl
theorem Ws.small {w : List Nat} (h : Ws w) (i : Nat) : w.getD i 0 < 4294967296 := by
  rw [List.getD_eq_getElem?_getD]
  cases e : w[i]? with
  | none => decide
  | some x => exact h.lt i x e
theorem Ws.set {w : List Nat} (h : Ws w) (i x : Nat) (hx : x < 4294967296) : Ws (w.set i x) := by
  refine ⟨by rw [List.length_set]; exact h.len, fun j y hy => ?_⟩
  rw [List.getElem?_set] at hy
  split at hy
  · split at hy
    · cases hy; exact hx
    · cases hy
  · exact h.lt j y hy
/-- A quarter of four words of some. -/
def qL (w : List Nat) (i j k l : Nat) : List Nat :=
  (((w.set i (qa2 (w.getD i 0) (w.getD j 0) (w.getD k 0) (w.getD l 0))).set j (qb2 (w.getD i 0) (w.getD j 0) (w.getD k 0) (w.getD l 0))).set k (qc2 (w.getD i 0) (w.getD j 0) (w.getD k 0) (w.getD l 0))).set l (qd2 (w.getD i 0) (w.getD j 0) (w.getD k 0) (w.getD l 0))
theorem Ws.four {w : List Nat} (h : Ws w) (i j k l : Nat) : Four (w.getD i 0) (w.getD j 0) (w.getD k 0) (w.getD l 0) := ⟨h.small i, h.small j, h.small k, h.small l⟩
theorem Ws.q {w : List Nat} (h : Ws w) (i j k l : Nat) : Ws (qL w i j k l) := by
  have f := four_q2 (h.four i j k l)
  unfold qL
  exact (((h.set i _ f.a).set j _ f.b).set k _ f.c).set l _ f.d
/-- The first four quarters, one by one, and the other ones. -/
def colL (w : List Nat) : Nat → List Nat
  | 0 => w
  | i + 1 => qL (colL w i) i (i + 4) (i + 8) (i + 12)
def diaL (w : List Nat) : Nat → List Nat
  | 0 => w
  | i + 1 => qL (diaL w i) i ((i + 1) % 4 + 4) ((i + 2) % 4 + 8) ((i + 3) % 4 + 12)
def dblL (w : List Nat) : List Nat := diaL (colL w 4) 4
def mixT (w : List Nat) : Nat → List Nat
  | 0 => w
  | n + 1 => dblL (mixT w n)
theorem Ws.col {w : List Nat} (h : Ws w) : ∀ i, Ws (colL w i)
  | 0 => h
  | i + 1 => (h.col i).q _ _ _ _
theorem Ws.dia {w : List Nat} (h : Ws w) : ∀ i, Ws (diaL w i)
  | 0 => h
  | i + 1 => (h.dia i).q _ _ _ _
theorem Ws.dbl {w : List Nat} (h : Ws w) : Ws (dblL w) := (h.col 4).dia 4
theorem Ws.mix {w : List Nat} (h : Ws w) : ∀ n, Ws (mixT w n)
  | 0 => h
  | n + 1 => (h.mix n).dbl
/-- A word of four bytes, the lowest first: of the first m of them. -/
def part (b : List Nat) (j : Nat) : Nat → Nat
  | 0 => 0
  | m + 1 => part b j m + b.getD (4 * j + m) 0 * 256 ^ m
theorem byte_getD {b : List Nat} (h : Bytes b) (i : Nat) : b.getD i 0 < 256 := by
  rw [List.getD_eq_getElem?_getD]
  cases e : b[i]? with
  | none => decide
  | some x => exact h i x e
theorem part_lt (b : List Nat) (h : Bytes b) (j : Nat) : ∀ m, part b j m < 256 ^ m
  | 0 => by show 0 < 1; decide
  | m + 1 => by
    have h1 := part_lt b h j m
    have h2 : b.getD (4 * j + m) 0 * 256 ^ m ≤ 255 * 256 ^ m := Nat.mul_le_mul_right _ (by have := byte_getD h (4 * j + m); omega)
    show part b j m + b.getD (4 * j + m) 0 * 256 ^ m < _
    rw [Nat.pow_succ]
    omega
def wsL (b : List Nat) (n : Nat) : List Nat := (List.range n).map fun j => part b j 4
theorem wsL_len (b : List Nat) (n : Nat) : (wsL b n).length = n := by simp [wsL]
theorem wsL_lt (b : List Nat) (h : Bytes b) (n : Nat) : ∀ (i x : Nat), (wsL b n)[i]? = some x → x < 4294967296 := fun i x hx => by
  unfold wsL at hx
  rw [List.getElem?_map] at hx
  obtain ⟨y, _, rfl⟩ := Option.map_eq_some_iff.1 hx
  exact part_lt b h y 4
def nameL : List Nat := [101, 120, 112, 97, 110, 100, 32, 51, 50, 45, 98, 121, 116, 101, 32, 107]
theorem nameL_bytes : Bytes nameL := fun i x hx => by
  have h : ∀ y ∈ nameL, y < 256 := by decide
  exact h x (List.mem_of_getElem? hx)
/-- The words of a block at first. -/
def frstL (key nonce : List Nat) (count : Nat) : List Nat := wsL (nameL ++ key) 12 ++ [count] ++ wsL nonce 3
theorem Ws.frst {key nonce : List Nat} {count : Nat} (hk : Bytes key) (hn : Bytes nonce) (hc : count < 4294967296) : Ws (frstL key nonce count) := by
  refine ⟨by simp [frstL, wsL_len], fun i x hx => ?_⟩
  unfold frstL at hx
  rw [List.getElem?_append] at hx
  split at hx
  · rw [List.getElem?_append] at hx
    split at hx
    · exact wsL_lt _ (nameL_bytes.append hk) 12 i x hx
    · have : x ∈ [count] := List.mem_of_getElem? hx
      simp at this
      omega
  · exact wsL_lt _ hn 3 _ x hx
theorem Ws.plus {a b : List Nat} (ha : Ws a) (hb : Ws b) : Ws (plusL a b) := by
  refine ⟨by rw [plusL_len a b (by rw [ha.len, hb.len]), ha.len], fun i x hx => ?_⟩
  unfold plusL at hx
  rw [List.getElem?_zipWith] at hx
  split at hx
  · cases hx
    exact Nat.mod_lt _ (by decide)
  · cases hx
/-- The words one behind the other, the lowest byte of each first. -/
def leL (s : List Nat) : List Nat := (List.range 64).map fun i => s.getD (i / 4) 0 / 2 ^ (i % 4 * 8) % 256
theorem leL_len (s : List Nat) : (leL s).length = 64 := by simp [leL]
theorem leL_bytes (s : List Nat) : Bytes (leL s) := fun i x hx => by
  unfold leL at hx
  rw [List.getElem?_map] at hx
  obtain ⟨y, _, rfl⟩ := Option.map_eq_some_iff.1 hx
  exact Nat.mod_lt _ (by decide)
theorem leL_get (s : List Nat) (i x : Nat) (hi : i < 64) (hx : s[i / 4]? = some x) : (leL s)[i]? = some (x / 2 ^ (i % 4 * 8) % 256) := by
  simp [leL, hi, hx]
/-- The block of a key, a nonce and a count. -/
def blockL (key nonce : List Nat) (count : Nat) : List Nat := leL (plusL (frstL key nonce count) (mixT (frstL key nonce count) 10))
theorem blockL_len (key nonce : List Nat) (count : Nat) : (blockL key nonce count).length = 64 := leL_len _
theorem blockL_bytes (key nonce : List Nat) (count : Nat) : Bytes (blockL key nonce count) := leL_bytes _
/-- The byte of the blocks at a place. -/
def padB (key nonce : List Nat) (count i : Nat) : Nat := (blockL key nonce (count + i / 64)).getD (i % 64) 0
theorem padB_lt (key nonce : List Nat) (count i : Nat) : padB key nonce count i < 256 := byte_getD (blockL_bytes _ _ _) _
/-- Bytes turned by blocks. -/
def encL (key nonce : List Nat) (count : Nat) (b : List Nat) : List Nat := (List.range b.length).map fun i => b.getD i 0 ^^^ padB key nonce count i
theorem encL_len (key nonce : List Nat) (count : Nat) (b : List Nat) : (encL key nonce count b).length = b.length := by simp [encL]
theorem encL_get (key nonce : List Nat) (count : Nat) (b : List Nat) (i x : Nat) (h : b[i]? = some x) : (encL key nonce count b)[i]? = some (x ^^^ padB key nonce count i) := by
  have hi : i < b.length := (List.getElem?_eq_some_iff.1 h).1
  simp [encL, hi]
  have := (List.getElem?_eq_some_iff.1 h).2
  rw [this]
theorem encL_bytes (key nonce : List Nat) (count : Nat) {b : List Nat} (h : Bytes b) : Bytes (encL key nonce count b) := fun i x hx => by
  unfold encL at hx
  rw [List.getElem?_map] at hx
  obtain ⟨y, _, rfl⟩ := Option.map_eq_some_iff.1 hx
  exact xor_lt8 (byte_getD h _) (padB_lt _ _ _ _)
/-- Turned twice bytes are as they were. -/
theorem encL_back (key nonce : List Nat) (count : Nat) (b : List Nat) : encL key nonce count (encL key nonce count b) = b := by
  apply List.ext_getElem?
  intro i
  by_cases hi : i < b.length
  · have e : b[i]? = some b[i] := List.getElem?_eq_getElem hi
    rw [encL_get _ _ _ _ i _ (encL_get _ _ _ b i _ e), e, Nat.xor_assoc, Nat.xor_self, Nat.xor_zero]
  · rw [List.getElem?_eq_none (by rw [encL_len, encL_len]; omega), List.getElem?_eq_none (by omega)]
theorem encL_take (key nonce : List Nat) (count : Nat) (b : List Nat) (k : Nat) : encL key nonce count (b.take k) = (encL key nonce count b).take k := by
  apply List.ext_getElem?
  intro i
  rw [List.getElem?_take]
  by_cases hi : i < b.length
  · have e : b[i]? = some b[i] := List.getElem?_eq_getElem hi
    split
    next h =>
      rw [encL_get _ _ _ b i _ e]
      exact encL_get _ _ _ _ i _ (by rw [List.getElem?_take_of_lt h, e])
    next h => exact List.getElem?_eq_none (by rw [encL_len, List.length_take]; omega)
  · rw [List.getElem?_eq_none (by rw [encL_len, List.length_take]; omega)]
    split
    · rw [List.getElem?_eq_none (by rw [encL_len]; omega)]
    · rfl
theorem encL_drop (key nonce : List Nat) (count : Nat) (b : List Nat) (m : Nat) : encL key nonce (count + m) (b.drop (64 * m)) = (encL key nonce count b).drop (64 * m) := by
  apply List.ext_getElem?
  intro i
  rw [List.getElem?_drop]
  by_cases hi : 64 * m + i < b.length
  · have e : b[64 * m + i]? = some b[64 * m + i] := List.getElem?_eq_getElem hi
    rw [encL_get _ _ _ b _ _ e, encL_get _ _ _ _ i b[64 * m + i] (by rw [List.getElem?_drop, e])]
    unfold padB
    rw [show (64 * m + i) % 64 = i % 64 by omega, show count + m + i / 64 = count + (64 * m + i) / 64 by omega]
  · rw [List.getElem?_eq_none (by rw [encL_len, List.length_drop]; omega), List.getElem?_eq_none (by rw [encL_len]; omega)]
end Go.Proofs.YtniogaimhkcedaaDoor.sh
/-
  A word turned, and a quarter, by the program.
-/
namespace Go.Proofs.YtniogaimhkcedaaDoor.sh
open Go Go.RowKit
set_option linter.unusedVariables false
set_option linter.unusedSimpArgs false

theorem run_conv3u {o : Oper} {a : Act} {x : Operand} {m : Nat} (ho : o.op = .convert 3 93 x) (hx : a.eval x = .int .i64 (m : Int)) (hm : m < 4611686018427387904) (w : World) : (execOp a.eval o).run Tryd.prog w = .ok (.value (.int .u64 (m : Int))) w := by
  unfold execOp
  simp only [ho, hx]
  simp [go_sem, IntKind.wrap_u64]
  omega
theorem run_and31 {o : Oper} {a : Act} {x : Operand} {m : Nat} (ho : o.op = .binOp .and 93 x (.const (.int .u64 31)) 93) (hx : a.eval x = .int .u64 (m : Int)) (hm : m < 32) (w : World) : (execOp a.eval o).run Tryd.prog w = .ok (.value (.int .u64 (m : Int))) w := by
  have e3 : a.eval (.const (.int .u64 31)) = .int .u64 31 := rfl
  have h := u64_and_nat m 31 (by omega) (by decide)
  rw [nat_mask5, Nat.mod_eq_of_lt hm] at h
  unfold execOp
  simp only [ho, hx, e3]
  simp [go_sem]
  exact h
theorem results_tmp4 {fn : Func} {t u v x : Tmp} (h : fn.results = #[.tmp t, .tmp u, .tmp v, .tmp x]) (tmps : Array Value) (P : Program) (w : World) :
    (results fn tmps).run P w = .ok (.tuple #[tmps.getD t undef, tmps.getD u undef, tmps.getD v undef, tmps.getD x undef]) w := by
  simp [results, h]

end Go.Proofs.YtniogaimhkcedaaDoor.sh
/-
  All rounds of a block, by the program.
-/
namespace Go.Proofs.YtniogaimhkcedaaDoor.sh
open Go Go.RowKit
set_option linter.unusedVariables false
set_option linter.unusedSimpArgs false

theorem dblL_eight {X0 X1 X2 X3 X4 X5 X6 X7 X8 : List Nat} (E0 : X1 = qL X0 0 4 8 12) (E1 : X2 = qL X1 1 5 9 13) (E2 : X3 = qL X2 2 6 10 14) (E3 : X4 = qL X3 3 7 11 15) (E4 : X5 = qL X4 0 5 10 15) (E5 : X6 = qL X5 1 6 11 12) (E6 : X7 = qL X6 2 7 8 13) (E7 : X8 = qL X7 3 4 9 14) : X8 = dblL X0 := by
  rw [E7, E6, E5, E4, E3, E2, E1, E0]
  rfl
end Go.Proofs.YtniogaimhkcedaaDoor.sh
/-
  The words' sums, and their bytes, by the program.
-/
namespace Go.Proofs.YtniogaimhkcedaaDoor.sh
open Go Go.RowKit
set_option linter.unusedVariables false
set_option linter.unusedSimpArgs false

theorem z64_eq : (#[.int .u8 0, .int .u8 0, .int .u8 0, .int .u8 0, .int .u8 0, .int .u8 0, .int .u8 0, .int .u8 0, .int .u8 0, .int .u8 0, .int .u8 0, .int .u8 0, .int .u8 0, .int .u8 0, .int .u8 0, .int .u8 0, .int .u8 0, .int .u8 0, .int .u8 0, .int .u8 0, .int .u8 0, .int .u8 0, .int .u8 0, .int .u8 0, .int .u8 0, .int .u8 0, .int .u8 0, .int .u8 0, .int .u8 0, .int .u8 0, .int .u8 0, .int .u8 0, .int .u8 0, .int .u8 0, .int .u8 0, .int .u8 0, .int .u8 0, .int .u8 0, .int .u8 0, .int .u8 0, .int .u8 0, .int .u8 0, .int .u8 0, .int .u8 0, .int .u8 0, .int .u8 0, .int .u8 0, .int .u8 0, .int .u8 0, .int .u8 0, .int .u8 0, .int .u8 0, .int .u8 0, .int .u8 0, .int .u8 0, .int .u8 0, .int .u8 0, .int .u8 0, .int .u8 0, .int .u8 0, .int .u8 0, .int .u8 0, .int .u8 0, .int .u8 0] : Array Value) = ints .u8 (List.replicate 64 0) := by kernel_rfl
end Go.Proofs.YtniogaimhkcedaaDoor.sh
/-
  Words of bytes, by the program.
-/
namespace Go.Proofs.YtniogaimhkcedaaDoor.sh
open Go Go.RowKit
set_option linter.unusedVariables false
set_option linter.unusedSimpArgs false

/-- The words behind the first i bytes. -/
def rdT (b : List Nat) : Nat → List Nat
  | 0 => List.replicate 16 0
  | i + 1 => (rdT b i).set (i / 4) ((rdT b i).getD (i / 4) 0 ||| b.getD i 0 * 2 ^ (i % 4 * 8))
theorem rdT_len (b : List Nat) : ∀ i, (rdT b i).length = 16
  | 0 => by simp [rdT]
  | i + 1 => by simp [rdT, rdT_len b i]
theorem pow256 (t : Nat) : 2 ^ (t * 8) = 256 ^ t := by rw [Nat.mul_comm, Nat.pow_mul]
theorem rdT_get (b : List Nat) (hb : Bytes b) : ∀ i, i ≤ 64 → ∀ j, j < 16 → (rdT b i).getD j 0 = part b j (min 4 (i - 4 * j))
  | 0, _, j, hj => by
    show (List.replicate 16 0).getD j 0 = part b j (min 4 (0 - 4 * j))
    rw [Nat.zero_sub, Nat.min_zero, List.getD_eq_getElem?_getD, List.getElem?_replicate]
    split <;> rfl
  | i + 1, hi, j, hj => by
    have ih := rdT_get b hb i (by omega)
    show ((rdT b i).set (i / 4) ((rdT b i).getD (i / 4) 0 ||| b.getD i 0 * 2 ^ (i % 4 * 8))).getD j 0 = _
    rw [List.getD_eq_getElem?_getD, List.getElem?_set]
    by_cases h : i / 4 = j
    · rw [if_pos h, if_pos (by rw [rdT_len]; omega)]
      subst h
      have e1 : min 4 (i - 4 * (i / 4)) = i % 4 := by omega
      have e2 : min 4 (i + 1 - 4 * (i / 4)) = i % 4 + 1 := by omega
      rw [Option.getD_some, ih _ hj, e1, e2, pow256]
      show _ = part b (i / 4) (i % 4) + b.getD (4 * (i / 4) + i % 4) 0 * 256 ^ (i % 4)
      have hl := part_lt b hb (i / 4) (i % 4)
      rw [show 4 * (i / 4) + i % 4 = i by omega, ← pow256, Nat.mul_comm _ (2 ^ (i % 4 * 8)), Nat.or_comm]
      rw [← pow256] at hl
      rw [← Nat.two_pow_add_eq_or_of_lt hl, Nat.add_comm]
    · rw [if_neg h, ← List.getD_eq_getElem?_getD, ih j hj]
      congr 1
      omega
theorem rdT_all (b : List Nat) (hb : Bytes b) : rdT b 64 = wsL b 16 := by
  apply List.ext_getElem?
  intro j
  by_cases hj : j < 16
  · have h := rdT_get b hb 64 (Nat.le_refl _) j hj
    rw [show min 4 (64 - 4 * j) = 4 by omega, List.getD_eq_getElem?_getD, List.getElem?_eq_getElem (by rw [rdT_len]; exact hj), Option.getD_some] at h
    rw [List.getElem?_eq_getElem (by rw [rdT_len]; exact hj), h]
    simp [wsL, hj]
  · rw [List.getElem?_eq_none (by rw [rdT_len]; omega), List.getElem?_eq_none (by rw [wsL_len]; omega)]
theorem rdT_lt (b : List Nat) (hb : Bytes b) (i : Nat) (hi : i ≤ 64) (j : Nat) (hj : j < 16) : (rdT b i).getD j 0 < 4294967296 := by
  rw [rdT_get b hb i hi j hj]
  refine Nat.lt_of_lt_of_le (part_lt b hb j _) ?_
  exact Nat.pow_le_pow_right (n := 256) (by decide) (show _ ≤ 4 from Nat.min_le_left _ _)

theorem run_quo4 {o : Oper} {a : Act} {x : Operand} {i z : Nat} (ho : o.op = .binOp .quo 3 x (.const (.int .i64 4)) 3) (hx : a.eval x = .int .i64 (i : Int)) (hz : z = i / 4) (hi : i < 4611686018427387904) (w : World) : (execOp a.eval o).run Tryd.prog w = .ok (.value (.int .i64 (z : Int))) w := by
  have e3 : a.eval (.const (.int .i64 4)) = .int .i64 4 := rfl
  have h3 : (i : Int).tdiv 4 = (z : Int) := by rw [hz, Int.tdiv_eq_ediv_of_nonneg (by omega)]; omega
  have hz' : z ≤ i := by omega
  unfold execOp
  simp only [ho, hx, e3]
  simp [go_sem, IntKind.wrap_i64, wrap64, h3]
  omega
theorem run_rem4 {o : Oper} {a : Act} {x : Operand} {i z : Nat} (ho : o.op = .binOp .rem 3 x (.const (.int .i64 4)) 3) (hx : a.eval x = .int .i64 (i : Int)) (hz : z = i % 4) (hi : i < 4611686018427387904) (w : World) : (execOp a.eval o).run Tryd.prog w = .ok (.value (.int .i64 (z : Int))) w := by
  have e3 : a.eval (.const (.int .i64 4)) = .int .i64 4 := rfl
  have h3 : (i : Int).tmod 4 = (z : Int) := by rw [hz, Int.tmod_eq_emod_of_nonneg (by omega)]; omega
  unfold execOp
  simp only [ho, hx, e3]
  simp [go_sem, IntKind.wrap_i64, wrap64, h3]
theorem run_quo64 {o : Oper} {a : Act} {x : Operand} {i z : Nat} (ho : o.op = .binOp .quo 3 x (.const (.int .i64 64)) 3) (hx : a.eval x = .int .i64 (i : Int)) (hz : z = i / 64) (hi : i < 4611686018427387904) (w : World) : (execOp a.eval o).run Tryd.prog w = .ok (.value (.int .i64 (z : Int))) w := by
  have e3 : a.eval (.const (.int .i64 64)) = .int .i64 64 := rfl
  have h3 : (i : Int).tdiv 64 = (z : Int) := by rw [hz, Int.tdiv_eq_ediv_of_nonneg (by omega)]; omega
  have hz' : z ≤ i := by omega
  unfold execOp
  simp only [ho, hx, e3]
  simp [go_sem, IntKind.wrap_i64, wrap64, h3]
  omega
theorem run_rem64 {o : Oper} {a : Act} {x : Operand} {i z : Nat} (ho : o.op = .binOp .rem 3 x (.const (.int .i64 64)) 3) (hx : a.eval x = .int .i64 (i : Int)) (hz : z = i % 64) (hi : i < 4611686018427387904) (w : World) : (execOp a.eval o).run Tryd.prog w = .ok (.value (.int .i64 (z : Int))) w := by
  have e3 : a.eval (.const (.int .i64 64)) = .int .i64 64 := rfl
  have h3 : (i : Int).tmod 64 = (z : Int) := by rw [hz, Int.tmod_eq_emod_of_nonneg (by omega)]; omega
  unfold execOp
  simp only [ho, hx, e3]
  simp [go_sem, IntKind.wrap_i64, wrap64, h3]
theorem run_mulK {o : Oper} {a : Act} {x : Operand} {i z : Nat} (c : Nat) (ho : o.op = .binOp .mul 3 x (.const (.int .i64 (c : Int))) 3) (hx : a.eval x = .int .i64 (i : Int)) (hz : z = i * c) (hi : z < 4611686018427387904) (w : World) : (execOp a.eval o).run Tryd.prog w = .ok (.value (.int .i64 (z : Int))) w := by
  have e3 : a.eval (.const (.int .i64 (c : Int))) = .int .i64 (c : Int) := rfl
  unfold execOp
  simp only [ho, hx, e3]
  rw [hz]
  rw [hz] at hi
  have hi' : ((i : Int) * (c : Int)) < 4611686018427387904 := by rw [← Int.natCast_mul]; omega
  have h0 : 0 ≤ ((i : Int) * (c : Int)) := by rw [← Int.natCast_mul]; omega
  simp [go_sem, IntKind.wrap_i64, wrap64]
  omega
theorem run_c832 {o : Oper} {a : Act} {x : Operand} {z : Nat} (ho : o.op = .convert 5 132 x) (hx : a.eval x = .int .u8 (z : Int)) (hz : z < 256) (w : World) : (execOp a.eval o).run Tryd.prog w = .ok (.value (.int .u32 (z : Int))) w := by
  unfold execOp
  simp only [ho, hx]
  simp [go_sem, IntKind.wrap_u32']
  omega
theorem run_shl32 {o : Oper} {a : Act} {x y : Operand} {m c z : Nat} (ho : o.op = .binOp .shl 132 x y 3) (hx : a.eval x = .int .u32 (m : Int)) (hy : a.eval y = .int .i64 (c : Int)) (hc : c < 32) (hz : z = m * 2 ^ c % 4294967296) (w : World) : (execOp a.eval o).run Tryd.prog w = .ok (.value (.int .u32 (z : Int))) w := by
  have e : ((m : Int) * 2 ^ c % 4294967296) = ((m * 2 ^ c % 4294967296 : Nat) : Int) := by rw [Int.natCast_emod, Int.natCast_mul, Int.natCast_pow]; rfl
  have e2 : min c 32 = c := by omega
  unfold execOp
  simp only [ho, hx, hy]
  rw [hz, ← e]
  clear hz e
  simp [go_sem, Op.shift, IntKind.bits, e2, IntKind.wrap_u32']
theorem run_or32 {o : Oper} {a : Act} {x y : Operand} {m n z : Nat} (ho : o.op = .binOp .or 132 x y 132) (hx : a.eval x = .int .u32 (m : Int)) (hy : a.eval y = .int .u32 (n : Int)) (hm : m < 4294967296) (hn : n < 4294967296) (hz : z = m ||| n) (w : World) : (execOp a.eval o).run Tryd.prog w = .ok (.value (.int .u32 (z : Int))) w := by
  have h := u32_or_nat m n hm hn
  unfold execOp
  simp only [ho, hx, hy]
  simp [go_sem, h, hz]
theorem run_index {o : Oper} {a : Act} {x y : Operand} {i len v : Nat} {k : IntKind} {t e : TypeId} {L : List Nat} (ho : o.op = .index t x y) (hx : a.eval x = .agg (ints k L)) (hy : a.eval y = .int .i64 (i : Int)) (ht : Tryd.prog.underlying t = some (.array len e)) (hl : L.length = len) (hv : L[i]? = some v) (ag : ∀ w, (isAgg e).run Tryd.prog w = .ok false w) (sz : ∀ w, (sizeOf e).run Tryd.prog w = .ok 1 w) (w : World) : (execOp a.eval o).run Tryd.prog w = .ok (.value (.int k (v : Int))) w := by
  have hi : i < len := by rw [← hl]; exact (List.getElem?_eq_some_iff.1 hv).1
  have h1 : ((i : Int) < (len : Int)) := by omega
  have h2 : (ints k L)[i]? = some (.int k (v : Int)) := ints_get hv
  unfold execOp
  simp only [ho, hx, hy]
  simp [asIntOf, run_underlying ht, h1, sz, ag, go_sem, Instr.index, hi, h2]

theorem z16_eq : (#[.int .u32 0, .int .u32 0, .int .u32 0, .int .u32 0, .int .u32 0, .int .u32 0, .int .u32 0, .int .u32 0, .int .u32 0, .int .u32 0, .int .u32 0, .int .u32 0, .int .u32 0, .int .u32 0, .int .u32 0, .int .u32 0] : Array Value) = ints .u32 (List.replicate 16 0) := by kernel_rfl
end Go.Proofs.YtniogaimhkcedaaDoor.sh
