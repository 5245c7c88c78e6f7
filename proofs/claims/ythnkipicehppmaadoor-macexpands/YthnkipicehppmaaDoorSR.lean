/-
  Regions that draw their order: a quiet head and a tail that waits for it, one through another; and heads whose values are known by what holds of them alone (fresh slices among them).
-/
import Derived.Test.YthnkipicehppmaaDoorSetB
import Derived.Test.YthnkipicehppmaaDoorFree
namespace Go.Proofs.YthnkipicehppmaaDoor.sh
open Go Go.RowKit
set_option linter.unusedVariables false
set_option linter.unusedSimpArgs false

theorem closed_none (h : List Oper) : Closed h (Array.replicate h.length false) := by
  intro i o ho hl
  exfalso
  rw [Array.getD_eq_getD_getElem?, Array.getElem?_replicate] at hl
  split at hl <;> simp at hl

/-- One walk of the head in the order of the text, then the tail, which waits for all of the head, one through another. -/
theorem wp_region_quiet_under {P : Program} {Q : Exit → Act → World → Prop} {id : Nat} {C : World → Prop} {a : Act} {w : World} (n : Nat) {l : List Oper} (hm : P.follows .mixedOrders = true) (hB : Region.lexB .any (l.take n).toArray = true)
    (hE : edgesIn (l.take n) = true) (hG : guardsIn (l.take n) = true) (hT : tailUnder (l.take n) (l.drop n) = true)
    (hS : Region.seqB .any l.toArray (l.drop n).length (l.take n).length (Array.replicate (l.take n).length true ++ Array.replicate (l.drop n).length false) = true)
    (hC : C { w with drawn := w.drawn + 1 })
    (H : wpQuiet P (l.take n).toArray C (fun a' => ∀ w', C w' → wpList P l.toArray Q (l.drop n) a' w') (l.take n) a) : (Code.region id l.toArray true).wp P Q a w := by
  have e : l.take n ++ l.drop n = l := List.take_append_drop n l
  refine wp_region_any hm ?_
  simp only [Region.lexB, Bool.and_eq_true] at hB
  have h1 := wpAnyQ_lex (P := P) (C := C) (md := .any) hB.1 (l.take n) 0 (Array.replicate (l.take n).length false) a (by simp) (by simpa using hB.2) H
  have h2 := wpAny_of_quiet (Q' := headPost P (l.take n ++ l.drop n).toArray Q (l.drop n)) (fun _ w' hw' hh => by rw [e]; exact hh w' hw') _ _ _ _ hC h1
  have h3 := lift_under (Q := Q) hE hG hT (by rw [e]; exact hS) (l.take n).length (Array.replicate (l.take n).length false) a _ (by simp) (by simp [open_]) (closed_none _) h2
  rw [e] at h3
  have e1 : l.toArray.size = (l.take n).length + (l.drop n).length := by rw [← List.length_append, e]; simp
  rw [e1, show Array.replicate ((l.take n).length + (l.drop n).length) false = Array.replicate (l.take n).length false ++ Array.replicate (l.drop n).length false by simp]
  exact h3

/-- An invariant of what is listed, the frame and the world carries any order. -/
theorem wpAny_inv {P : Program} {Q : Exit → Act → World → Prop} {l : List Oper} (I : Array Bool → Act → World → Prop) (hE : edgesIn l = true)
    (hstep : ∀ listed a w i o, listed.size = l.length → I listed a w → l[i]? = some o → listed.getD i true = false → (∀ e ∈ o.after, Region.binds .any e = true → listed.getD e.on false = true) →
      Region.wanted o (yielded l.toArray a.tmps) = true ∧ o.wp P a w (fun a' w' => I (listed.setIfInBounds i true) a' w') Q)
    (hdone : ∀ a w, I (Array.replicate l.length true) a w → Q .normal a w) :
    ∀ (fuel : Nat) (listed : Array Bool) (a : Act) (w : World), listed.size = l.length → open_ listed = fuel → I listed a w → wpAny P .any l.toArray Q fuel listed a w
  | 0, listed, a, w, hs, ho, hI => by
    have ha := all_true ho
    rw [hs] at ha
    refine ⟨?_, hdone a w (by rw [← ha]; exact hI)⟩
    rw [List.eq_nil_iff_forall_not_mem]
    intro j hj
    obtain ⟨h1, o, h2, _⟩ := mem_ready.1 hj
    have hl : j < l.length := by
      have := (Array.getElem?_eq_some_iff.1 h2).1
      simpa using this
    rw [ha] at h1
    simp [hl] at h1
  | f + 1, listed, a, w, hs, ho, hI => by
    refine ⟨fun hr => ?_, fun i hi => ?_⟩
    · obtain ⟨i, h1, h2⟩ := least_open (listed := listed) (by omega)
      have hil : i < l.length := by
        rcases Nat.lt_or_ge i l.length with h' | h'
        · exact h'
        · have : listed.size ≤ i := by omega
          simp [Array.getElem?_eq_none this] at h1
      have hm : i ∈ Region.ready .any l.toArray listed := mem_ready.2 ⟨h1, l[i], by simp [hil], fun e he hb => h2 _ (edge_lt hE (List.getElem?_eq_getElem hil) he hb)⟩
      rw [hr] at hm
      cases hm
    · obtain ⟨h1, o, h2, h3⟩ := mem_ready.1 hi
      have h2' : l[i]? = some o := by simpa using h2
      obtain ⟨hw, hwp⟩ := hstep listed a w i o hs hI h2' h1 h3
      unfold wpOp
      simp only [h2, hw, if_true]
      left
      refine Oper.wp_mono (fun a' w' h => ?_) hwp
      exact wpAny_inv I hE hstep hdone f _ a' w' (by simpa using hs) (by have := open_set h1; omega) h

structure Fr (h : List Oper) (A0 a : Act) : Prop where
  size : a.tmps.size = A0.tmps.size
  defers : a.defers = A0.defers
  out : ∀ d, (∀ (i : Nat) (o : Oper), h[i]? = some o → o.dst ≠ some d) → a.tmps[d]? = A0.tmps[d]?

/-- What the operation waits for is there, and what is asked of it holds. -/
def Got (h : List Oper) (R : Nat → Value → World → Prop) (a : Act) (w : World) (o : Oper) : Prop := ∀ e ∈ o.after, Region.binds .any e = true → ∀ (o' : Oper) (d : Nat), h[e.on]? = some o' → o'.dst = some d → ∃ v, a.tmps[d]? = some v ∧ R d v w

/-- What is asked of each operation. -/
def RelOk (P : Program) (h : List Oper) (A0 : Act) (W0 : World) (R : Nat → Value → World → Prop) (o : Oper) : Prop := ∃ d, o.dst = some d ∧ ∀ a w, Fr h A0 a → Below W0.heap.size W0 w → Got h R a w o →
  Region.wanted o (yielded h.toArray a.tmps) = true ∧ o.wp P a w (fun a' w' => ∃ v, a' = a.put (some d) v ∧ R d v w' ∧ Below w.heap.size w w') (fun _ _ _ => False)
def RelAll (P : Program) (h : List Oper) (A0 : Act) (W0 : World) (R : Nat → Value → World → Prop) : List Oper → Prop
  | [] => True
  | o :: r => RelOk P h A0 W0 R o ∧ RelAll P h A0 W0 R r
theorem relAll_mem {P : Program} {h : List Oper} {A0 : Act} {W0 : World} {R : Nat → Value → World → Prop} : ∀ (r : List Oper), RelAll P h A0 W0 R r → ∀ o ∈ r, RelOk P h A0 W0 R o
  | [], _, o, ho => by cases ho
  | x :: r, hr, o, ho => by
    rcases List.mem_cons.1 ho with h1 | h1
    · rw [h1]; exact hr.1
    · exact relAll_mem r hr.2 o h1

theorem wp_false {P : Program} {o : Oper} {a : Act} {w : World} {K K' : Act → World → Prop} {Q : Exit → Act → World → Prop} (hK : ∀ a w, K a w → K' a w) (h : o.wp P a w K (fun _ _ _ => False)) : o.wp P a w K' Q := by
  unfold Oper.wp at *
  generalize (execOp a.eval o).run P w = r at *
  cases r with
  | ok x w' =>
    cases x with
    | value v => exact hK _ _ h
    | skip => exact hK _ _ h
    | defer d => exact hK _ _ h
    | enter f args =>
      refine Calls.mono h ?_
      intro e w'' hr
      cases e with
      | returned v => exact hK _ _ hr
      | panicked c => exact hr.elim
      | outgrown => obtain ⟨_, _, h⟩ := hr; exact h.elim
    | row r args => exact Rows.mono h fun v w'' hr => hK _ _ hr
    | _ => exact h.elim
  | halt x w' =>
    cases x <;> exact h.elim

def putR (a : Act) (vals : List (Nat × Value)) : Act := vals.foldl (fun a p => a.put (some p.1) p.2) a
theorem putR_size : ∀ (vals : List (Nat × Value)) (a : Act), (putR a vals).tmps.size = a.tmps.size
  | [], a => rfl
  | p :: r, a => by show (putR (a.put (some p.1) p.2) r).tmps.size = _; rw [putR_size r, size_put]
theorem putR_defers : ∀ (vals : List (Nat × Value)) (a : Act), (putR a vals).defers = a.defers
  | [], a => rfl
  | p :: r, a => by show (putR (a.put (some p.1) p.2) r).defers = _; rw [putR_defers r]; rfl
theorem putR_get (f : Nat → Value) (d : Nat) : ∀ (ds : List Nat) (a : Act), d < a.tmps.size → (putR a (ds.map fun d => (d, f d))).tmps[d]? = if d ∈ ds then some (f d) else a.tmps[d]?
  | [], a, _ => by simp [putR]
  | x :: r, a, h => by
    show (putR (a.put (some x) (f x)) (r.map fun d => (d, f d))).tmps[d]? = _
    rw [putR_get f d r _ (by rw [size_put]; exact h)]
    by_cases h1 : d ∈ r
    · rw [if_pos h1, if_pos (List.mem_cons_of_mem _ h1)]
    · rw [if_neg h1]
      by_cases h2 : d = x
      · subst h2
        rw [if_pos List.mem_cons_self]
        simp [Act.put, h]
      · rw [if_neg (by simp [h1, h2])]
        simp [Act.put, Array.getElem?_setIfInBounds_ne (Ne.symm h2)]
theorem act_eq {a b : Act} (h1 : a.tmps = b.tmps) (h2 : a.defers = b.defers) : a = b := by cases a; cases b; simp_all

def dstsOf (h : List Oper) : List Nat := h.filterMap (·.dst)

/-- A region that draws its order, whose first n operations each make a value of which something holds, and whose last ones wait for all of those. -/
theorem region_rel {P : Program} {Q : Exit → Act → World → Prop} {id : Nat} {a : Act} {w : World} (W0 : World) (n : Nat) {l : List Oper} (R : Nat → Value → World → Prop) (ds : List Nat) (hm : P.follows .mixedOrders = true)
    (hE : edgesIn (l.take n) = true) (hG : guardsIn (l.take n) = true) (hA : dstsApart (l.take n) 0 = true) (hI : dstsIn (l.take n) a.tmps.size = true) (hT : tailUnder (l.take n) (l.drop n) = true)
    (hS : Region.seqB .any l.toArray (l.drop n).length (l.take n).length (Array.replicate (l.take n).length true ++ Array.replicate (l.drop n).length false) = true)
    (hds : dstsOf (l.take n) = ds) (hst : ∀ d v w w', R d v w → Below W0.heap.size W0 w → Below w.heap.size w w' → R d v w') (hw : Below W0.heap.size W0 w)
    (hok : RelAll P (l.take n) a W0 R (l.take n))
    (hfin : ∀ (f : Nat → Value) w', (∀ d ∈ ds, R d (f d) w') → Below W0.heap.size W0 w' → wpList P l.toArray Q (l.drop n) (putR a (ds.map fun d => (d, f d))) w') : (Code.region id l.toArray true).wp P Q a w := by
  have e : l.take n ++ l.drop n = l := List.take_append_drop n l
  refine wp_region_any hm ?_
  generalize hh : l.take n = h at *
  have main := wpAny_inv (P := P) (l := h) (Q := headPost P (h ++ l.drop n).toArray Q (l.drop n))
    (fun listed a' w' => Fr h a a' ∧ Below W0.heap.size W0 w' ∧ ∀ i o d, h[i]? = some o → listed.getD i false = true → o.dst = some d → ∃ v, a'.tmps[d]? = some v ∧ R d v w') hE
    (by
      intro listed a' w' i o hls hI' ho hun hall
      obtain ⟨hF, hB, hV⟩ := hI'
      have hil : i < listed.size := by rw [hls]; exact (List.getElem?_eq_some_iff.1 ho).1
      obtain ⟨d, hd, hrun⟩ := relAll_mem h hok o (List.mem_of_getElem? ho)
      obtain ⟨hwant, hwp⟩ := hrun a' w' hF hB (fun x hx hb o' d' ho' hd' => hV x.on o' d' ho' (hall x hx hb) hd')
      refine ⟨hwant, wp_false ?_ hwp⟩
      rintro a2 w2 ⟨v, rfl, hR, hb⟩
      have hdl : d < a'.tmps.size := by
        have := List.all_eq_true.1 hI o (List.mem_of_getElem? ho)
        rw [hd] at this
        rw [hF.size]
        simpa using this
      have hother : ∀ d', d' ≠ d → (a'.put (some d) v).tmps[d']? = a'.tmps[d']? := fun d' hne => by simp [Act.put, Array.getElem?_setIfInBounds_ne (Ne.symm hne)]
      refine ⟨⟨by rw [size_put]; exact hF.size, hF.defers, fun d' h' => ?_⟩, hB.trans (hb.mono hB.size), fun k o' d' hk hon hd' => ?_⟩
      · rw [hother d' (fun e2 => h' i o ho (by rw [hd, e2]))]
        exact hF.out d' h'
      · by_cases hki : i = k
        · subst hki
          rw [ho] at hk
          cases hk
          rw [hd] at hd'
          cases hd'
          exact ⟨v, by simp [Act.put, hdl], hR⟩
        · rw [getD_set_ne false hki] at hon
          obtain ⟨v', h1, h2⟩ := hV k o' d' hk hon hd'
          have hne : d' ≠ d := fun e2 => dst_ne hA ho hk hki hd (by rw [hd', e2])
          exact ⟨v', by rw [hother d' hne]; exact h1, hst d' v' w' w2 h2 hB hb⟩)
    (by
      intro a' w' hI'
      obtain ⟨hF, hB, hV⟩ := hI'
      have hV' : ∀ d ∈ ds, ∃ v, a'.tmps[d]? = some v ∧ R d v w' := by
        intro d hd
        rw [← hds] at hd
        obtain ⟨o, ho, hd'⟩ := List.mem_filterMap.1 hd
        obtain ⟨i, hi, he⟩ := List.getElem_of_mem ho
        exact hV i o d (by rw [List.getElem?_eq_getElem hi, he]) (by simp [hi]) hd'
      have hfr := hfin (fun d => (a'.tmps[d]?).getD undef) w' (fun d hd => by obtain ⟨v, h1, h2⟩ := hV' d hd; simp [h1, h2]) hB
      have ea : a' = putR a (ds.map fun d => (d, (a'.tmps[d]?).getD undef)) := by
        refine act_eq (Array.ext_getElem? fun d => ?_) (by rw [putR_defers]; exact hF.defers)
        by_cases hdl : d < a.tmps.size
        · rw [putR_get (fun d => (a'.tmps[d]?).getD undef) d ds a hdl]
          by_cases hd : d ∈ ds
          · rw [if_pos hd]
            obtain ⟨v, h1, _⟩ := hV' d hd
            simp [h1]
          · rw [if_neg hd]
            refine hF.out d fun i o ho hd' => hd ?_
            rw [← hds]
            exact List.mem_filterMap.2 ⟨o, List.mem_of_getElem? ho, hd'⟩
        · rw [Array.getElem?_eq_none (by rw [hF.size]; omega), Array.getElem?_eq_none (by rw [putR_size]; omega)]
      rw [← ea] at hfr
      show wpList P (h ++ l.drop n).toArray Q (l.drop n) a' w'
      rw [e]
      exact hfr)
    h.length (Array.replicate h.length false) a { w with drawn := w.drawn + 1 } (by simp) (by simp [open_])
    ⟨⟨rfl, rfl, fun _ _ => rfl⟩, hw.drew, fun i o d ho hon => by
      exfalso
      rw [Array.getD_eq_getD_getElem?, Array.getElem?_replicate] at hon
      split at hon <;> simp at hon⟩
  have h3 := lift_under (Q := Q) hE hG hT (by rw [e]; exact hS) h.length (Array.replicate h.length false) a _ (by simp) (by simp [open_]) (closed_none _) main
  rw [e] at h3
  have e1 : l.toArray.size = h.length + (l.drop n).length := by rw [← List.length_append, e]; simp
  rw [e1, show Array.replicate (h.length + (l.drop n).length) false = Array.replicate h.length false ++ Array.replicate (l.drop n).length false by simp]
  exact h3
end Go.Proofs.YthnkipicehppmaaDoor.sh
