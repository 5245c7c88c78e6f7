/-
  General pieces, joined: MA MB.
-/
import Derived.Test.YtjkdonjcngmjeaaDoorG25
import Derived.Handy
/-
  Regions that draw their order, of which several operations change an object that was there, one behind the other: each keeps what the others hold. Calls through an interface.
-/
namespace Go.Proofs.YtjkdonjcngmjeaaDoor.sh
open Go Go.RowKit
set_option linter.unusedVariables false
set_option linter.unusedSimpArgs false

section
variable {G : Type}
/-- What is asked of an operation that changes the object: from the one class of worlds to the next one. -/
def PhaseOk (P : Program) (h : List Oper) (A0 : Act) (R : G → Nat → Value → World → Prop) (C C2 : G → World → Prop) (i : Nat) (o : Oper) : Prop := ∃ d, o.dst = some d ∧ ∀ g a w, Fr h A0 a → C g w → GotE h [] (R g) [] 0 i a w o →
  Region.wanted o (yielded h.toArray a.tmps) = true ∧ o.wp P a w (fun a' w' => ∃ v g', a' = a.put (some d) v ∧ R g' d v w' ∧ C2 g' w' ∧ ∀ d' v', d' ≠ d → R g d' v' w → R g' d' v' w') (fun _ _ _ => False)
def PhaseAll (P : Program) (h : List Oper) (A0 : Act) (R : G → Nat → Value → World → Prop) (C : Nat → G → World → Prop) (ch : List Nat) : Nat → List Oper → Prop
  | _, [] => True
  | i, o :: r => ((ch.contains i = false ∧ ∀ k g W1, C k g W1 → OwnOk P h A0 W1 (R g) [] [] i o) ∨ ∃ k, ch[k]? = some i ∧ PhaseOk P h A0 R (C k) (C (k + 1)) i o) ∧ PhaseAll P h A0 R C ch (i + 1) r
theorem phaseAll_get {P : Program} {h : List Oper} {A0 : Act} {R : G → Nat → Value → World → Prop} {C : Nat → G → World → Prop} {ch : List Nat} : ∀ (r : List Oper) (k : Nat), PhaseAll P h A0 R C ch k r → ∀ i o, r[i]? = some o → (ch.contains (k + i) = false ∧ ∀ j g W1, C j g W1 → OwnOk P h A0 W1 (R g) [] [] (k + i) o) ∨ ∃ j, ch[j]? = some (k + i) ∧ PhaseOk P h A0 R (C j) (C (j + 1)) (k + i) o
  | [], _, _, i, o, ho => by simp at ho
  | x :: r, k, hr, 0, o, ho => by simp at ho; subst ho; exact hr.1
  | x :: r, k, hr, i + 1, o, ho => by
    have := phaseAll_get r (k + 1) hr.2 i o (by simpa using ho)
    rwa [show k + 1 + i = k + (i + 1) from by omega] at this
/-- Operation t waits for s, through whatever lies between. -/
def reachB (h : List Oper) (s : Nat) : Nat → Nat → Bool
  | 0, _ => false
  | f + 1, t => match h[t]? with
    | some o => o.after.any fun e => Region.binds .any e && (e.on == s || (decide (s < e.on) && reachB h s f e.on))
    | none => false
def ClosedL (h : List Oper) (listed : Array Bool) : Prop := ∀ (i : Nat) (o : Oper), h[i]? = some o → listed.getD i false = true → ∀ x ∈ o.after, Region.binds .any x = true → listed.getD x.on false = true
theorem reach_listed {h : List Oper} {s : Nat} {listed : Array Bool} (hc : ClosedL h listed) : ∀ (f t : Nat) (o : Oper), h[t]? = some o → (∀ x ∈ o.after, Region.binds .any x = true → listed.getD x.on false = true) → reachB h s f t = true → listed.getD s false = true
  | 0, _, _, _, _, hr => by simp [reachB] at hr
  | f + 1, t, o, ho, hall, hr => by
    simp only [reachB, ho] at hr
    obtain ⟨x, hx, h1⟩ := Array.any_eq_true'.1 hr
    simp only [Bool.and_eq_true, Bool.or_eq_true, beq_iff_eq] at h1
    have h2 := hall x hx h1.1
    rcases h1.2 with h3 | ⟨_, h3⟩
    · rw [← h3]; exact h2
    · cases ho' : h[x.on]? with
      | none =>
        cases f with
        | zero => simp [reachB] at h3
        | succ f => simp [reachB, ho'] at h3
      | some o' => exact reach_listed hc f x.on o' ho' (hc x.on o' ho' h2) h3
/-- Each of the changing operations waits for the one ahead of it. -/
def chainB (h : List Oper) : List Nat → Bool
  | s :: t :: r => reachB h s 60 t && chainB h (t :: r)
  | _ => true
def nodupB : List Nat → Bool
  | [] => true
  | x :: r => !r.contains x && nodupB r
theorem nodupB_inj : ∀ {l : List Nat}, nodupB l = true → ∀ {i j x : Nat}, l[i]? = some x → l[j]? = some x → i = j
  | [], _, i, _, _, h, _ => by simp at h
  | y :: r, hn, i, j, x, hi, hj => by
    simp only [nodupB, Bool.and_eq_true, Bool.not_eq_true'] at hn
    have hnot : ∀ k, r[k]? = some y → False := fun k hk => by
      have := List.contains_iff_mem.2 (List.mem_of_getElem? hk)
      rw [hn.1] at this
      cases this
    cases i with
    | zero =>
      cases j with
      | zero => rfl
      | succ j => simp at hi hj; subst hi; exact (hnot j hj).elim
    | succ i =>
      cases j with
      | zero => simp at hi hj; subst hj; exact (hnot i hi).elim
      | succ j => simp at hi hj; rw [nodupB_inj hn.2 hi hj]
theorem chainB_at {h : List Oper} : ∀ {l : List Nat}, chainB h l = true → ∀ {k t : Nat}, l[k + 1]? = some t → ∃ s, l[k]? = some s ∧ reachB h s 60 t = true
  | [], _, k, t, ht => by simp at ht
  | [_], _, k, t, ht => by simp at ht
  | s :: t :: r, hc, k, u, hu => by
    simp only [chainB, Bool.and_eq_true] at hc
    cases k with
    | zero =>
      simp at hu
      subst hu
      exact ⟨s, rfl, hc.1⟩
    | succ k =>
      obtain ⟨s', h1, h2⟩ := chainB_at (l := t :: r) hc.2 (k := k) (by simpa using hu)
      exact ⟨s', by simpa using h1, h2⟩

theorem region_phase {P : Program} {Q : Exit → Act → World → Prop} {id : Nat} {a : Act} {w : World} (n : Nat) (ch : List Nat) {l : List Oper} (R : G → Nat → Value → World → Prop) (C : Nat → G → World → Prop) (ds : List Nat) (hm : P.follows .mixedOrders = true)
    (hE : edgesIn (l.take n) = true) (hG : guardsIn (l.take n) = true) (hI : dstsIn (l.take n) a.tmps.size = true) (hT : tailUnder (l.take n) (l.drop n) = true)
    (hS : Region.seqB .any l.toArray (l.drop n).length (l.take n).length (Array.replicate (l.take n).length true ++ Array.replicate (l.drop n).length false) = true)
    (hds : dstsOf (l.take n) = ds) (hcn : nodupB ch = true) (hcc : chainB (l.take n) ch = true) (hci : (ch.all fun s => decide (s < (l.take n).length)) = true)
    (hst : ∀ g d v w w', R g d v w → Below w.heap.size w w' → R g d v w') (hCb : ∀ k g w w', C k g w → Below w.heap.size w w' → C k g w') (g0 : G) (hC : C 0 g0 w)
    (hok : PhaseAll P (l.take n) a R C ch 0 (l.take n))
    (hfin : ∀ (f : Nat → Value) g w', (∀ d ∈ ds, R g d (f d) w') → C ch.length g w' → wpList P l.toArray Q (l.drop n) (putR a (ds.map fun d => (d, f d))) w') : (Code.region id l.toArray true).wp P Q a w := by
  have e : l.take n ++ l.drop n = l := List.take_append_drop n l
  refine wp_region_any hm ?_
  generalize hh : l.take n = h at *
  have main := wpAny_inv (P := P) (l := h) (Q := headPost P (h ++ l.drop n).toArray Q (l.drop n))
    (fun listed a' w' => Fr h a a' ∧ ClosedL h listed ∧ ∃ k g, k ≤ ch.length ∧ (∀ j s, ch[j]? = some s → listed.getD s false = decide (j < k)) ∧ C k g w' ∧ ∀ d, (∃ (i : Nat) (o : Oper), h[i]? = some o ∧ listed.getD i false = true ∧ o.dst = some d) → ∃ v, a'.tmps[d]? = some v ∧ R g d v w') hE
    (by
      intro listed a' w' i o hls hI' ho hun hall
      obtain ⟨hF, hcl, k, g, hkm, hph, hCw, hV⟩ := hI'
      have hil : i < listed.size := by rw [hls]; exact (List.getElem?_eq_some_iff.1 ho).1
      have hson : ∀ k, (listed.setIfInBounds i true).getD k false = if k = i then true else listed.getD k false := fun k => by
        by_cases hk : k = i
        · subst hk; simp [hil]
        · rw [if_neg hk, getD_set_ne false (Ne.symm hk)]
      have hgot : ∀ B, GotE h [] (R g) [] B i a' w' o := fun B d hs hq => by
        obtain ⟨x, hx, h1⟩ := Array.any_eq_true'.1 hs
        simp only [Bool.and_eq_true] at h1
        cases ho' : h[x.on]? with
        | none => simp [ho'] at h1
        | some o' =>
          obtain ⟨v, e1, e2⟩ := hV d ⟨x.on, o', ho', hall x hx h1.1, by simpa [ho'] using h1.2⟩
          exact ⟨v, e1, e2, fun hc => by simp at hc⟩
      have hun' : listed.getD i false = false := by simpa [hil] using hun
      have stab : ∃ d, o.dst = some d ∧ Region.wanted o (yielded h.toArray a'.tmps) = true ∧ o.wp P a' w' (fun a2 w2 => ∃ v k' g', a2 = a'.put (some d) v ∧ k' ≤ ch.length ∧ (∀ j s, ch[j]? = some s → (listed.setIfInBounds i true).getD s false = decide (j < k')) ∧ R g' d v w2 ∧ C k' g' w2 ∧ ∀ d' v', d' ≠ d → R g d' v' w' → R g' d' v' w2) (fun _ _ _ => False) := by
        rcases (by have := phaseAll_get h 0 hok i o ho; rwa [Nat.zero_add] at this : (ch.contains i = false ∧ ∀ j g W1, C j g W1 → OwnOk P h a W1 (R g) [] [] i o) ∨ ∃ j, ch[j]? = some i ∧ PhaseOk P h a R (C j) (C (j + 1)) i o) with ⟨his, h1⟩ | ⟨j, hj, h1⟩
        · obtain ⟨d, hd, hrun⟩ := h1 k g w' hCw
          obtain ⟨hwant, hwp⟩ := hrun a' w' hF (Below.refl _ _) (fun s hs hq => by
            obtain ⟨v, e1, e2, _⟩ := hgot 0 s hs hq
            exact ⟨v, e1, e2, fun hc => by simp at hc⟩)
          refine ⟨d, hd, hwant, wp_false ?_ hwp⟩
          rintro a3 w3 ⟨v, row, rfl, hR, hg, hrow, _⟩
          have hb := grown_empty hg (fun b hb => by obtain ⟨s', hs', _⟩ := hrow b hb; cases hs')
          refine ⟨v, k, g, rfl, hkm, fun j s hjs => ?_, hR, hCb _ _ _ _ hCw hb, fun d' v' _ h' => hst _ _ _ _ _ h' hb⟩
          have hsi : s ≠ i := fun hsi => by
            subst hsi
            have := List.contains_iff_mem.2 (List.mem_of_getElem? hjs)
            rw [his] at this
            cases this
          rw [hson s, if_neg hsi]
          exact hph j s hjs
        · have hnj : ¬ j < k := fun hjk => by
            have := hph j i hj
            rw [hun', decide_eq_true hjk] at this
            cases this
          have hjk : j = k := by
            cases j with
            | zero => omega
            | succ j =>
              obtain ⟨s, h2, h3⟩ := chainB_at hcc hj
              have h7 := reach_listed hcl 60 i o ho hall h3
              rw [hph j s h2] at h7
              have := of_decide_eq_true h7
              omega
          subst hjk
          obtain ⟨d, hd, hrun⟩ := h1
          obtain ⟨hwant, hwp⟩ := hrun g a' w' hF hCw (hgot 0)
          refine ⟨d, hd, hwant, wp_false ?_ hwp⟩
          rintro a3 w3 ⟨v, g', rfl, hR, hC2, hk⟩
          refine ⟨v, j + 1, g', rfl, (List.getElem?_eq_some_iff.1 hj).1, fun j' s hjs => ?_, hR, hC2, hk⟩
          rw [hson s]
          by_cases hsi : s = i
          · subst hsi
            rw [if_pos rfl, nodupB_inj hcn hjs hj]
            simp
          · rw [if_neg hsi, hph j' s hjs]
            have : j' ≠ j := fun e => hsi (by subst e; rw [hj] at hjs; exact (Option.some.inj hjs).symm)
            by_cases h8 : j' < j
            · rw [decide_eq_true h8, decide_eq_true (by omega)]
            · rw [decide_eq_false h8, decide_eq_false (by omega)]
      obtain ⟨d, hd, hwant, hwp⟩ := stab
      refine ⟨hwant, wp_false ?_ hwp⟩
      rintro a2 w2 ⟨v, k', g', rfl, hkm', hph', hR, hC2, hkeep⟩
      have hdl : d < a'.tmps.size := by
        have := List.all_eq_true.1 hI o (List.mem_of_getElem? ho)
        rw [hd] at this
        rw [hF.size]
        simpa using this
      have hother : ∀ d', d' ≠ d → (a'.put (some d) v).tmps[d']? = a'.tmps[d']? := fun d' hne => by simp [Act.put, Array.getElem?_setIfInBounds_ne (Ne.symm hne)]
      have hself : (a'.put (some d) v).tmps[d]? = some v := by simp [Act.put, hdl]
      refine ⟨⟨by rw [size_put]; exact hF.size, hF.defers, fun d' h' => ?_⟩, fun j o' ho' hl' x hx hb => ?_, k', g', hkm', hph', hC2, fun d' hL => ?_⟩
      · rw [hother d' (fun e2 => h' i o ho (by rw [hd, e2]))]
        exact hF.out d' h'
      · have h9 : listed.getD x.on false = true := by
          rw [hson j] at hl'
          split at hl'
          · next hji => subst hji; rw [ho] at ho'; cases ho'; exact hall x hx hb
          · exact hcl j o' ho' hl' x hx hb
        rw [hson x.on]
        split
        · rfl
        · exact h9
      · by_cases hdd : d' = d
        · subst hdd
          exact ⟨v, hself, hR⟩
        · obtain ⟨j, o', h1, h2, h3⟩ := hL
          rw [hother d' hdd]
          obtain ⟨u, e1, e2⟩ := hV d' ⟨j, o', h1, by
            rw [hson j] at h2
            split at h2
            · next hji => subst hji; rw [ho] at h1; cases h1; rw [hd] at h3; exact absurd (Option.some.inj h3).symm hdd
            · exact h2, h3⟩
          exact ⟨u, e1, hkeep _ _ hdd e2⟩)
    (by
      intro a' w' hI'
      obtain ⟨hF, _, k, g, hkm, hph, hCw, hV⟩ := hI'
      have hkl : k = ch.length := by
        by_cases hlt : k < ch.length
        · obtain ⟨s, hs⟩ : ∃ s, ch[k]? = some s := ⟨_, List.getElem?_eq_getElem hlt⟩
          have h1 := hph k s hs
          have h2 : s < h.length := of_decide_eq_true (List.all_eq_true.1 hci s (List.mem_of_getElem? hs))
          rw [decide_eq_false (Nat.lt_irrefl k)] at h1
          simp [h2] at h1
        · omega
      subst hkl
      have hsome : ∀ d ∈ ds, ∃ v, a'.tmps[d]? = some v ∧ R g d v w' := fun d hd => by
        rw [← hds] at hd
        obtain ⟨o, ho, hd'⟩ := List.mem_filterMap.1 hd
        obtain ⟨i, hi, he⟩ := List.getElem_of_mem ho
        exact hV d ⟨i, o, by rw [List.getElem?_eq_getElem hi, he], by simp [hi], hd'⟩
      have hfr := hfin (fun d => (a'.tmps[d]?).getD undef) g w' (fun d hd => by obtain ⟨v, h1, h2⟩ := hsome d hd; simp only [h1, Option.getD_some]; exact h2) hCw
      have ea : a' = putR a (ds.map fun d => (d, (a'.tmps[d]?).getD undef)) := by
        refine act_eq (Array.ext_getElem? fun d => ?_) (by rw [putR_defers]; exact hF.defers)
        by_cases hdl : d < a.tmps.size
        · rw [putR_get (fun d => (a'.tmps[d]?).getD undef) d ds a hdl]
          by_cases hd : d ∈ ds
          · rw [if_pos hd]
            obtain ⟨v, h1, _⟩ := hsome d hd
            simp [h1]
          · rw [if_neg hd]
            refine hF.out d fun i o ho hd' => hd ?_
            rw [← hds]
            exact List.mem_filterMap.2 ⟨o, List.mem_of_getElem? ho, hd'⟩
        · rw [Array.getElem?_eq_none (by rw [hF.size]; omega), Array.getElem?_eq_none (by rw [putR_size]; omega)]
      rw [← ea] at hfr
      show wpList P (h ++ l.drop n).toArray Q (l.drop n) a' w'
      rw [e]
      exact hfr)
    h.length (Array.replicate h.length false) a { w with drawn := w.drawn + 1 } (by simp) (by simp [open_])
    ⟨⟨rfl, rfl, fun _ _ => rfl⟩, fun i o _ hl => by
      exfalso
      rw [Array.getD_eq_getD_getElem?, Array.getElem?_replicate] at hl
      split at hl <;> simp at hl, 0, g0, Nat.zero_le _, fun j s _ => by
      rw [decide_eq_false (Nat.not_lt_zero j), Array.getD_eq_getD_getElem?, Array.getElem?_replicate]
      split <;> simp, hCb _ _ _ _ hC (Below.refl _ _).drew, fun d hL => by
      exfalso
      obtain ⟨i, o, _, hon, _⟩ := hL
      rw [Array.getD_eq_getD_getElem?, Array.getElem?_replicate] at hon
      split at hon <;> simp at hon⟩
  have h3 := lift_under (Q := Q) hE hG hT (by rw [e]; exact hS) h.length (Array.replicate h.length false) a _ (by simp) (by simp [open_]) (closed_none _) main
  rw [e] at h3
  have e1 : l.toArray.size = h.length + (l.drop n).length := by rw [← List.length_append, e]; simp
  rw [e1, show Array.replicate (h.length + (l.drop n).length) false = Array.replicate h.length false ++ Array.replicate (l.drop n).length false by simp]
  exact h3

def atG (L : List (Nat × (G → Value → World → Prop))) (g : G) : List (Nat × (Value → World → Prop)) := L.map fun p => (p.1, p.2 g)
theorem atG_fst (L : List (Nat × (G → Value → World → Prop))) (g : G) : (atG L g).map (·.1) = L.map (·.1) := by simp [atG]
theorem region_phaseL {P : Program} {Q : Exit → Act → World → Prop} {id : Nat} {a : Act} {w : World} (n : Nat) (ch : List Nat) {l : List Oper} (vals : List (Nat × Value)) (L : List (Nat × (G → Value → World → Prop))) (C : Nat → G → World → Prop) (hm : P.follows .mixedOrders = true)
    (hE : edgesIn (l.take n) = true) (hG : guardsIn (l.take n) = true) (hI : dstsIn (l.take n) a.tmps.size = true) (hT : tailUnder (l.take n) (l.drop n) = true)
    (hS : Region.seqB .any l.toArray (l.drop n).length (l.take n).length (Array.replicate (l.take n).length true ++ Array.replicate (l.drop n).length false) = true)
    (hv : (vals.all fun p => (dstsOf (l.take n)).contains p.1) = true) (hsp : ((L.map (·.1)).all fun d => (dstsOf (l.take n)).contains d) = true)
    (hcn : nodupB ch = true) (hcc : chainB (l.take n) ch = true) (hci : (ch.all fun s => decide (s < (l.take n).length)) = true)
    (hst : ∀ q ∈ L, ∀ g (v : Value) (w w' : World), q.2 g v w → Below w.heap.size w w' → q.2 g v w') (hCb : ∀ k g w w', C k g w → Below w.heap.size w w' → C k g w') (g0 : G) (hC : C 0 g0 w)
    (hok : (∀ g, Full (l.take n) a (putR a vals) (specOf (atG L g)) (L.map (·.1))) → PhaseAll P (l.take n) a (fun g => relR (putR a vals) (specOf (atG L g))) C ch 0 (l.take n))
    (hfin : ∀ (f : Nat → Value) g w', (∀ d p, specOf (atG L g) d = some p → p (f d) w') → C ch.length g w' → wpList P l.toArray Q (l.drop n) (putR (putR a vals) ((L.map (·.1)).map fun d => (d, f d))) w') : (Code.region id l.toArray true).wp P Q a w := by
  have hfull : ∀ g, Full (l.take n) a (putR a vals) (specOf (atG L g)) (L.map (·.1)) := fun g => by
    have h1 : Full (l.take n) a (putR a vals) (specOf (atG L g)) ((atG L g).map (·.1)) := full_put vals hv (specOf_none (atG L g))
    rwa [atG_fst] at h1
  have hin : ∀ d, d ∈ L.map (·.1) → d ∈ dstsOf (l.take n) := fun d hd => List.contains_iff_mem.1 (List.all_eq_true.1 hsp d hd)
  refine region_phase n ch (fun g => relR (putR a vals) (specOf (atG L g))) C _ hm hE hG hI hT hS rfl hcn hcc hci ?_ hCb g0 hC (hok hfull) ?_
  · intro g d v w w' h1 h2
    unfold relR at *
    cases hs : specOf (atG L g) d with
    | none => rw [hs] at h1; exact h1
    | some p =>
      rw [hs] at h1
      obtain ⟨q, hq, hq1, hq2⟩ := specOf_mem' (atG L g) d p hs
      obtain ⟨q', hq', rfl⟩ := List.mem_map.1 hq
      subst hq2
      exact hst q' hq' g v w w' h1 h2
  · intro f g w' hf hC2
    have e : putR a ((dstsOf (l.take n)).map fun d => (d, f d)) = putR (putR a vals) ((L.map (·.1)).map fun d => (d, f d)) := by
      refine act_eq (Array.ext_getElem? fun d => ?_) (by rw [putR_defers, putR_defers, putR_defers])
      rw [putR_get', putR_get', putR_size]
      by_cases hd : d < a.tmps.size
      · rw [if_pos hd, if_pos hd]
        by_cases h1 : d ∈ dstsOf (l.take n)
        · rw [if_pos h1]
          by_cases h2 : d ∈ L.map (·.1)
          · rw [if_pos h2]
          · rw [if_neg h2]
            have := hf d h1
            unfold relR at this
            rw [(hfull g).spec d h2] at this
            exact this.symm
        · rw [if_neg h1, if_neg (fun h2 => h1 (hin d h2))]
          refine ((hfull g).out d fun i o ho hdo => h1 ?_).symm
          exact List.mem_filterMap.2 ⟨o, List.mem_of_getElem? ho, hdo⟩
      · rw [if_neg hd, if_neg hd]
    rw [e]
    refine hfin f g w' (fun d p hp => ?_) hC2
    by_cases hd : d ∈ L.map (·.1)
    · have := hf d (hin d hd)
      unfold relR at this
      rw [hp] at this
      exact this
    · rw [specOf_none (atG L g) d (by rw [atG_fst]; exact hd)] at hp
      cases hp
end

section
variable {P : Program} {h : List Oper} {A0 A : Act} {W0 : World} {S : Nat → Option (Value → World → Prop)} {sp O : List Nat} {E : List (Nat × Nat)} {B i : Nat} {o : Oper}
/-- A call through an interface, of which the dynamic type is known. -/
theorem run_invoke {a : Act} (recv : Operand) (name : String) (args : List Operand) (ts : Array TypeId) (t : TypeId) (v : Value) (f : Nat) (rv : Value) (fn : Func) (c : Code) (ho : o.op = .call { callee := .invoke recv name, args := args.toArray, argTypes := ts }) (hr : a.eval recv = .iface t v)
    (hmet : ∀ w, (method (P.types.size + Made.depth) t v name).run P w = .ok (f, rv) w) (hf : P.funcs[f]? = some fn) (hname : (fn.name == "runtime.NumGoroutine") = false) (hb : fn.body = some c) (w : World) : (execOp a.eval o).run P w = .ok (.enter f (rv :: args.map a.eval).toArray) w := by
  have h1 : fn.name ≠ "runtime.NumGoroutine" := by simpa using hname
  unfold execOp
  simp only [ho, resolve, hr]
  simp [invoke, callMethod, callFunc, hf, h1, hb, hmet]
  exact List.take_of_length_le (by simp)
theorem ow_invoke (hA : Full h A0 A S sp) (hw : Wants h A0 A S O E W0.heap.size i o) (d : Nat) (v : Value) (hdet : detE h sp E i o = true) (hsel : notSel o = true) (hd : o.dst = some d) (hds : sp.contains d = false) (hO : O.contains d = false) (hv : A.tmps[d]? = some v) (recv : Operand) (name : String) (args : List Operand) (ts : Array TypeId) (t : TypeId) (x : Value) (f : Nat) (rv : Value) (fn : Func) (c : Code) (vs : List Value) (ho : o.op = .call { callee := .invoke recv name, args := args.toArray, argTypes := ts })
    (hr : A.eval recv = .iface t x) (hargs : args.map A.eval = vs) (hmet : ∀ w, (method (P.types.size + Made.depth) t x name).run P w = .ok (f, rv) w) (hf : P.funcs[f]? = some fn) (hname : (fn.name == "runtime.NumGoroutine") = false) (hb : fn.body = some c)
    (hc : ∀ w, Below W0.heap.size W0 w → Calls P f (rv :: vs).toArray w fun e w' => e = .returned v ∧ Below w.heap.size w w') : OwnOk P h A0 W0 (relR A S) O E i o :=
  ow_q hA hdet hsel hw d v hd hds hO hv fun w hw => by
    have hrun := run_invoke (P := P) recv name args ts t x f rv fn c ho hr hmet hf hname hb w
    rw [hargs] at hrun
    unfold Oper.quietAt
    rw [hrun]
    exact ⟨rfl, hc w hw⟩
/-- .. whatever it answers. -/
theorem ow_invokeS (hA : Full h A0 A S sp) (hw : Wants h A0 A S O E W0.heap.size i o) (d : Nat) (hdet : detE h sp E i o = true) (hd : o.dst = some d) (recv : Operand) (name : String) (args : List Operand) (ts : Array TypeId) (t : TypeId) (x : Value) (f : Nat) (rv : Value) (fn : Func) (c : Code) (vs : List Value) (ho : o.op = .call { callee := .invoke recv name, args := args.toArray, argTypes := ts })
    (hrO : recv ∈ o.op.operands) (haO : ∀ y ∈ args, y ∈ o.op.operands) (hr : A.eval recv = .iface t x) (hargs : args.map A.eval = vs) (hmet : ∀ w, (method (P.types.size + Made.depth) t x name).run P w = .ok (f, rv) w) (hf : P.funcs[f]? = some fn) (hname : (fn.name == "runtime.NumGoroutine") = false) (hb : fn.body = some c)
    (hc : ∀ w, Below W0.heap.size W0 w → Calls P f (rv :: vs).toArray w fun e w' => ∃ v, e = .returned v ∧ relR A S d v w' ∧ Below w.heap.size w w' ∧ (O.contains d = true → ∀ b, blkOf v = some b → w.heap.size ≤ b ∧ b < w'.heap.size)) : OwnOk P h A0 W0 (relR A S) O E i o := by
  refine ⟨d, hd, fun a w hF hB hgot => ⟨hw a w hF hgot, ?_⟩⟩
  have hev := detE_eval hA hdet hF hgot
  have hrun := run_invoke (P := P) (a := a) recv name args ts t x f rv fn c ho ((hev recv hrO).trans hr) hmet hf hname hb w
  rw [List.map_congr_left (fun y hy => hev y (haO y hy)), hargs] at hrun
  unfold Oper.wp
  rw [hrun]
  simp only [Oper.upon]
  refine (hc w hB).mono fun e w' hh => ?_
  obtain ⟨v, rfl, hR, hb', hO⟩ := hh
  rw [hd]
  exact ⟨v, none, rfl, hR, grown_none hb', fun b hb => (by cases hb), fun h1 b hb => .inl (hO h1 b hb)⟩
end

end Go.Proofs.YtjkdonjcngmjeaaDoor.sh
/-
  .. where the object is a table of terms.
-/
namespace Go.Proofs.YtjkdonjcngmjeaaDoor.sh
open Go Go.RowKit
set_option linter.unusedVariables false
set_option linter.unusedSimpArgs false

/-- The table ts at tb, its blocks M; what was there in W, but for M0's blocks, is as it was. -/
def CT (tb B : Nat) (ts : List TermL) (M0 : Nat → Prop) (W : World) : (Nat → Prop) → World → Prop := fun M w => Tab tb B ts M w ∧ Turn M0 W M w
theorem CT.under {tb B : Nat} {ts : List TermL} {W : World} {M0 M : Nat → Prop} {w w' : World} (h : CT tb B ts M0 W M w) (hb : Below w.heap.size w w') : CT tb B ts M0 W M w' := ⟨h.1.under hb, h.2.trans (Turn.of_below hb)⟩
theorem CT.puts {tb B : Nat} {ts us : List TermL} {W : World} {M0 M : Nat → Prop} {w w' : World} (h : CT tb B ts M0 W M w) (hp : Puts tb B ts M w us w') : ∃ M', CT tb B us M0 W M' w' ∧ Turn M w M' w' := by
  obtain ⟨M', h1, h2⟩ := hp
  exact ⟨M', ⟨h1, h.2.trans h2⟩, h2⟩
theorem Turn.cell {M M' : Nat → Prop} {w w' : World} (h : Turn M w M' w') {p : Addr} {v : Value} (hc : w.cell? p = some v) (hl : p.block < w.heap.size) (hM : ¬ M p.block) : w'.cell? p = some v := (World.cell?_of_block (h.1.block _ hl hM)).trans hc
theorem CT.cell {tb B : Nat} {ts : List TermL} {W : World} {M0 M : Nat → Prop} {w w1 : World} (h : CT tb B ts M0 W M w) (hb : Below w.heap.size w w1) {p : Addr} {v : Value} (hc : W.cell? p = some v) (hl : p.block < W.heap.size) (hM : ¬ M0 p.block) : w1.cell? p = some v := (h.2.trans (Turn.of_below (M := M) hb)).cell hc hl hM
/-- A slice of texts that is not the table's. -/
def NewS (ll : List (List Nat)) : (Nat → Prop) → Value → World → Prop := fun M V w => ValsV V w (strs ll) ∧ ∀ b, blkOf V = some b → ¬ M b ∧ b < w.heap.size
theorem NewS.under {ll : List (List Nat)} {M : Nat → Prop} {V : Value} {w w' : World} (h : NewS ll M V w) (hb : Below w.heap.size w w') : NewS ll M V w' := ⟨h.1.under hb, fun b e => ⟨(h.2 b e).1, Nat.lt_of_lt_of_le (h.2 b e).2 hb.size⟩⟩
theorem NewS.turn {ll : List (List Nat)} {M M' : Nat → Prop} {V : Value} {w w' : World} (h : NewS ll M V w) (ht : Turn M w M' w') : NewS ll M' V w' :=
  ⟨ht.vals h.1 fun b e => (h.2 b e).1, fun b e => ⟨ht.not (h.2 b e).1 (h.2 b e).2, Nat.lt_of_lt_of_le (h.2 b e).2 ht.size⟩⟩

/-- Slots that hold such slices. -/
def LN (l : List (Nat × List (List Nat))) : List (Nat × ((Nat → Prop) → Value → World → Prop)) := l.map fun p => (p.1, NewS p.2)
theorem LN_under {l : List (Nat × List (List Nat))} : ∀ q ∈ LN l, ∀ (g : Nat → Prop) (v : Value) (w w' : World), q.2 g v w → Below w.heap.size w w' → q.2 g v w' := fun q hq g v w w' h hb => by
  obtain ⟨p, _, rfl⟩ := List.mem_map.1 hq
  exact NewS.under h hb
theorem LN_turn {l : List (Nat × List (List Nat))} : ∀ q ∈ LN l, ∀ (M M' : Nat → Prop) (w w' : World) (u : Value), Turn M w M' w' → q.2 M u w → q.2 M' u w' := fun q hq M M' w w' u ht h => by
  obtain ⟨p, _, rfl⟩ := List.mem_map.1 hq
  exact NewS.turn h ht

section
variable {h : List Oper} {A0 A : Act} {L : List (Nat × ((Nat → Prop) → Value → World → Prop))} {i : Nat} {o : Oper} {tb B : Nat} {ts us : List TermL} {W : World} {M0 : Nat → Prop}
theorem specOf_atG (M : Nat → Prop) (d : Nat) : ∀ L : List (Nat × ((Nat → Prop) → Value → World → Prop)), specOf (atG L M) d = (L.lookup d).map fun p => p M
  | [] => rfl
  | q :: r => by
    have := specOf_atG M d r
    unfold specOf atG at *
    rw [List.map_cons, List.lookup_cons, List.lookup_cons]
    cases d == q.1 with
    | true => rfl
    | false => exact this
theorem lookup_mem : ∀ (L : List (Nat × ((Nat → Prop) → Value → World → Prop))) (d : Nat) (p : (Nat → Prop) → Value → World → Prop), L.lookup d = some p → ∃ q ∈ L, q.2 = p
  | [], d, p, h => by cases h
  | q :: r, d, p, h => by
    rw [List.lookup_cons] at h
    split at h
    · cases h; exact ⟨q, List.mem_cons_self, rfl⟩
    · obtain ⟨q', h1, h2⟩ := lookup_mem r d p h
      exact ⟨q', List.mem_cons_of_mem _ h1, h2⟩
theorem ph_run {P : Program} {C C2 : (Nat → Prop) → World → Prop} (hA : ∀ M, Full h A0 A (specOf (atG L M)) (L.map (·.1))) (hw : ∀ M, Wants h A0 A (specOf (atG L M)) [] [] 0 i o) (d : Nat) (v : Value) (hd : o.dst = some d) (hds : (L.map (·.1)).contains d = false) (hv : A.tmps[d]? = some v)
    (hL : ∀ q ∈ L, ∀ (M M' : Nat → Prop) (w w' : World) (u : Value), Turn M w M' w' → q.2 M u w → q.2 M' u w')
    (hrun : ∀ (M : Nat → Prop) (a : Act) (w : World), Fr h A0 a → C M w → GotE h [] (relR A (specOf (atG L M))) [] 0 i a w o → ∃ f args, (execOp a.eval o).run P w = .ok (.enter f args) w ∧ Calls P f args w fun e w' => e = .returned v ∧ ∃ M', C2 M' w' ∧ Turn M w M' w') : PhaseOk P h A0 (fun M => relR A (specOf (atG L M))) C C2 i o := by
  refine ⟨d, hd, fun M a w hF hC hgot => ⟨hw M a w hF hgot, ?_⟩⟩
  obtain ⟨f, args, h1, h2⟩ := hrun M a w hF hC hgot
  unfold Oper.wp
  rw [h1]
  simp only [Oper.upon]
  refine h2.mono fun e w' hh => ?_
  obtain ⟨rfl, M', hC2, ht⟩ := hh
  rw [hd]
  refine ⟨v, M', rfl, ?_, hC2, fun d' v' _ hR => ?_⟩
  · unfold relR
    rw [(hA M').spec d (not_mem_of hds)]
    exact hv
  · unfold relR at *
    rw [specOf_atG] at *
    cases hs : L.lookup d' with
    | none => rw [hs] at hR; exact hR
    | some p =>
      rw [hs] at hR
      obtain ⟨q, hq, rfl⟩ := lookup_mem L d' p hs
      exact hL q hq M M' w w' v' ht hR
theorem run_callF {P : Program} {a : Act} (f : Nat) (fn : Func) (c : Code) (xs : List Operand) (tys : Array TypeId) (ho : o.op = .call { callee := .value (.func f), args := xs.toArray, argTypes := tys }) (hf : P.funcs[f]? = some fn) (hname : (fn.name == "runtime.NumGoroutine") = false) (hb : fn.body = some c) (w : World) : (execOp a.eval o).run P w = .ok (.enter f (xs.map a.eval).toArray) w := by
  have h1 : fn.name ≠ "runtime.NumGoroutine" := by simpa using hname
  unfold execOp
  simp only [ho, resolve, List.map_toArray, Act.eval]
  simp [Deferred.ofValue, invoke, callFunc, hf, h1, hb]
/-- .. of a method, through an interface. -/
theorem ph_invoke {P : Program} {C C2 : (Nat → Prop) → World → Prop} (hA : ∀ M, Full h A0 A (specOf (atG L M)) (L.map (·.1))) (hw : ∀ M, Wants h A0 A (specOf (atG L M)) [] [] 0 i o) (d : Nat) (v : Value) (hd : o.dst = some d) (hds : (L.map (·.1)).contains d = false) (hv : A.tmps[d]? = some v)
    (hL : ∀ q ∈ L, ∀ (M M' : Nat → Prop) (w w' : World) (u : Value), Turn M w M' w' → q.2 M u w → q.2 M' u w') (hdet : detE h (L.map (·.1)) [] i o = true)
    (recv : Operand) (name : String) (xs : List Operand) (tys : Array TypeId) (t : TypeId) (x : Value) (f : Nat) (rv : Value) (fn : Func) (c : Code) (vs : List Value) (ho : o.op = .call { callee := .invoke recv name, args := xs.toArray, argTypes := tys }) (hr : A.eval recv = .iface t x) (hargs : xs.map A.eval = vs)
    (hmet : ∀ w, (method (P.types.size + Made.depth) t x name).run P w = .ok (f, rv) w) (hf : P.funcs[f]? = some fn) (hname : (fn.name == "runtime.NumGoroutine") = false) (hb : fn.body = some c)
    (hc : ∀ (M : Nat → Prop) (w : World), C M w → Calls P f (rv :: vs).toArray w fun e w' => e = .returned v ∧ ∃ M', C2 M' w' ∧ Turn M w M' w') : PhaseOk P h A0 (fun M => relR A (specOf (atG L M))) C C2 i o :=
  ph_run hA hw d v hd hds hv hL fun M a w hF hC hgot => by
    have hev := detE_eval (hA M) hdet hF hgot
    refine ⟨f, (rv :: vs).toArray, ?_, hc M w hC⟩
    have e1 : xs.map a.eval = vs := by
      rw [← hargs]
      refine List.map_congr_left fun y hy => hev y ?_
      rw [ho]
      simp [Op.operands, Call.operands, hy]
    rw [← e1]
    exact run_invoke recv name xs tys t x f rv fn c ho ((hev recv (by rw [ho]; simp [Op.operands, Call.operands])).trans hr) hmet hf hname hb w
/-- .. Hash, of a slice that the region has built. -/
theorem ph_hash (hA : ∀ M, Full h A0 A (specOf (atG L M)) (L.map (·.1))) (hw : ∀ M, Wants h A0 A (specOf (atG L M)) [] [] 0 i o) (d : Nat) (N : List Nat) (hd : o.dst = some d) (hds : (L.map (·.1)).contains d = false) (hv : A.tmps[d]? = some (.string (strOf N)))
    (hL : ∀ q ∈ L, ∀ (M M' : Nat → Prop) (w w' : World) (u : Value), Turn M w M' w' → q.2 M u w → q.2 M' u w')
    (x s : Nat) (tys : Array TypeId) (c : Code) (hb : Tryd.f36.body = some c) (ho : o.op = .call { callee := .value (.func 36), args := [.tmp x, .tmp s].toArray, argTypes := tys }) (hwx : waitsFor h o x = true) (hsx : (L.map (·.1)).contains x = false) (hx : A.tmps[x]? = some (.pointer (some ⟨tb, 0, none⟩))) (hws : waitsFor h o s = true) (ll : List (List Nat)) (hs : L.lookup s = some (NewS ll))
    (hy : ∀ l ∈ ll, Bytes l) (hl : ∀ l ∈ ll, l.length ≤ maxLen) (hn : ts.length < 1000000) (hp : putL ts (4, ll) = (us, N)) : PhaseOk Tryd.prog h A0 (fun M => relR A (specOf (atG L M))) (CT tb B ts M0 W) (CT tb B us M0 W) i o :=
  ph_run hA hw d _ hd hds hv hL fun M a w hF hC hgot => by
    have e1 := gotE_det (hA M) hgot hwx hsx (by simp) hx
    obtain ⟨hV, _⟩ := gotE_spec hgot (d := s) (NewS ll M) hws (by simp) (by rw [specOf_atG, hs]; rfl)
    refine ⟨36, #[.pointer (some ⟨tb, 0, none⟩), a.eval (.tmp s)], ?_, ?_⟩
    · have := run_callF (P := Tryd.prog) (a := a) _ _ c [.tmp x, .tmp s] tys ho Tryd.func36 (by kernel_rfl) hb w
      rw [List.map_cons, List.map_cons, List.map_nil, e1] at this
      exact this
    · refine (HashE hC.1 hy hV.1 hl hn hp).mono fun e w' hh => ?_
      exact ⟨hh.1, hC.puts hh.2⟩
theorem ow_new4 {W0 : World} {M : Nat → Prop} (hA : Full h A0 A (specOf (atG L M)) (L.map (·.1))) (hw : Wants h A0 A (specOf (atG L M)) [] [] W0.heap.size i o) (hC : CT tb B ts M0 W M W0) (d : Nat) (x0 x1 x2 x3 : Operand) (s0 s1 s2 s3 : List Nat) (hd : o.dst = some d) (hdet : detE h (L.map (·.1)) [] i o = true) (ho : o.op = .buildSlice 34 4 #[(0, x0), (1, x1), (2, x2), (3, x3)])
    (h0 : A.eval x0 = .string (strOf s0)) (h1 : A.eval x1 = .string (strOf s1)) (h2 : A.eval x2 = .string (strOf s2)) (h3 : A.eval x3 = .string (strOf s3)) (hp : L.lookup d = some (NewS [s0, s1, s2, s3])) : OwnOk Tryd.prog h A0 W0 (relR A (specOf (atG L M))) [] [] i o :=
  ow_run hw d hd fun a w hF hB hgot => by
    have hev := detE_eval hA hdet hF hgot
    have e0 := (hev x0 (by rw [ho]; simp [Op.operands])).trans h0
    have e1 := (hev x1 (by rw [ho]; simp [Op.operands])).trans h1
    have e2 := (hev x2 (by rw [ho]; simp [Op.operands])).trans h2
    have e3 := (hev x3 (by rw [ho]; simp [Op.operands])).trans h3
    refine ⟨_, _, none, ?_, rel_spec _ (show specOf (atG L M) d = some (NewS [s0, s1, s2, s3] M) from by rw [specOf_atG, hp]; rfl) ⟨new4 s0 s1 s2 s3 w, fun b hb => ?_⟩, grown_none ((Below.refl _ _).alloc (Nat.le_refl _) _), fun b hb => (by cases hb), fun h3 => by cases h3⟩
    · unfold execOp
      simp only [ho]
      simp [e0, e1, e2, e3, run_bs4]
    · cases hb
      exact ⟨fun hM => by have := (hC.1.range hM).2; have := hB.size; simp only at *; omega, by simp⟩
end
end Go.Proofs.YtjkdonjcngmjeaaDoor.sh
