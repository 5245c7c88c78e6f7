/-
  Regions that draw their order, of which an operation writes a block that was there: each operation keeps what the others hold.
-/
import Derived.Test.YtniogaimhkcedaaDoorKD
namespace Go.Proofs.YtniogaimhkcedaaDoor.sh
open Go Go.RowKit
set_option linter.unusedVariables false
set_option linter.unusedSimpArgs false

/-- What is asked of an operation that may write: it keeps the class of worlds, and what other slots hold. -/
def StabOk (P : Program) (h : List Oper) (A0 : Act) (R : Nat → Value → World → Prop) (C C2 : World → Prop) (i : Nat) (o : Oper) : Prop := ∃ d, o.dst = some d ∧ ∀ a w, Fr h A0 a → C w → GotE h [] R [] 0 i a w o →
  Region.wanted o (yielded h.toArray a.tmps) = true ∧ o.wp P a w (fun a' w' => ∃ v, a' = a.put (some d) v ∧ R d v w' ∧ C2 w' ∧ ∀ d' v', d' ≠ d → R d' v' w → R d' v' w') (fun _ _ _ => False)
def StabAll (P : Program) (h : List Oper) (A0 : Act) (R : Nat → Value → World → Prop) (C C2 : World → Prop) (s : Nat) : Nat → List Oper → Prop
  | _, [] => True
  | i, o :: r => ((i ≠ s ∧ ∀ W1, C W1 ∨ C2 W1 → OwnOk P h A0 W1 R [] [] i o) ∨ i = s ∧ StabOk P h A0 R C C2 i o) ∧ StabAll P h A0 R C C2 s (i + 1) r
theorem stabAll_get {P : Program} {h : List Oper} {A0 : Act} {R : Nat → Value → World → Prop} {C C2 : World → Prop} {s : Nat} : ∀ (r : List Oper) (k : Nat), StabAll P h A0 R C C2 s k r → ∀ i o, r[i]? = some o → (k + i ≠ s ∧ ∀ W1, C W1 ∨ C2 W1 → OwnOk P h A0 W1 R [] [] (k + i) o) ∨ k + i = s ∧ StabOk P h A0 R C C2 (k + i) o
  | [], _, _, i, o, ho => by simp at ho
  | x :: r, k, hr, 0, o, ho => by simp at ho; subst ho; exact hr.1
  | x :: r, k, hr, i + 1, o, ho => by
    have := stabAll_get r (k + 1) hr.2 i o (by simpa using ho)
    rwa [show k + 1 + i = k + (i + 1) from by omega] at this

theorem region_stab {P : Program} {Q : Exit → Act → World → Prop} {id : Nat} {a : Act} {w : World} (n s : Nat) {l : List Oper} (R : Nat → Value → World → Prop) (C C2 : World → Prop) (ds : List Nat) (hm : P.follows .mixedOrders = true)
    (hE : edgesIn (l.take n) = true) (hG : guardsIn (l.take n) = true) (hI : dstsIn (l.take n) a.tmps.size = true) (hT : tailUnder (l.take n) (l.drop n) = true)
    (hS : Region.seqB .any l.toArray (l.drop n).length (l.take n).length (Array.replicate (l.take n).length true ++ Array.replicate (l.drop n).length false) = true)
    (hds : dstsOf (l.take n) = ds)
    (hsn : s < (l.take n).length)
    (hst : ∀ d v w w', R d v w → Below w.heap.size w w' → R d v w') (hCb : ∀ w w', C w → Below w.heap.size w w' → C w') (hCb2 : ∀ w w', C2 w → Below w.heap.size w w' → C2 w') (hC : C w)
    (hok : StabAll P (l.take n) a R C C2 s 0 (l.take n))
    (hfin : ∀ (f : Nat → Value) w', (∀ d ∈ ds, R d (f d) w') → C2 w' → wpList P l.toArray Q (l.drop n) (putR a (ds.map fun d => (d, f d))) w') : (Code.region id l.toArray true).wp P Q a w := by
  have e : l.take n ++ l.drop n = l := List.take_append_drop n l
  refine wp_region_any hm ?_
  generalize hh : l.take n = h at *
  have main := wpAny_inv (P := P) (l := h) (Q := headPost P (h ++ l.drop n).toArray Q (l.drop n))
    (fun listed a' w' => Fr h a a' ∧ ((listed.getD s false = false → C w') ∧ (listed.getD s false = true → C2 w')) ∧ ∀ d, (∃ (i : Nat) (o : Oper), h[i]? = some o ∧ listed.getD i false = true ∧ o.dst = some d) → ∃ v, a'.tmps[d]? = some v ∧ R d v w') hE
    (by
      intro listed a' w' i o hls hI' ho hun hall
      obtain ⟨hF, hCw, hV⟩ := hI'
      have hil : i < listed.size := by rw [hls]; exact (List.getElem?_eq_some_iff.1 ho).1
      have hson : ∀ k, (listed.setIfInBounds i true).getD k false = if k = i then true else listed.getD k false := fun k => by
        by_cases hk : k = i
        · subst hk; simp [hil]
        · rw [if_neg hk, getD_set_ne false (Ne.symm hk)]
      have hgot : ∀ B, GotE h [] R [] B i a' w' o := fun B d hs hq => by
        obtain ⟨x, hx, h1⟩ := Array.any_eq_true'.1 hs
        simp only [Bool.and_eq_true] at h1
        cases ho' : h[x.on]? with
        | none => simp [ho'] at h1
        | some o' =>
          obtain ⟨v, e1, e2⟩ := hV d ⟨x.on, o', ho', hall x hx h1.1, by simpa [ho'] using h1.2⟩
          exact ⟨v, e1, e2, fun hc => by simp at hc⟩
      have hCC : C w' ∨ C2 w' := by
        cases hl : listed.getD s false with
        | false => exact .inl (hCw.1 hl)
        | true => exact .inr (hCw.2 hl)
      have hun' : listed.getD i false = false := by simpa [hil] using hun
      have stab : ∃ d, o.dst = some d ∧ Region.wanted o (yielded h.toArray a'.tmps) = true ∧ o.wp P a' w' (fun a2 w2 => ∃ v, a2 = a'.put (some d) v ∧ R d v w2 ∧ (((listed.setIfInBounds i true).getD s false = false → C w2) ∧ ((listed.setIfInBounds i true).getD s false = true → C2 w2)) ∧ ∀ d' v', d' ≠ d → R d' v' w' → R d' v' w2) (fun _ _ _ => False) := by
        rcases (by have := stabAll_get h 0 hok i o ho; rwa [Nat.zero_add] at this : (i ≠ s ∧ ∀ W1, C W1 ∨ C2 W1 → OwnOk P h a W1 R [] [] i o) ∨ i = s ∧ StabOk P h a R C C2 i o) with ⟨his, h1⟩ | ⟨rfl, h1⟩
        · obtain ⟨d, hd, hrun⟩ := h1 w' hCC
          obtain ⟨hwant, hwp⟩ := hrun a' w' hF (Below.refl _ _) (fun s hs hq => by
            obtain ⟨v, e1, e2, _⟩ := hgot 0 s hs hq
            exact ⟨v, e1, e2, fun hc => by simp at hc⟩)
          refine ⟨d, hd, hwant, wp_false ?_ hwp⟩
          rintro a3 w3 ⟨v, row, rfl, hR, hg, hrow, _⟩
          have hb := grown_empty hg (fun b hb => by obtain ⟨s', hs', _⟩ := hrow b hb; cases hs')
          refine ⟨v, rfl, hR, ?_, fun d' v' _ h' => hst _ _ _ _ h' hb⟩
          rw [hson s, if_neg (Ne.symm his)]
          exact ⟨fun hl => hCb _ _ (hCw.1 hl) hb, fun hl => hCb2 _ _ (hCw.2 hl) hb⟩
        · obtain ⟨d, hd, hrun⟩ := h1
          obtain ⟨hwant, hwp⟩ := hrun a' w' hF (hCw.1 hun') (hgot 0)
          refine ⟨d, hd, hwant, wp_false ?_ hwp⟩
          rintro a3 w3 ⟨v, rfl, hR, hC2, hk⟩
          refine ⟨v, rfl, hR, ?_, hk⟩
          rw [hson i, if_pos rfl]
          exact ⟨fun hl => (by cases hl), fun _ => hC2⟩
      obtain ⟨d, hd, hwant, hwp⟩ := stab
      refine ⟨hwant, wp_false ?_ hwp⟩
      rintro a2 w2 ⟨v, rfl, hR, hC2, hkeep⟩
      have hdl : d < a'.tmps.size := by
        have := List.all_eq_true.1 hI o (List.mem_of_getElem? ho)
        rw [hd] at this
        rw [hF.size]
        simpa using this
      have hother : ∀ d', d' ≠ d → (a'.put (some d) v).tmps[d']? = a'.tmps[d']? := fun d' hne => by simp [Act.put, Array.getElem?_setIfInBounds_ne (Ne.symm hne)]
      have hself : (a'.put (some d) v).tmps[d]? = some v := by simp [Act.put, hdl]
      refine ⟨⟨by rw [size_put]; exact hF.size, hF.defers, fun d' h' => ?_⟩, hC2, fun d' hL => ?_⟩
      · rw [hother d' (fun e2 => h' i o ho (by rw [hd, e2]))]
        exact hF.out d' h'
      · by_cases hdd : d' = d
        · subst hdd
          exact ⟨v, hself, hR⟩
        · obtain ⟨j, o', h1, h2, h3⟩ := hL
          rw [hother d' hdd]
          obtain ⟨u, e1, e2⟩ := hV d' ⟨j, o', h1, by
            rw [hson j] at h2
            split at h2
            · next hji => subst hji; rw [ho] at h1; cases h1; rw [hd] at h3; exact absurd (Option.some.inj h3).symm hdd
            · exact h2, h3⟩
          exact ⟨u, e1, hkeep _ _ hdd e2⟩)
    (by
      intro a' w' hI'
      obtain ⟨hF, hCw, hV⟩ := hI'
      have hsome : ∀ d ∈ ds, ∃ v, a'.tmps[d]? = some v ∧ R d v w' := fun d hd => by
        rw [← hds] at hd
        obtain ⟨o, ho, hd'⟩ := List.mem_filterMap.1 hd
        obtain ⟨i, hi, he⟩ := List.getElem_of_mem ho
        exact hV d ⟨i, o, by rw [List.getElem?_eq_getElem hi, he], by simp [hi], hd'⟩
      have hfr := hfin (fun d => (a'.tmps[d]?).getD undef) w' (fun d hd => by obtain ⟨v, h1, h2⟩ := hsome d hd; simp only [h1, Option.getD_some]; exact h2) (hCw.2 (by simp [hsn]))
      have ea : a' = putR a (ds.map fun d => (d, (a'.tmps[d]?).getD undef)) := by
        refine act_eq (Array.ext_getElem? fun d => ?_) (by rw [putR_defers]; exact hF.defers)
        by_cases hdl : d < a.tmps.size
        · rw [putR_get (fun d => (a'.tmps[d]?).getD undef) d ds a hdl]
          by_cases hd : d ∈ ds
          · rw [if_pos hd]
            obtain ⟨v, h1, _⟩ := hsome d hd
            simp [h1]
          · rw [if_neg hd]
            refine hF.out d fun i o ho hd' => hd ?_
            rw [← hds]
            exact List.mem_filterMap.2 ⟨o, List.mem_of_getElem? ho, hd'⟩
        · rw [Array.getElem?_eq_none (by rw [hF.size]; omega), Array.getElem?_eq_none (by rw [putR_size]; omega)]
      rw [← ea] at hfr
      show wpList P (h ++ l.drop n).toArray Q (l.drop n) a' w'
      rw [e]
      exact hfr)
    h.length (Array.replicate h.length false) a { w with drawn := w.drawn + 1 } (by simp) (by simp [open_])
    ⟨⟨rfl, rfl, fun _ _ => rfl⟩, ⟨fun _ => hCb _ _ hC (Below.refl _ _).drew, fun hl => by
      exfalso
      rw [Array.getD_eq_getD_getElem?, Array.getElem?_replicate] at hl
      split at hl <;> simp at hl⟩, fun d hL => by
      exfalso
      obtain ⟨i, o, _, hon, _⟩ := hL
      rw [Array.getD_eq_getD_getElem?, Array.getElem?_replicate] at hon
      split at hon <;> simp at hon⟩
  have h3 := lift_under (Q := Q) hE hG hT (by rw [e]; exact hS) h.length (Array.replicate h.length false) a _ (by simp) (by simp [open_]) (closed_none _) main
  rw [e] at h3
  have e1 : l.toArray.size = h.length + (l.drop n).length := by rw [← List.length_append, e]; simp
  rw [e1, show Array.replicate (h.length + (l.drop n).length) false = Array.replicate h.length false ++ Array.replicate (l.drop n).length false by simp]
  exact h3
theorem region_stabL {P : Program} {Q : Exit → Act → World → Prop} {id : Nat} {a : Act} {w : World} (n s : Nat) {l : List Oper} (vals : List (Nat × Value)) (L : List (Nat × (Value → World → Prop))) (C C2 : World → Prop) (hm : P.follows .mixedOrders = true)
    (hE : edgesIn (l.take n) = true) (hG : guardsIn (l.take n) = true) (hI : dstsIn (l.take n) a.tmps.size = true) (hT : tailUnder (l.take n) (l.drop n) = true)
    (hS : Region.seqB .any l.toArray (l.drop n).length (l.take n).length (Array.replicate (l.take n).length true ++ Array.replicate (l.drop n).length false) = true)
    (hv : (vals.all fun p => (dstsOf (l.take n)).contains p.1) = true) (hsp : ((L.map (·.1)).all fun d => (dstsOf (l.take n)).contains d) = true)
    (hsn : (decide (s < (l.take n).length)) = true)
    (hst : ∀ q ∈ L, ∀ (v : Value) (w w' : World), q.2 v w → Below w.heap.size w w' → q.2 v w') (hCb : ∀ w w', C w → Below w.heap.size w w' → C w') (hCb2 : ∀ w w', C2 w → Below w.heap.size w w' → C2 w') (hC : C w)
    (hok : Full (l.take n) a (putR a vals) (specOf L) (L.map (·.1)) → StabAll P (l.take n) a (relR (putR a vals) (specOf L)) C C2 s 0 (l.take n))
    (hfin : ∀ (f : Nat → Value) w', (∀ d p, specOf L d = some p → p (f d) w') → C2 w' → wpList P l.toArray Q (l.drop n) (putR (putR a vals) ((L.map (·.1)).map fun d => (d, f d))) w') : (Code.region id l.toArray true).wp P Q a w := by
  have hfull : Full (l.take n) a (putR a vals) (specOf L) (L.map (·.1)) := full_put vals hv (specOf_none L)
  have hin : ∀ d, d ∈ L.map (·.1) → d ∈ dstsOf (l.take n) := fun d hd => List.contains_iff_mem.1 (List.all_eq_true.1 hsp d hd)
  refine region_stab n s (relR (putR a vals) (specOf L)) C C2 _ hm hE hG hI hT hS rfl (of_decide_eq_true hsn) ?_ hCb hCb2 hC (hok hfull) ?_
  · intro d v w w' h1 h2
    unfold relR at *
    cases hs : specOf L d with
    | none => rw [hs] at h1; exact h1
    | some p =>
      rw [hs] at h1
      obtain ⟨q, hq, rfl, rfl⟩ := specOf_mem' L d p hs
      exact hst q hq v w w' h1 h2
  · intro f w' hf hC2
    have e : putR a ((dstsOf (l.take n)).map fun d => (d, f d)) = putR (putR a vals) ((L.map (·.1)).map fun d => (d, f d)) := by
      refine act_eq (Array.ext_getElem? fun d => ?_) (by rw [putR_defers, putR_defers, putR_defers])
      rw [putR_get', putR_get', putR_size]
      by_cases hd : d < a.tmps.size
      · rw [if_pos hd, if_pos hd]
        by_cases h1 : d ∈ dstsOf (l.take n)
        · rw [if_pos h1]
          by_cases h2 : d ∈ L.map (·.1)
          · rw [if_pos h2]
          · rw [if_neg h2]
            have := hf d h1
            unfold relR at this
            rw [hfull.spec d h2] at this
            exact this.symm
        · rw [if_neg h1, if_neg (fun h2 => h1 (hin d h2))]
          refine (hfull.out d fun i o ho hdo => h1 ?_).symm
          exact List.mem_filterMap.2 ⟨o, List.mem_of_getElem? ho, hdo⟩
      · rw [if_neg hd, if_neg hd]
    rw [e]
    refine hfin f w' (fun d p hp => ?_) hC2
    by_cases hd : d ∈ L.map (·.1)
    · have := hf d (hin d hd)
      unfold relR at this
      rw [hp] at this
      exact this
    · rw [specOf_none L d hd] at hp
      cases hp
end Go.Proofs.YtniogaimhkcedaaDoor.sh
