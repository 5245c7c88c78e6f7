/-
  A region that draws its order, with one store among its operations that does not wait for all of them: 'x[i], c = f(..)'. Those that the store waits for read memory as it was; the others read none.
-/
import Derived.Test.YtfcinakpdnblfaaYB
namespace Go.Proofs.Ytfcinakpdnblfaa.sh
open Go Go.RowKit
set_option linter.unusedVariables false
set_option linter.unusedSimpArgs false

def waitsOn (o : Oper) (i : Nat) : Bool := o.after.any fun e => Region.binds .any e && e.on == i
def LateAll (P : Program) (h : List Oper) (A0 : Act) (W0 : World) (R : Nat → Value → World → Prop) (s : Nat) (os : Oper) : Nat → List Oper → Prop
  | _, [] => True
  | i, o :: r => (i = s ∨ (waitsOn os i = true ∧ OwnOk P h A0 W0 R [] [] i o) ∨ ∀ W1, OwnOk P h A0 W1 R [] [] i o) ∧ LateAll P h A0 W0 R s os (i + 1) r
theorem lateAll_get {P : Program} {h : List Oper} {A0 : Act} {W0 : World} {R : Nat → Value → World → Prop} {s : Nat} {os : Oper} : ∀ (r : List Oper) (k : Nat), LateAll P h A0 W0 R s os k r → ∀ i o, r[i]? = some o → k + i = s ∨ (waitsOn os (k + i) = true ∧ OwnOk P h A0 W0 R [] [] (k + i) o) ∨ ∀ W1, OwnOk P h A0 W1 R [] [] (k + i) o
  | [], _, _, i, o, ho => by simp at ho
  | x :: r, k, hr, 0, o, ho => by simp at ho; subst ho; exact hr.1
  | x :: r, k, hr, i + 1, o, ho => by
    have := lateAll_get r (k + 1) hr.2 i o (by simpa using ho)
    rwa [show k + 1 + i = k + (i + 1) from by omega] at this

theorem region_late {P : Program} {Q : Exit → Act → World → Prop} {id : Nat} {a : Act} {w : World} (W0 : World) (n s : Nat) {l : List Oper} (vals : List (Nat × Value)) (C2 : World → Prop) (hm : P.follows .mixedOrders = true)
    (hE : edgesIn (l.take n) = true) (hG : guardsIn (l.take n) = true) (hA : dstsApart (l.take n) 0 = true) (hI : dstsIn (l.take n) a.tmps.size = true) (hT : tailUnder (l.take n) (l.drop n) = true)
    (hS : Region.seqB .any l.toArray (l.drop n).length (l.take n).length (Array.replicate (l.take n).length true ++ Array.replicate (l.drop n).length false) = true)
    (hv : (vals.all fun p => (dstsOf (l.take n)).contains p.1) = true)
    (os : Oper) (hos : (l.take n)[s]? = some os) (hsd : os.dst = none) (hw : Below W0.heap.size W0 w)
    (hC : ∀ w w', C2 w → Below w.heap.size w w' → C2 w')
    (hok : Full (l.take n) a (putR a vals) (specOf []) [] → LateAll P (l.take n) a W0 (relR (putR a vals) (specOf [])) s os 0 (l.take n))
    (hst : Full (l.take n) a (putR a vals) (specOf []) [] → ∀ a' w', Fr (l.take n) a a' → Below W0.heap.size W0 w' → GotE (l.take n) [] (relR (putR a vals) (specOf [])) [] W0.heap.size s a' w' os →
      Region.wanted os (yielded (l.take n).toArray a'.tmps) = true ∧ os.wp P a' w' (fun a2 w2 => a2 = a' ∧ C2 w2) (fun _ _ _ => False))
    (hfin : ∀ w', C2 w' → wpList P l.toArray Q (l.drop n) (putR a vals) w') : (Code.region id l.toArray true).wp P Q a w := by
  have hfull : Full (l.take n) a (putR a vals) (specOf []) [] := full_put vals hv (specOf_none [])
  have hok' := hok hfull
  have hst' := hst hfull
  have hRR : ∀ d v (w : World), relR (putR a vals) (specOf []) d v w ↔ (putR a vals).tmps[d]? = some v := fun d v w => Iff.rfl
  clear hok hst
  have e : l.take n ++ l.drop n = l := List.take_append_drop n l
  refine wp_region_any hm ?_
  generalize hh : l.take n = h at *
  have main := wpAny_inv (P := P) (l := h) (Q := headPost P (h ++ l.drop n).toArray Q (l.drop n))
    (fun listed a' w' => Fr h a a' ∧ (∀ d, (∃ (i : Nat) (o : Oper), h[i]? = some o ∧ listed.getD i false = true ∧ o.dst = some d) → ∃ v, a'.tmps[d]? = some v ∧ (putR a vals).tmps[d]? = some v) ∧
      (listed.getD s false = false → Below W0.heap.size W0 w') ∧ (listed.getD s false = true → C2 w' ∧ ∀ x ∈ os.after, Region.binds .any x = true → listed.getD x.on false = true)) hE
    (by
      intro listed a' w' i o hls hI' ho hun hall
      obtain ⟨hF, hV, hB, hD⟩ := hI'
      have hil : i < listed.size := by rw [hls]; exact (List.getElem?_eq_some_iff.1 ho).1
      have hun' : listed.getD i false = false := by simpa [hil] using hun
      have hson : ∀ k, (listed.setIfInBounds i true).getD k false = if k = i then true else listed.getD k false := fun k => by
        by_cases hk : k = i
        · subst hk; simp [hil]
        · rw [if_neg hk, getD_set_ne false (Ne.symm hk)]
      have hup : ∀ k, listed.getD k false = true → (listed.setIfInBounds i true).getD k false = true := fun k hk => by
        rw [hson k]; split <;> first | rfl | exact hk
      have hgot : ∀ B, GotE h [] (relR (putR a vals) (specOf [])) [] B i a' w' o := fun B d hs hq => by
        obtain ⟨x, hx, h1⟩ := Array.any_eq_true'.1 hs
        simp only [Bool.and_eq_true] at h1
        cases ho' : h[x.on]? with
        | none => simp [ho'] at h1
        | some o' =>
          obtain ⟨v, e1, e2⟩ := hV d ⟨x.on, o', ho', hall x hx h1.1, by simpa [ho'] using h1.2⟩
          exact ⟨v, e1, e2, fun hc => by simp at hc⟩
      by_cases his : i = s
      · subst his
        have hoo : o = os := by rw [ho] at hos; exact Option.some.inj hos
        subst hoo
        obtain ⟨hwant, hwp⟩ := hst' a' w' hF (hB hun') (hgot _)
        refine ⟨hwant, wp_false ?_ hwp⟩
        rintro a2 w2 ⟨rfl, hC2⟩
        refine ⟨hF, fun d hd => ?_, fun hf => ?_, fun _ => ⟨hC2, fun x hx hb => hup _ (hall x hx hb)⟩⟩
        · obtain ⟨j, o', h1, h2, h3⟩ := hd
          refine hV d ⟨j, o', h1, ?_, h3⟩
          rw [hson j] at h2
          split at h2
          · next hji => subst hji; rw [ho] at h1; cases h1; rw [hsd] at h3; cases h3
          · exact h2
        · rw [hson, if_pos rfl] at hf; cases hf
      · have hson_s : (listed.setIfInBounds i true).getD s false = listed.getD s false := by rw [hson s, if_neg (Ne.symm his)]
        have step : ∀ W1 : World, Below W1.heap.size W1 w' → OwnOk P h a W1 (relR (putR a vals) (specOf [])) [] [] i o →
            Region.wanted o (yielded h.toArray a'.tmps) = true ∧ o.wp P a' w' (fun a2 w2 => Fr h a a2 ∧ (∀ d, (∃ (j : Nat) (o : Oper), h[j]? = some o ∧ (listed.setIfInBounds i true).getD j false = true ∧ o.dst = some d) → ∃ v, a2.tmps[d]? = some v ∧ (putR a vals).tmps[d]? = some v) ∧ Below w'.heap.size w' w2) (fun _ _ _ => False) := by
          rintro W1 hW1 ⟨d, hd, hrun⟩
          obtain ⟨hwant, hwp⟩ := hrun a' w' hF hW1 (hgot _)
          refine ⟨hwant, wp_false ?_ hwp⟩
          rintro a2 w2 ⟨v, row, rfl, hR, hg, hrow, _⟩
          have hdl : d < a'.tmps.size := by
            have := List.all_eq_true.1 hI o (List.mem_of_getElem? ho)
            rw [hd] at this
            rw [hF.size]
            simpa using this
          have hother : ∀ d', d' ≠ d → (a'.put (some d) v).tmps[d']? = a'.tmps[d']? := fun d' hne => by simp [Act.put, Array.getElem?_setIfInBounds_ne (Ne.symm hne)]
          have hself : (a'.put (some d) v).tmps[d]? = some v := by simp [Act.put, hdl]
          refine ⟨⟨by rw [size_put]; exact hF.size, hF.defers, fun d' h' => ?_⟩, fun d' hL => ?_, grown_empty hg (fun b hb => by obtain ⟨s', hs', _⟩ := hrow b hb; cases hs')⟩
          · rw [hother d' (fun e2 => h' i o ho (by rw [hd, e2]))]
            exact hF.out d' h'
          · by_cases hdd : d' = d
            · subst hdd
              exact ⟨v, hself, hR⟩
            · obtain ⟨j, o', h1, h2, h3⟩ := hL
              rw [hother d' hdd]
              refine hV d' ⟨j, o', h1, ?_, h3⟩
              rw [hson j] at h2
              split at h2
              · next hji => subst hji; rw [ho] at h1; cases h1; rw [hd] at h3; exact absurd (Option.some.inj h3).symm hdd
              · exact h2
        rcases (by have := lateAll_get h 0 hok' i o ho; rwa [Nat.zero_add] at this : i = s ∨ (waitsOn os i = true ∧ OwnOk P h a W0 (relR (putR a vals) (specOf [])) [] [] i o) ∨ ∀ W1, OwnOk P h a W1 (relR (putR a vals) (specOf [])) [] [] i o) with h1 | ⟨hon, hown⟩ | hown
        · exact absurd h1 his
        · have hsf : listed.getD s false = false := by
            cases hc : listed.getD s false with
            | false => rfl
            | true =>
              obtain ⟨x, hx, h1⟩ := Array.any_eq_true'.1 hon
              simp only [Bool.and_eq_true, beq_iff_eq] at h1
              have := (hD hc).2 x hx h1.1
              rw [h1.2, hun'] at this
              cases this
          obtain ⟨hwant, hwp⟩ := step W0 (hB hsf) hown
          refine ⟨hwant, wp_false ?_ hwp⟩
          rintro a2 w2 ⟨h1, h2, h3⟩
          refine ⟨h1, h2, fun _ => (hB hsf).trans (h3.mono (hB hsf).size), fun hs => ?_⟩
          rw [hson_s, hsf] at hs
          cases hs
        · obtain ⟨hwant, hwp⟩ := step w' (Below.refl _ _) (hown w')
          refine ⟨hwant, wp_false ?_ hwp⟩
          rintro a2 w2 ⟨h1, h2, h3⟩
          refine ⟨h1, h2, fun hs => ?_, fun hs => ?_⟩
          · rw [hson_s] at hs
            exact (hB hs).trans (h3.mono (hB hs).size)
          · rw [hson_s] at hs
            exact ⟨hC _ _ (hD hs).1 h3, fun x hx hb => hup _ ((hD hs).2 x hx hb)⟩)
    (by
      intro a' w' hI'
      obtain ⟨hF, hV, hB, hD⟩ := hI'
      have hsl : s < h.length := (List.getElem?_eq_some_iff.1 hos).1
      have hC2 := (hD (by simp [hsl])).1
      have ea : a' = putR a vals := by
        refine act_eq (Array.ext_getElem? fun d => ?_) (by rw [putR_defers]; exact hF.defers)
        by_cases hd : ∃ (i : Nat) (o : Oper), h[i]? = some o ∧ o.dst = some d
        · obtain ⟨i, o, h1, h2⟩ := hd
          obtain ⟨v, e1, e2⟩ := hV d ⟨i, o, h1, by simp [(List.getElem?_eq_some_iff.1 h1).1], h2⟩
          rw [e1, e2]
        · have hno : ∀ (i : Nat) (o : Oper), h[i]? = some o → o.dst ≠ some d := fun i o h1 h2 => hd ⟨i, o, h1, h2⟩
          rw [hF.out d hno, hfull.out d hno]
      have hfr := hfin w' hC2
      rw [← ea] at hfr
      show wpList P (h ++ l.drop n).toArray Q (l.drop n) a' w'
      rw [e]
      exact hfr)
    h.length (Array.replicate h.length false) a { w with drawn := w.drawn + 1 } (by simp) (by simp [open_])
    (by
      have hno : ∀ k, (Array.replicate h.length false).getD k false = true → False := fun k hk => by
        rw [Array.getD_eq_getD_getElem?, Array.getElem?_replicate] at hk
        split at hk <;> simp at hk
      exact ⟨⟨rfl, rfl, fun _ _ => rfl⟩, fun d hL => (by obtain ⟨i, o, _, hon, _⟩ := hL; exact (hno i hon).elim), fun _ => hw.drew, fun hs => (hno s hs).elim⟩)
  have h3 := lift_under (Q := Q) hE hG hT (by rw [e]; exact hS) h.length (Array.replicate h.length false) a _ (by simp) (by simp [open_]) (closed_none _) main
  rw [e] at h3
  have e1 : l.toArray.size = h.length + (l.drop n).length := by rw [← List.length_append, e]; simp
  rw [e1, show Array.replicate (h.length + (l.drop n).length) false = Array.replicate h.length false ++ Array.replicate (l.drop n).length false by simp]
  exact h3

/-- The store of one cell, in such a region. -/
theorem late_store {h : List Oper} {A0 A : Act} {W0 : World} {i : Nat} {o : Oper} {C2 : World → Prop} (hA : Full h A0 A (specOf []) []) (hg : o.guard = none) (hd : o.dst = none) (e : TypeId) (sz : ∀ w, (sizeOf e).run Try.prog w = .ok 1 w) (x y : Nat) (ho : o.op = .store e (.tmp x) (.tmp y)) (hwx : waitsFor h o x = true) (hwy : waitsFor h o y = true)
    (g k : Nat) (kd : IntKind) (v : Int) (hx : A.tmps[x]? = some (.pointer (some ⟨g, k, none⟩))) (hy : A.tmps[y]? = some (.int kd v)) (t : TypeId) (C : Array Value) (hB : ∀ w, Below W0.heap.size W0 w → Blk w g t C) (hk : k < C.size)
    (hC : ∀ w w', Below W0.heap.size W0 w → Blk w' g t (C.setIfInBounds k (.int kd v)) → Put w w' g → C2 w') :
    ∀ a' w', Fr h A0 a' → Below W0.heap.size W0 w' → GotE h [] (relR A (specOf [])) [] W0.heap.size i a' w' o →
      Region.wanted o (yielded h.toArray a'.tmps) = true ∧ o.wp Try.prog a' w' (fun a2 w2 => a2 = a' ∧ C2 w2) (fun _ _ _ => False) := by
  intro a' w' hF hb hgot
  have ex := gotE_det hA hgot hwx rfl rfl hx
  have ey := gotE_det hA hgot hwy rfl rfl hy
  refine ⟨by simp [Region.wanted, hg], ?_⟩
  have hgk := hB w' hb
  have hc : w'.cell? ⟨g, k, none⟩ = some C[k] := cell_row hgk (Array.getElem?_eq_getElem hk)
  have hf : w'.frozen? ⟨g, k, none⟩ = false := frozen_of_row w' g k C _ hgk
  have hrun : (execOp a'.eval o).run Try.prog w' = .ok .skip (w'.setCell ⟨g, k, none⟩ (.int kd v)) := by
    unfold execOp
    simp only [ho, ex, ey, Instr.storeAt, Instr.sureAddr, Sem.run_bind, Sem.run_pure, Result.andThen_ok]
    simp [storeVar, storeCells, sz, go_sem, hc, hf, Value.cells]
    try rfl
  unfold Oper.wp
  rw [hrun]
  refine ⟨by rw [hd]; rfl, hC w' _ hb (heap_setCell_same _ _ _ _ _ _ hgk) ⟨⟨rfl, rfl, rfl, by simp, fun j _ hj => heap_setCell_other w' ⟨g, k, none⟩ j _ (fun e => hj (by rw [e]))⟩, by simp⟩⟩
end Go.Proofs.Ytfcinakpdnblfaa.sh
