/-
  General pieces, joined: SHL SHN YC.
-/
import Derived.Test.YtjkdonjcngmjeaaGreatDoorG17
/-
  A region that draws its order, with one store among its operations that does not wait for all of them: 'x[i], c = f(..)'. Those that the store waits for read memory as it was; the others read none.
-/
namespace Go.Proofs.YtjkdonjcngmjeaaGreatDoor.sh
open Go Go.RowKit
set_option linter.unusedVariables false
set_option linter.unusedSimpArgs false

def waitsOn (o : Oper) (i : Nat) : Bool := o.after.any fun e => Region.binds .any e && e.on == i
def LateAll (P : Program) (h : List Oper) (A0 : Act) (W0 : World) (R : Nat → Value → World → Prop) (s : Nat) (os : Oper) : Nat → List Oper → Prop
  | _, [] => True
  | i, o :: r => (i = s ∨ (waitsOn os i = true ∧ OwnOk P h A0 W0 R [] [] i o) ∨ ∀ W1, OwnOk P h A0 W1 R [] [] i o) ∧ LateAll P h A0 W0 R s os (i + 1) r
theorem lateAll_get {P : Program} {h : List Oper} {A0 : Act} {W0 : World} {R : Nat → Value → World → Prop} {s : Nat} {os : Oper} : ∀ (r : List Oper) (k : Nat), LateAll P h A0 W0 R s os k r → ∀ i o, r[i]? = some o → k + i = s ∨ (waitsOn os (k + i) = true ∧ OwnOk P h A0 W0 R [] [] (k + i) o) ∨ ∀ W1, OwnOk P h A0 W1 R [] [] (k + i) o
  | [], _, _, i, o, ho => by simp at ho
  | x :: r, k, hr, 0, o, ho => by simp at ho; subst ho; exact hr.1
  | x :: r, k, hr, i + 1, o, ho => by
    have := lateAll_get r (k + 1) hr.2 i o (by simpa using ho)
    rwa [show k + 1 + i = k + (i + 1) from by omega] at this

theorem region_late {P : Program} {Q : Exit → Act → World → Prop} {id : Nat} {a : Act} {w : World} (W0 : World) (n s : Nat) {l : List Oper} (vals : List (Nat × Value)) (C2 : World → Prop) (hm : P.follows .mixedOrders = true)
    (hE : edgesIn (l.take n) = true) (hG : guardsIn (l.take n) = true) (hA : dstsApart (l.take n) 0 = true) (hI : dstsIn (l.take n) a.tmps.size = true) (hT : tailUnder (l.take n) (l.drop n) = true)
    (hS : Region.seqB .any l.toArray (l.drop n).length (l.take n).length (Array.replicate (l.take n).length true ++ Array.replicate (l.drop n).length false) = true)
    (hv : (vals.all fun p => (dstsOf (l.take n)).contains p.1) = true)
    (os : Oper) (hos : (l.take n)[s]? = some os) (hsd : os.dst = none) (hw : Below W0.heap.size W0 w)
    (hC : ∀ w w', C2 w → Below w.heap.size w w' → C2 w')
    (hok : Full (l.take n) a (putR a vals) (specOf []) [] → LateAll P (l.take n) a W0 (relR (putR a vals) (specOf [])) s os 0 (l.take n))
    (hst : Full (l.take n) a (putR a vals) (specOf []) [] → ∀ a' w', Fr (l.take n) a a' → Below W0.heap.size W0 w' → GotE (l.take n) [] (relR (putR a vals) (specOf [])) [] W0.heap.size s a' w' os →
      Region.wanted os (yielded (l.take n).toArray a'.tmps) = true ∧ os.wp P a' w' (fun a2 w2 => a2 = a' ∧ C2 w2) (fun _ _ _ => False))
    (hfin : ∀ w', C2 w' → wpList P l.toArray Q (l.drop n) (putR a vals) w') : (Code.region id l.toArray true).wp P Q a w := by
  have hfull : Full (l.take n) a (putR a vals) (specOf []) [] := full_put vals hv (specOf_none [])
  have hok' := hok hfull
  have hst' := hst hfull
  have hRR : ∀ d v (w : World), relR (putR a vals) (specOf []) d v w ↔ (putR a vals).tmps[d]? = some v := fun d v w => Iff.rfl
  clear hok hst
  have e : l.take n ++ l.drop n = l := List.take_append_drop n l
  refine wp_region_any hm ?_
  generalize hh : l.take n = h at *
  have main := wpAny_inv (P := P) (l := h) (Q := headPost P (h ++ l.drop n).toArray Q (l.drop n))
    (fun listed a' w' => Fr h a a' ∧ (∀ d, (∃ (i : Nat) (o : Oper), h[i]? = some o ∧ listed.getD i false = true ∧ o.dst = some d) → ∃ v, a'.tmps[d]? = some v ∧ (putR a vals).tmps[d]? = some v) ∧
      (listed.getD s false = false → Below W0.heap.size W0 w') ∧ (listed.getD s false = true → C2 w' ∧ ∀ x ∈ os.after, Region.binds .any x = true → listed.getD x.on false = true)) hE
    (by
      intro listed a' w' i o hls hI' ho hun hall
      obtain ⟨hF, hV, hB, hD⟩ := hI'
      have hil : i < listed.size := by rw [hls]; exact (List.getElem?_eq_some_iff.1 ho).1
      have hun' : listed.getD i false = false := by simpa [hil] using hun
      have hson : ∀ k, (listed.setIfInBounds i true).getD k false = if k = i then true else listed.getD k false := fun k => by
        by_cases hk : k = i
        · subst hk; simp [hil]
        · rw [if_neg hk, getD_set_ne false (Ne.symm hk)]
      have hup : ∀ k, listed.getD k false = true → (listed.setIfInBounds i true).getD k false = true := fun k hk => by
        rw [hson k]; split <;> first | rfl | exact hk
      have hgot : ∀ B, GotE h [] (relR (putR a vals) (specOf [])) [] B i a' w' o := fun B d hs hq => by
        obtain ⟨x, hx, h1⟩ := Array.any_eq_true'.1 hs
        simp only [Bool.and_eq_true] at h1
        cases ho' : h[x.on]? with
        | none => simp [ho'] at h1
        | some o' =>
          obtain ⟨v, e1, e2⟩ := hV d ⟨x.on, o', ho', hall x hx h1.1, by simpa [ho'] using h1.2⟩
          exact ⟨v, e1, e2, fun hc => by simp at hc⟩
      by_cases his : i = s
      · subst his
        have hoo : o = os := by rw [ho] at hos; exact Option.some.inj hos
        subst hoo
        obtain ⟨hwant, hwp⟩ := hst' a' w' hF (hB hun') (hgot _)
        refine ⟨hwant, wp_false ?_ hwp⟩
        rintro a2 w2 ⟨rfl, hC2⟩
        refine ⟨hF, fun d hd => ?_, fun hf => ?_, fun _ => ⟨hC2, fun x hx hb => hup _ (hall x hx hb)⟩⟩
        · obtain ⟨j, o', h1, h2, h3⟩ := hd
          refine hV d ⟨j, o', h1, ?_, h3⟩
          rw [hson j] at h2
          split at h2
          · next hji => subst hji; rw [ho] at h1; cases h1; rw [hsd] at h3; cases h3
          · exact h2
        · rw [hson, if_pos rfl] at hf; cases hf
      · have hson_s : (listed.setIfInBounds i true).getD s false = listed.getD s false := by rw [hson s, if_neg (Ne.symm his)]
        have step : ∀ W1 : World, Below W1.heap.size W1 w' → OwnOk P h a W1 (relR (putR a vals) (specOf [])) [] [] i o →
            Region.wanted o (yielded h.toArray a'.tmps) = true ∧ o.wp P a' w' (fun a2 w2 => Fr h a a2 ∧ (∀ d, (∃ (j : Nat) (o : Oper), h[j]? = some o ∧ (listed.setIfInBounds i true).getD j false = true ∧ o.dst = some d) → ∃ v, a2.tmps[d]? = some v ∧ (putR a vals).tmps[d]? = some v) ∧ Below w'.heap.size w' w2) (fun _ _ _ => False) := by
          rintro W1 hW1 ⟨d, hd, hrun⟩
          obtain ⟨hwant, hwp⟩ := hrun a' w' hF hW1 (hgot _)
          refine ⟨hwant, wp_false ?_ hwp⟩
          rintro a2 w2 ⟨v, row, rfl, hR, hg, hrow, _⟩
          have hdl : d < a'.tmps.size := by
            have := List.all_eq_true.1 hI o (List.mem_of_getElem? ho)
            rw [hd] at this
            rw [hF.size]
            simpa using this
          have hother : ∀ d', d' ≠ d → (a'.put (some d) v).tmps[d']? = a'.tmps[d']? := fun d' hne => by simp [Act.put, Array.getElem?_setIfInBounds_ne (Ne.symm hne)]
          have hself : (a'.put (some d) v).tmps[d]? = some v := by simp [Act.put, hdl]
          refine ⟨⟨by rw [size_put]; exact hF.size, hF.defers, fun d' h' => ?_⟩, fun d' hL => ?_, grown_empty hg (fun b hb => by obtain ⟨s', hs', _⟩ := hrow b hb; cases hs')⟩
          · rw [hother d' (fun e2 => h' i o ho (by rw [hd, e2]))]
            exact hF.out d' h'
          · by_cases hdd : d' = d
            · subst hdd
              exact ⟨v, hself, hR⟩
            · obtain ⟨j, o', h1, h2, h3⟩ := hL
              rw [hother d' hdd]
              refine hV d' ⟨j, o', h1, ?_, h3⟩
              rw [hson j] at h2
              split at h2
              · next hji => subst hji; rw [ho] at h1; cases h1; rw [hd] at h3; exact absurd (Option.some.inj h3).symm hdd
              · exact h2
        rcases (by have := lateAll_get h 0 hok' i o ho; rwa [Nat.zero_add] at this : i = s ∨ (waitsOn os i = true ∧ OwnOk P h a W0 (relR (putR a vals) (specOf [])) [] [] i o) ∨ ∀ W1, OwnOk P h a W1 (relR (putR a vals) (specOf [])) [] [] i o) with h1 | ⟨hon, hown⟩ | hown
        · exact absurd h1 his
        · have hsf : listed.getD s false = false := by
            cases hc : listed.getD s false with
            | false => rfl
            | true =>
              obtain ⟨x, hx, h1⟩ := Array.any_eq_true'.1 hon
              simp only [Bool.and_eq_true, beq_iff_eq] at h1
              have := (hD hc).2 x hx h1.1
              rw [h1.2, hun'] at this
              cases this
          obtain ⟨hwant, hwp⟩ := step W0 (hB hsf) hown
          refine ⟨hwant, wp_false ?_ hwp⟩
          rintro a2 w2 ⟨h1, h2, h3⟩
          refine ⟨h1, h2, fun _ => (hB hsf).trans (h3.mono (hB hsf).size), fun hs => ?_⟩
          rw [hson_s, hsf] at hs
          cases hs
        · obtain ⟨hwant, hwp⟩ := step w' (Below.refl _ _) (hown w')
          refine ⟨hwant, wp_false ?_ hwp⟩
          rintro a2 w2 ⟨h1, h2, h3⟩
          refine ⟨h1, h2, fun hs => ?_, fun hs => ?_⟩
          · rw [hson_s] at hs
            exact (hB hs).trans (h3.mono (hB hs).size)
          · rw [hson_s] at hs
            exact ⟨hC _ _ (hD hs).1 h3, fun x hx hb => hup _ ((hD hs).2 x hx hb)⟩)
    (by
      intro a' w' hI'
      obtain ⟨hF, hV, hB, hD⟩ := hI'
      have hsl : s < h.length := (List.getElem?_eq_some_iff.1 hos).1
      have hC2 := (hD (by simp [hsl])).1
      have ea : a' = putR a vals := by
        refine act_eq (Array.ext_getElem? fun d => ?_) (by rw [putR_defers]; exact hF.defers)
        by_cases hd : ∃ (i : Nat) (o : Oper), h[i]? = some o ∧ o.dst = some d
        · obtain ⟨i, o, h1, h2⟩ := hd
          obtain ⟨v, e1, e2⟩ := hV d ⟨i, o, h1, by simp [(List.getElem?_eq_some_iff.1 h1).1], h2⟩
          rw [e1, e2]
        · have hno : ∀ (i : Nat) (o : Oper), h[i]? = some o → o.dst ≠ some d := fun i o h1 h2 => hd ⟨i, o, h1, h2⟩
          rw [hF.out d hno, hfull.out d hno]
      have hfr := hfin w' hC2
      rw [← ea] at hfr
      show wpList P (h ++ l.drop n).toArray Q (l.drop n) a' w'
      rw [e]
      exact hfr)
    h.length (Array.replicate h.length false) a { w with drawn := w.drawn + 1 } (by simp) (by simp [open_])
    (by
      have hno : ∀ k, (Array.replicate h.length false).getD k false = true → False := fun k hk => by
        rw [Array.getD_eq_getD_getElem?, Array.getElem?_replicate] at hk
        split at hk <;> simp at hk
      exact ⟨⟨rfl, rfl, fun _ _ => rfl⟩, fun d hL => (by obtain ⟨i, o, _, hon, _⟩ := hL; exact (hno i hon).elim), fun _ => hw.drew, fun hs => (hno s hs).elim⟩)
  have h3 := lift_under (Q := Q) hE hG hT (by rw [e]; exact hS) h.length (Array.replicate h.length false) a _ (by simp) (by simp [open_]) (closed_none _) main
  rw [e] at h3
  have e1 : l.toArray.size = h.length + (l.drop n).length := by rw [← List.length_append, e]; simp
  rw [e1, show Array.replicate (h.length + (l.drop n).length) false = Array.replicate h.length false ++ Array.replicate (l.drop n).length false by simp]
  exact h3

/-- The store of one cell, in such a region. -/
theorem late_store {h : List Oper} {A0 A : Act} {W0 : World} {i : Nat} {o : Oper} {C2 : World → Prop} (hA : Full h A0 A (specOf []) []) (hg : o.guard = none) (hd : o.dst = none) (e : TypeId) (sz : ∀ w, (sizeOf e).run Tryz.prog w = .ok 1 w) (x y : Nat) (ho : o.op = .store e (.tmp x) (.tmp y)) (hwx : waitsFor h o x = true) (hwy : waitsFor h o y = true)
    (g k : Nat) (kd : IntKind) (v : Int) (hx : A.tmps[x]? = some (.pointer (some ⟨g, k, none⟩))) (hy : A.tmps[y]? = some (.int kd v)) (t : TypeId) (C : Array Value) (hB : ∀ w, Below W0.heap.size W0 w → Blk w g t C) (hk : k < C.size)
    (hC : ∀ w w', Below W0.heap.size W0 w → Blk w' g t (C.setIfInBounds k (.int kd v)) → Put w w' g → C2 w') :
    ∀ a' w', Fr h A0 a' → Below W0.heap.size W0 w' → GotE h [] (relR A (specOf [])) [] W0.heap.size i a' w' o →
      Region.wanted o (yielded h.toArray a'.tmps) = true ∧ o.wp Tryz.prog a' w' (fun a2 w2 => a2 = a' ∧ C2 w2) (fun _ _ _ => False) := by
  intro a' w' hF hb hgot
  have ex := gotE_det hA hgot hwx rfl rfl hx
  have ey := gotE_det hA hgot hwy rfl rfl hy
  refine ⟨by simp [Region.wanted, hg], ?_⟩
  have hgk := hB w' hb
  have hc : w'.cell? ⟨g, k, none⟩ = some C[k] := cell_row hgk (Array.getElem?_eq_getElem hk)
  have hf : w'.frozen? ⟨g, k, none⟩ = false := frozen_of_row w' g k C _ hgk
  have hrun : (execOp a'.eval o).run Tryz.prog w' = .ok .skip (w'.setCell ⟨g, k, none⟩ (.int kd v)) := by
    unfold execOp
    simp only [ho, ex, ey, Instr.storeAt, Instr.sureAddr, Sem.run_bind, Sem.run_pure, Result.andThen_ok]
    simp [storeVar, storeCells, sz, go_sem, hc, hf, Value.cells]
    try rfl
  unfold Oper.wp
  rw [hrun]
  refine ⟨by rw [hd]; rfl, hC w' _ hb (heap_setCell_same _ _ _ _ _ _ hgk) ⟨⟨rfl, rfl, rfl, by simp, fun j _ hj => heap_setCell_other w' ⟨g, k, none⟩ j _ (fun e => hj (by rw [e]))⟩, by simp⟩⟩
end Go.Proofs.YtjkdonjcngmjeaaGreatDoor.sh
/-
  A region that draws its order, in which operations may be left out by their guards; no operation takes a block over.
-/
namespace Go.Proofs.YtjkdonjcngmjeaaGreatDoor.sh
open Go Go.RowKit
set_option linter.unusedVariables false
set_option linter.unusedSimpArgs false

/-- An invariant carries any order, also where operations are left out. -/
theorem wpAny_skip {P : Program} {Q : Exit → Act → World → Prop} {l : List Oper} (I : Array Bool → Act → World → Prop) (hE : edgesIn l = true)
    (hstep : ∀ listed a w i o, listed.size = l.length → I listed a w → l[i]? = some o → listed.getD i true = false → (∀ e ∈ o.after, Region.binds .any e = true → listed.getD e.on false = true) →
      (Region.wanted o (yielded l.toArray a.tmps) = true ∧ o.wp P a w (fun a' w' => I (listed.setIfInBounds i true) a' w') Q) ∨ (Region.wanted o (yielded l.toArray a.tmps) = false ∧ I (listed.setIfInBounds i true) (a.put o.dst undef) w))
    (hdone : ∀ a w, I (Array.replicate l.length true) a w → Q .normal a w) :
    ∀ (fuel : Nat) (listed : Array Bool) (a : Act) (w : World), listed.size = l.length → open_ listed = fuel → I listed a w → wpAny P .any l.toArray Q fuel listed a w
  | 0, listed, a, w, hs, ho, hI => by
    have ha := all_true ho
    rw [hs] at ha
    refine ⟨?_, hdone a w (by rw [← ha]; exact hI)⟩
    rw [List.eq_nil_iff_forall_not_mem]
    intro j hj
    obtain ⟨h1, o, h2, _⟩ := mem_ready.1 hj
    have hl : j < l.length := by
      have := (Array.getElem?_eq_some_iff.1 h2).1
      simpa using this
    rw [ha] at h1
    simp [hl] at h1
  | f + 1, listed, a, w, hs, ho, hI => by
    refine ⟨fun hr => ?_, fun i hi => ?_⟩
    · obtain ⟨i, h1, h2⟩ := least_open (listed := listed) (by omega)
      have hil : i < l.length := by
        rcases Nat.lt_or_ge i l.length with h' | h'
        · exact h'
        · have : listed.size ≤ i := by omega
          simp [Array.getElem?_eq_none this] at h1
      have hm : i ∈ Region.ready .any l.toArray listed := mem_ready.2 ⟨h1, l[i], by simp [hil], fun e he hb => h2 _ (edge_lt hE (List.getElem?_eq_getElem hil) he hb)⟩
      rw [hr] at hm
      cases hm
    · obtain ⟨h1, o, h2, h3⟩ := mem_ready.1 hi
      have h2' : l[i]? = some o := by simpa using h2
      have next : ∀ a' w', I (listed.setIfInBounds i true) a' w' → wpAny P .any l.toArray Q f (listed.setIfInBounds i true) a' w' := fun a' w' h => wpAny_skip I hE hstep hdone f _ a' w' (by simpa using hs) (by have := open_set h1; omega) h
      rcases hstep listed a w i o hs hI h2' h1 h3 with ⟨hw, hwp⟩ | ⟨hw, hsk⟩
      · unfold wpOp
        simp only [h2, hw, if_true]
        left
        exact Oper.wp_mono next hwp
      · unfold wpOp
        simp only [h2, hw]
        exact next _ _ hsk

/-- What is asked of each operation: it is carried out, or left out. -/
def SkipOk (P : Program) (h : List Oper) (A0 : Act) (W0 : World) (R : Nat → Value → World → Prop) (i : Nat) (o : Oper) : Prop :=
  OwnOk P h A0 W0 R [] [] i o ∨ ∃ d, o.dst = some d ∧ ∀ a w, Fr h A0 a → GotE h [] R [] W0.heap.size i a w o → Region.wanted o (yielded h.toArray a.tmps) = false ∧ R d undef w
def SkipAll (P : Program) (h : List Oper) (A0 : Act) (W0 : World) (R : Nat → Value → World → Prop) : Nat → List Oper → Prop
  | _, [] => True
  | i, o :: r => SkipOk P h A0 W0 R i o ∧ SkipAll P h A0 W0 R (i + 1) r
theorem skipAll_get {P : Program} {h : List Oper} {A0 : Act} {W0 : World} {R : Nat → Value → World → Prop} : ∀ (r : List Oper) (k : Nat), SkipAll P h A0 W0 R k r → ∀ i o, r[i]? = some o → SkipOk P h A0 W0 R (k + i) o
  | [], _, _, i, o, ho => by simp at ho
  | x :: r, k, hr, 0, o, ho => by simp at ho; subst ho; exact hr.1
  | x :: r, k, hr, i + 1, o, ho => by
    have := skipAll_get r (k + 1) hr.2 i o (by simpa using ho)
    rwa [show k + 1 + i = k + (i + 1) from by omega] at this
theorem skip_at {P : Program} {h : List Oper} {A0 A : Act} {W0 : World} {S : Nat → Option (Value → World → Prop)} {sp : List Nat} {i : Nat} {o : Oper} (hA : Full h A0 A S sp) (j : Nat) (b c : Bool) (d s : Nat) (hg : o.guard = some (j, b)) (hj : (h[j]?).bind (·.dst) = some s) (hw : waitsFor h o s = true) (hs : sp.contains s = false) (hv : A.tmps[s]? = some (.bool c)) (hc : (c == b) = false) (hd : o.dst = some d) (hds : sp.contains d = false) (hu : A.tmps[d]? = some undef) : SkipOk P h A0 W0 (relR A S) i o :=
  .inr ⟨d, hd, fun a w _ hgot => by
    obtain ⟨u, e1, e2, _⟩ := hgot s hw rfl
    unfold relR at e2
    rw [hA.spec s (not_mem_of hs), hv] at e2
    cases e2
    have hcb : c ≠ b := by simpa using hc
    refine ⟨by simp [Region.wanted, hg, yielded, hj, e1, hcb], ?_⟩
    unfold relR
    rw [hA.spec d (not_mem_of hds)]
    exact hu⟩
theorem region_skipL {P : Program} {Q : Exit → Act → World → Prop} {id : Nat} {a : Act} {w : World} (W0 : World) (n : Nat) {l : List Oper} (vals : List (Nat × Value)) (L : List (Nat × (Value → World → Prop))) (hm : P.follows .mixedOrders = true)
    (hE : edgesIn (l.take n) = true) (hG : guardsIn (l.take n) = true) (hA : dstsApart (l.take n) 0 = true) (hI : dstsIn (l.take n) a.tmps.size = true) (hT : tailUnder (l.take n) (l.drop n) = true)
    (hS : Region.seqB .any l.toArray (l.drop n).length (l.take n).length (Array.replicate (l.take n).length true ++ Array.replicate (l.drop n).length false) = true)
    (hv : (vals.all fun p => (dstsOf (l.take n)).contains p.1) = true) (hsp : ((L.map (·.1)).all fun d => (dstsOf (l.take n)).contains d) = true)
    (hst : ∀ q ∈ L, ∀ (v : Value) (w w' : World), q.2 v w → Below w.heap.size w w' → q.2 v w') (hw : Below W0.heap.size W0 w)
    (hok : Full (l.take n) a (putR a vals) (specOf L) (L.map (·.1)) → SkipAll P (l.take n) a W0 (relR (putR a vals) (specOf L)) 0 (l.take n))
    (hfin : ∀ (f : Nat → Value) w', (∀ d p, specOf L d = some p → p (f d) w') → Below W0.heap.size W0 w' → wpList P l.toArray Q (l.drop n) (putR (putR a vals) ((L.map (·.1)).map fun d => (d, f d))) w') : (Code.region id l.toArray true).wp P Q a w := by
  have hfull : Full (l.take n) a (putR a vals) (specOf L) (L.map (·.1)) := full_put vals hv (specOf_none L)
  have hok' := hok hfull
  clear hok
  have hin : ∀ d, d ∈ L.map (·.1) → d ∈ dstsOf (l.take n) := fun d hd => List.contains_iff_mem.1 (List.all_eq_true.1 hsp d hd)
  have hkeep : ∀ d v (w w' : World), relR (putR a vals) (specOf L) d v w → Below w.heap.size w w' → relR (putR a vals) (specOf L) d v w' := fun d v w w' h1 h2 => by
    unfold relR at *
    cases hs : specOf L d with
    | none => rw [hs] at h1; exact h1
    | some p =>
      rw [hs] at h1
      obtain ⟨q, hq, rfl, rfl⟩ := specOf_mem' L d p hs
      exact hst q hq v w w' h1 h2
  have e : l.take n ++ l.drop n = l := List.take_append_drop n l
  refine wp_region_any hm ?_
  generalize hh : l.take n = h at *
  have main := wpAny_skip (P := P) (l := h) (Q := headPost P (h ++ l.drop n).toArray Q (l.drop n))
    (fun listed a' w' => Fr h a a' ∧ Below W0.heap.size W0 w' ∧ ∀ d, (∃ (i : Nat) (o : Oper), h[i]? = some o ∧ listed.getD i false = true ∧ o.dst = some d) → ∃ v, a'.tmps[d]? = some v ∧ relR (putR a vals) (specOf L) d v w') hE
    (by
      intro listed a' w' i o hls hI' ho hun hall
      obtain ⟨hF, hB, hV⟩ := hI'
      have hil : i < listed.size := by rw [hls]; exact (List.getElem?_eq_some_iff.1 ho).1
      have hson : ∀ k, (listed.setIfInBounds i true).getD k false = if k = i then true else listed.getD k false := fun k => by
        by_cases hk : k = i
        · subst hk; simp [hil]
        · rw [if_neg hk, getD_set_ne false (Ne.symm hk)]
      have hgot : GotE h [] (relR (putR a vals) (specOf L)) [] W0.heap.size i a' w' o := fun d hs hq => by
        obtain ⟨x, hx, h1⟩ := Array.any_eq_true'.1 hs
        simp only [Bool.and_eq_true] at h1
        cases ho' : h[x.on]? with
        | none => simp [ho'] at h1
        | some o' =>
          obtain ⟨v, e1, e2⟩ := hV d ⟨x.on, o', ho', hall x hx h1.1, by simpa [ho'] using h1.2⟩
          exact ⟨v, e1, e2, fun hc => by simp at hc⟩
      have step : ∀ d v w2, o.dst = some d → relR (putR a vals) (specOf L) d v w2 → Below w'.heap.size w' w2 → Fr h a (a'.put (some d) v) ∧ Below W0.heap.size W0 w2 ∧ ∀ d', (∃ (j : Nat) (o : Oper), h[j]? = some o ∧ (listed.setIfInBounds i true).getD j false = true ∧ o.dst = some d') → ∃ u, (a'.put (some d) v).tmps[d']? = some u ∧ relR (putR a vals) (specOf L) d' u w2 := by
        intro d v w2 hd hR hb
        have hdl : d < a'.tmps.size := by
          have := List.all_eq_true.1 hI o (List.mem_of_getElem? ho)
          rw [hd] at this
          rw [hF.size]
          simpa using this
        have hother : ∀ d', d' ≠ d → (a'.put (some d) v).tmps[d']? = a'.tmps[d']? := fun d' hne => by simp [Act.put, Array.getElem?_setIfInBounds_ne (Ne.symm hne)]
        have hself : (a'.put (some d) v).tmps[d]? = some v := by simp [Act.put, hdl]
        refine ⟨⟨by rw [size_put]; exact hF.size, hF.defers, fun d' h' => ?_⟩, hB.trans (hb.mono hB.size), fun d' hL => ?_⟩
        · rw [hother d' (fun e2 => h' i o ho (by rw [hd, e2]))]
          exact hF.out d' h'
        · by_cases hdd : d' = d
          · subst hdd
            exact ⟨v, hself, hR⟩
          · obtain ⟨j, o', h1, h2, h3⟩ := hL
            rw [hother d' hdd]
            have h2' : listed.getD j false = true := by
              rw [hson j] at h2
              split at h2
              · next hji => subst hji; rw [ho] at h1; cases h1; rw [hd] at h3; exact absurd (Option.some.inj h3).symm hdd
              · exact h2
            obtain ⟨u, e1, e2⟩ := hV d' ⟨j, o', h1, h2', h3⟩
            exact ⟨u, e1, hkeep d' u w' w2 e2 hb⟩
      rcases (by have := skipAll_get h 0 hok' i o ho; rwa [Nat.zero_add] at this : SkipOk P h a W0 (relR (putR a vals) (specOf L)) i o) with ⟨d, hd, hrun⟩ | ⟨d, hd, hskip⟩
      · obtain ⟨hwant, hwp⟩ := hrun a' w' hF hB hgot
        refine .inl ⟨hwant, wp_false ?_ hwp⟩
        rintro a2 w2 ⟨v, row, rfl, hR, hg, hrow, _⟩
        exact step d v w2 hd hR (grown_empty hg (fun b hb => by obtain ⟨s', hs', _⟩ := hrow b hb; cases hs'))
      · obtain ⟨hwant, hR⟩ := hskip a' w' hF hgot
        refine .inr ⟨hwant, ?_⟩
        rw [hd]
        exact step d undef w' hd hR (Below.refl _ _))
    (by
      intro a' w' hI'
      obtain ⟨hF, hB, hV⟩ := hI'
      have hall : ∀ d (i : Nat) (o : Oper), h[i]? = some o → o.dst = some d → ∃ v, a'.tmps[d]? = some v ∧ relR (putR a vals) (specOf L) d v w' := fun d i o h1 h2 => hV d ⟨i, o, h1, by simp [(List.getElem?_eq_some_iff.1 h1).1], h2⟩
      have hfr := hfin (fun d => (a'.tmps[d]?).getD undef) w' (fun d p hp => by
        obtain ⟨q, hq, e1, rfl⟩ := specOf_mem' L d p hp
        have hd := hin d (by rw [← e1]; exact List.mem_map.2 ⟨q, hq, rfl⟩)
        obtain ⟨o, ho, hdo⟩ := List.mem_filterMap.1 hd
        obtain ⟨i, hi, he⟩ := List.getElem_of_mem ho
        obtain ⟨v, e2, e3⟩ := hall d i o (by rw [List.getElem?_eq_getElem hi, he]) hdo
        simp only [e2, Option.getD_some]
        unfold relR at e3
        rw [hp] at e3
        exact e3) hB
      have ea : a' = putR (putR a vals) ((L.map (·.1)).map fun d => (d, (a'.tmps[d]?).getD undef)) := by
        refine act_eq (Array.ext_getElem? fun d => ?_) (by rw [putR_defers, putR_defers]; exact hF.defers)
        rw [putR_get', putR_size]
        by_cases hdl : d < a.tmps.size
        · rw [if_pos hdl]
          have hsm : a'.tmps[d]? = some ((a'.tmps[d]?).getD undef) := by
            rw [Array.getElem?_eq_getElem (show d < a'.tmps.size by rw [hF.size]; exact hdl)]
            rfl
          by_cases h2 : d ∈ L.map (·.1)
          · rw [if_pos h2]
            exact hsm
          · rw [if_neg h2]
            by_cases hd : ∃ (i : Nat) (o : Oper), h[i]? = some o ∧ o.dst = some d
            · obtain ⟨i, o, h1, h3⟩ := hd
              obtain ⟨v, e1, e2⟩ := hall d i o h1 h3
              unfold relR at e2
              rw [hfull.spec d h2] at e2
              rw [e1]
              exact e2.symm
            · have hno : ∀ (i : Nat) (o : Oper), h[i]? = some o → o.dst ≠ some d := fun i o h1 h3 => hd ⟨i, o, h1, h3⟩
              rw [hF.out d hno, hfull.out d hno]
        · rw [if_neg hdl, Array.getElem?_eq_none (by rw [hF.size]; omega)]
      rw [← ea] at hfr
      show wpList P (h ++ l.drop n).toArray Q (l.drop n) a' w'
      rw [e]
      exact hfr)
    h.length (Array.replicate h.length false) a { w with drawn := w.drawn + 1 } (by simp) (by simp [open_])
    (by
      have hno : ∀ k, (Array.replicate h.length false).getD k false = true → False := fun k hk => by
        rw [Array.getD_eq_getD_getElem?, Array.getElem?_replicate] at hk
        split at hk <;> simp at hk
      exact ⟨⟨rfl, rfl, fun _ _ => rfl⟩, hw.drew, fun d hL => (by obtain ⟨i, o, _, hon, _⟩ := hL; exact (hno i hon).elim)⟩)
  have h3 := lift_under (Q := Q) hE hG hT (by rw [e]; exact hS) h.length (Array.replicate h.length false) a _ (by simp) (by simp [open_]) (closed_none _) main
  rw [e] at h3
  have e1 : l.toArray.size = h.length + (l.drop n).length := by rw [← List.length_append, e]; simp
  rw [e1, show Array.replicate (h.length + (l.drop n).length) false = Array.replicate h.length false ++ Array.replicate (l.drop n).length false by simp]
  exact h3
end Go.Proofs.YtjkdonjcngmjeaaGreatDoor.sh
/-
  Sums of numbers, what is left modulo p, and the bytes of a number, by the program.
-/
namespace Go.Proofs.YtjkdonjcngmjeaaGreatDoor.sh
open Go Go.RowKit
set_option linter.unusedVariables false
set_option linter.unusedSimpArgs false

theorem nt_info : (Tryz.prog.info? 144).map (·.size) = some 3 := by kernel_rfl
theorem a16_info : (Tryz.prog.info? 83).map (·.size) = some 16 := by kernel_rfl
set_option maxHeartbeats 1000000 in
theorem plusN_any (x0 x1 x2 y0 y1 y2 : Nat) (w : World) (hx : x0 < 18446744073709551616 ∧ x1 < 18446744073709551616 ∧ x2 < 18446744073709551616) (hy : y0 < 18446744073709551616 ∧ y1 < 18446744073709551616 ∧ y2 < 18446744073709551616) :
    Calls Tryz.prog 89 #[.agg #[.int .u64 (x0 : Int), .int .u64 (x1 : Int), .int .u64 (x2 : Int)], .agg #[.int .u64 (y0 : Int), .int .u64 (y1 : Int), .int .u64 (y2 : Int)]] w
      fun e w' => ∃ z0 z1 z2 c : Nat, e = .returned (.agg #[.int .u64 (z0 : Int), .int .u64 (z1 : Int), .int .u64 (z2 : Int)]) ∧ Below w.heap.size w w' ∧
        Kept (z0 < 18446744073709551616 ∧ z1 < 18446744073709551616 ∧ z2 < 18446744073709551616 ∧ z0 + 18446744073709551616 * z1 + 340282366920938463463374607431768211456 * z2 + 6277101735386680763835789423207666416102355444464034512896 * c = x0 + 18446744073709551616 * x1 + 340282366920938463463374607431768211456 * x2 + (y0 + 18446744073709551616 * y1 + 340282366920938463463374607431768211456 * y2)) := by
  obtain ⟨z0, c0, h0, H0⟩ := call_add64_0 x0 y0
  obtain ⟨z1, c1, h1, H1⟩ := call_add64 x1 y1 c0 (by have := H0.out; have := hx.1; have := hy.1; omega)
  obtain ⟨z2, c2, h2, H2⟩ := call_add64 x2 y2 c1 (by have := H1.out; have := H0.out; have := hx.1; have := hy.1; have := hx.2.1; have := hy.2.1; omega)
  have HF : Kept (z0 < 18446744073709551616 ∧ z1 < 18446744073709551616 ∧ z2 < 18446744073709551616 ∧ z0 + 18446744073709551616 * z1 + 340282366920938463463374607431768211456 * z2 + 6277101735386680763835789423207666416102355444464034512896 * c2 = x0 + 18446744073709551616 * x1 + 340282366920938463463374607431768211456 * x2 + (y0 + 18446744073709551616 * y1 + 340282366920938463463374607431768211456 * y2)) := ⟨by
    have := H0.out; have := H1.out; have := H2.out
    omega⟩
  clear H0 H1 H2 hx hy
  go_enter Tryz.func89, Tryz.ntmps89
  go_wp2
  refine wp_loop_rounds 4 ?_
  rw [rounds_succ]
  go_wp2
  go_region
  go_wp2
  rw [rounds_succ]
  go_wp2
  go_region
  go_wp2
  rw [rounds_succ]
  go_wp2
  go_region
  go_wp2
  rw [rounds_succ]
  go_wp2
  refine bodyPost_ret (v := .agg #[.int .u64 (z0 : Int), .int .u64 (z1 : Int), .int .u64 (z2 : Int)]) (by simp [results, Tryz.results89, go_sem]) rfl ⟨z0, z1, z2, c2, rfl, ?_, HF⟩
  repeat (first | exact Below.refl _ _ | refine Below.drew ?_ | refine Below.alloc ?_ (by simp <;> omega) _ | refine Below.setCell ?_ (by simp <;> omega) _)

theorem plusD (N K : Nat) (w : World) (h : N + K < 6277101735386680763835789423207666416102355444464034512896) :
    Calls Tryz.prog 89 #[.agg (ints .u64 (nw N)), .agg (ints .u64 (nw K))] w fun e w' => e = .returned (.agg (ints .u64 (nw (N + K)))) ∧ Below w.heap.size w w' := by
  refine (plusN_any (wd N 0) (wd N 1) (wd N 2) (wd K 0) (wd K 1) (wd K 2) w ⟨wd_lt _ _, wd_lt _ _, wd_lt _ _⟩ ⟨wd_lt _ _, wd_lt _ _, wd_lt _ _⟩).mono ?_
  rintro e w' ⟨z0, z1, z2, c, rfl, hb, H⟩
  refine ⟨?_, hb⟩
  obtain ⟨h0, h1, h2, h3⟩ := H.out
  rw [nw_sum N (by omega), nw_sum K (by omega)] at h3
  rw [nw_of z0 z1 z2 (N + K) h0 h1 h2 (by omega)]
  rfl

theorem run_shr2 {o : Oper} {a : Act} {x : Operand} {m z : Nat} (ho : o.op = .binOp .shr 22 x (.const (.int .u64 2)) 96) (hx : a.eval x = .int .u64 (m : Int)) (hm : m < 18446744073709551616) (hz : z = m / 4) (w : World) : (execOp a.eval o).run Tryz.prog w = .ok (.value (.int .u64 (z : Int))) w := by
  have e3 : a.eval (.const (.int .u64 2)) = .int .u64 2 := rfl
  unfold execOp
  simp only [ho, hx, e3]
  rw [hz]
  simp [go_sem, Op.shift, IntKind.bits]
  exact Int.fdiv_eq_ediv_of_nonneg _ (by decide)
theorem run_and3 {o : Oper} {a : Act} {x : Operand} {m z : Nat} (ho : o.op = .binOp .and 22 x (.const (.int .u64 3)) 22) (hx : a.eval x = .int .u64 (m : Int)) (hm : m < 18446744073709551616) (hz : z = m % 4) (w : World) : (execOp a.eval o).run Tryz.prog w = .ok (.value (.int .u64 (z : Int))) w := by
  have e3 : a.eval (.const (.int .u64 3)) = .int .u64 3 := rfl
  have h := u64_and_nat m 3 hm (by decide)
  rw [show (3 : Nat) = 2 ^ 2 - 1 by decide, Nat.and_two_pow_sub_one_eq_mod] at h
  unfold execOp
  simp only [ho, hx, e3]
  rw [hz]
  simp [go_sem]
  exact h
theorem red_less (N : Nat) (h : N < 2722258935367507707706996859454145691638) (h0 : wd (N + 5) 2 / 4 = 0) : N % 1361129467683753853853498429727072845819 = N := by
  rw [wd2] at h0
  omega
theorem red_more (N : Nat) (h : N < 2722258935367507707706996859454145691638) (h0 : wd (N + 5) 2 / 4 ≠ 0) : nw (N % 1361129467683753853853498429727072845819) = [wd (N + 5) 0, wd (N + 5) 1, wd (N + 5) 2 % 4] := by
  refine nw_of _ _ _ _ (wd_lt _ _) (wd_lt _ _) (by omega) ?_
  have hs := nw_sum (N + 5) (by omega)
  generalize wd (N + 5) 0 = a at *
  generalize wd (N + 5) 1 = b at *
  generalize wd (N + 5) 2 = c at *
  have hc : c / 4 = 1 := by omega
  have hm : 1361129467683753853853498429727072845819 ≤ N := by omega
  have hmod : N % 1361129467683753853853498429727072845819 = N - 1361129467683753853853498429727072845819 := by rw [Nat.mod_eq_sub_mod hm]; exact Nat.mod_eq_of_lt (by omega)
  rw [hmod]
  omega

set_option maxRecDepth 100000 in
set_option maxHeartbeats 1000000 in
theorem reducedD (N : Nat) (w : World) (hN : N < 2722258935367507707706996859454145691638) :
    Calls Tryz.prog 92 #[.agg (ints .u64 (nw N))] w fun e w' => e = .returned (.agg (ints .u64 (nw (N % 1361129467683753853853498429727072845819)))) ∧ Below w.heap.size w w' := by
  obtain ⟨L, hL⟩ : ∃ L, L = nw (N % 1361129467683753853853498429727072845819) := ⟨_, rfl⟩
  obtain ⟨a, ha⟩ : ∃ a, a = nw N := ⟨_, rfl⟩
  obtain ⟨m, hm⟩ : ∃ m, m = nw (N + 5) := ⟨_, rfl⟩
  obtain ⟨m2, hm2⟩ : ∃ m, m = wd (N + 5) 2 := ⟨_, rfl⟩
  obtain ⟨q, hq⟩ : ∃ q, q = m2 / 4 := ⟨_, rfl⟩
  obtain ⟨r, hr⟩ : ∃ r, r = m2 % 4 := ⟨_, rfl⟩
  rw [← hL, ← ha]
  have LL : Kept (L.length = 3) := ⟨by rw [hL]; rfl⟩
  have LA : Kept (a.length = 3) := ⟨by rw [ha]; rfl⟩
  have LM : Kept (m.length = 3) := ⟨by rw [hm]; rfl⟩
  have G2 : Kept ((ints .u64 m)[2]? = some (.int .u64 (m2 : Int))) := ⟨ints_get (by rw [hm, hm2]; rfl)⟩
  have B2 : Kept (m2 < 18446744073709551616) := ⟨by rw [hm2]; exact wd_lt _ _⟩
  have Hq : Kept _ := ⟨hq⟩
  have Hr : Kept _ := ⟨hr⟩
  have C0 : Kept (q = 0 → L = a) := ⟨fun h => by rw [hL, ha, red_less N hN (by rw [← hm2, ← hq, h])]⟩
  have C1 : Kept (q ≠ 0 → m.set 2 r = L) := ⟨fun h => by rw [hL, red_more N hN (by rw [← hm2, ← hq]; exact h), hm, hr, hm2]; rfl⟩
  have CP : Kept (∀ w', Calls Tryz.prog 89 #[.agg (ints .u64 a), .agg #[.int .u64 5, .int .u64 0, .int .u64 0]] w' fun e w2 => e = .returned (.agg (ints .u64 m)) ∧ Below w'.heap.size w' w2) := ⟨fun w' => by rw [ha, hm]; exact plusD N 5 w' (by omega)⟩
  obtain ⟨ZZ, hZZ⟩ : ∃ ZZ : Array Value, ZZ = #[.int .u64 0, .int .u64 0, .int .u64 0] := ⟨_, rfl⟩
  have LZ : Kept (ZZ.size = 3) := ⟨by rw [hZZ]; rfl⟩
  have A0 : Blk ((w.alloc (.cells (ints .u64 a) 144)).alloc (.cells #[.int .u64 0, .int .u64 0, .int .u64 0] 144)) w.heap.size 144 (ints .u64 a) := (blk_new w _ _).alloc _
  have A1 : Blk ((w.alloc (.cells (ints .u64 a) 144)).alloc (.cells #[.int .u64 0, .int .u64 0, .int .u64 0] 144)) (w.heap.size + 1) 144 ZZ := by rw [hZZ]; exact blk_top _ _ _ _ (by simp)
  have Q0 : Below w.heap.size w ((w.alloc (.cells (ints .u64 a) 144)).alloc (.cells #[.int .u64 0, .int .u64 0, .int .u64 0] 144)) := ((Below.refl _ _).alloc (Nat.le_refl _) _).alloc (by simp) _
  clear hL ha hm hm2 hq hr hN hZZ
  go_enter Tryz.func92, Tryz.ntmps92
  go_wp2_with (first | ((with_reducible refine wv_row (d := 4) ?hd ?hw 144 (.tmp 1) ?ho (w.heap.size) ?hx (t' := 144) (ints .u64 a) _ _ Tryz.underlying144 ?hs ?hg ?_); (case hd => rfl); (case hw => kernel_rfl); (case ho => rfl); (case hx => kernel_rfl); (case hs => rw [ints_size, LA.out]; exact nt_info); (case hg => exact A0); simp only [Act.put, List.setIfInBounds_toArray, List.set_cons_succ, List.set_cons_zero]))
  refine (CP.out _).mono ?_
  rintro e w1 ⟨rfl, hb1⟩
  have B0 := A0.under hb1
  have B1 := A1.under hb1
  have Q1 := Q0.trans (hb1.mono Q0.size)
  have hl1 : w.heap.size + 1 < w1.heap.size := B1.lt
  clear A0 A1 Q0 hb1 CP
  go_wp2_with (first | (refine wl_store rfl 144 (.tmp 3) (.tmp 6) rfl w1.heap.size (ints .u64 m) rfl rfl _ (blk_new w1 _ _) (by rw [ints_size, LM.out]; exact nt_info) (by rw [ints_size, LM.out]; rfl) (ints_one _ _) ?_))
  intro w3 A3 P3
  have C0' := P3.blk (B0.alloc _) (by omega)
  have C1' := P3.blk (B1.alloc _) (by omega)
  have Q3 := (Q1.alloc Q1.size _).trans (P3.below (by omega))
  generalize hg3 : w1.heap.size = g3 at *
  clear B0 B1 Q1 P3
  have KA : Kept _ := ⟨A3⟩
  by_cases hq0 : q = 0
  · have e := C0.out hq0
    subst e
    subst hq0
    clear C0 C1
    go_wp2_with (first | ((with_reducible refine wv_elem (d := 8) ?hd ?hw 22 ag_u64 (.tmp 7) ?ho (⟨g3, 2, none⟩) ?hx (.int .u64 (m2 : Int)) ?hc ?_); (case hd => rfl); (case hw => kernel_rfl); (case ho => rfl); (case hx => kernel_rfl); (case hc => exact KA.out.cell G2.out); simp only [Act.put, List.setIfInBounds_toArray, List.set_cons_succ, List.set_cons_zero]) | ((with_reducible refine wv_val (d := 9) ?hd ?hw (.int .u64 (0 : Int)) ?hr ?_); (case hd => rfl); (case hw => kernel_rfl); (case hr => intro w; exact run_shr2 (z := 0) rfl (by kernel_rfl) B2.out Hq.out w); simp only [Act.put, List.setIfInBounds_toArray, List.set_cons_succ, List.set_cons_zero]) | (refine wl_load rfl 144 (.tmp 1) rfl (w.heap.size) rfl (ints .u64 L) 3 22 Tryz.underlying144 (by rw [ints_size, LL.out]; exact nt_info) C0' ?_) | (refine wl_store rfl 144 (.tmp 2) (.tmp 11) rfl _ (ints .u64 L) rfl rfl _ C1' (by rw [ints_size, LL.out]; exact nt_info) (by rw [ints_size, LL.out, LZ.out]) (ints_one _ _) ?_))
    intro w5 A5 P5
    go_wp2
    exact bodyPost_ret (v := .agg (ints .u64 L)) (results_cell_row Tryz.results92 _ _ _ 144 (ints .u64 L) (0, 0) _ rfl A5 Tryz.underlying144 rfl (by rw [ints_size, LL.out]; exact nt_info)) rfl ⟨rfl, Q3.trans (P5.below (by omega))⟩
  · have e := C1.out hq0
    have EM : Kept _ := ⟨e⟩
    have hqi : ¬ (q : Int) = 0 := by omega
    clear C0 C1 e
    go_wp2_with (first | ((with_reducible refine wv_elem (d := 8) ?hd ?hw 22 ag_u64 (.tmp 7) ?ho (⟨g3, 2, none⟩) ?hx (.int .u64 (m2 : Int)) ?hc ?_); (case hd => rfl); (case hw => kernel_rfl); (case ho => rfl); (case hx => kernel_rfl); (case hc => exact KA.out.cell G2.out); simp only [Act.put, List.setIfInBounds_toArray, List.set_cons_succ, List.set_cons_zero]) | ((with_reducible refine wv_val (d := 9) ?hd ?hw (.int .u64 (q : Int)) ?hr ?_); (case hd => rfl); (case hw => kernel_rfl); (case hr => intro w; exact run_shr2 rfl (by kernel_rfl) B2.out Hq.out w); simp only [Act.put, List.setIfInBounds_toArray, List.set_cons_succ, List.set_cons_zero]) | ((with_reducible refine wv_elem (d := 13) ?hd ?hw 22 ag_u64 (.tmp 12) ?ho (⟨g3, 2, none⟩) ?hx (.int .u64 (m2 : Int)) ?hc ?_); (case hd => rfl); (case hw => kernel_rfl); (case ho => rfl); (case hx => kernel_rfl); (case hc => exact KA.out.cell G2.out); simp only [Act.put, List.setIfInBounds_toArray, List.set_cons_succ, List.set_cons_zero]) | ((with_reducible refine wv_val (d := 14) ?hd ?hw (.int .u64 (r : Int)) ?hr ?_); (case hd => rfl); (case hw => kernel_rfl); (case hr => intro w; exact run_and3 rfl (by kernel_rfl) B2.out Hr.out w); simp only [Act.put, List.setIfInBounds_toArray, List.set_cons_succ, List.set_cons_zero]) | (refine wl_setElem rfl 22 sz_u64 (.tmp 15) (.tmp 14) rfl g3 2 .u64 (r : Int) rfl rfl _ KA.out (by rw [ints_size, LM.out]; decide) ?_))
    intro w4 A4 P4
    rw [ints_set, EM.out] at A4
    have C1'' := P4.blk C1' (by omega)
    have Q4 := Q3.trans (P4.below (by omega))
    clear C0' C1' Q3 P4 KA A3
    go_wp2_with (first | (refine wl_load rfl 144 (.tmp 3) rfl g3 rfl (ints .u64 L) 3 22 Tryz.underlying144 (by rw [ints_size, LL.out]; exact nt_info) A4 ?_) | (refine wl_store rfl 144 (.tmp 2) (.tmp 16) rfl _ (ints .u64 L) rfl rfl _ C1'' (by rw [ints_size, LL.out]; exact nt_info) (by rw [ints_size, LL.out, LZ.out]) (ints_one _ _) ?_))
    intro w5 A5 P5
    go_wp2
    exact bodyPost_ret (v := .agg (ints .u64 L)) (results_cell_row Tryz.results92 _ _ _ 144 (ints .u64 L) (0, 0) _ rfl A5 Tryz.underlying144 rfl (by rw [ints_size, LL.out]; exact nt_info)) rfl ⟨rfl, Q4.trans (P5.below (by omega))⟩
end Go.Proofs.YtjkdonjcngmjeaaGreatDoor.sh
