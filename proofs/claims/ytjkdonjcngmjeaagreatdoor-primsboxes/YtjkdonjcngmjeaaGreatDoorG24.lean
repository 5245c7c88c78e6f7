/-
  General pieces, joined: SHM CH.
-/
import Derived.Test.YtjkdonjcngmjeaaGreatDoorG23
/-
  A region that draws its order, in which stores may stand that change nothing (each writes what the cell holds).
-/
namespace Go.Proofs.YtjkdonjcngmjeaaGreatDoor.sh
open Go Go.RowKit
set_option linter.unusedVariables false
set_option linter.unusedSimpArgs false

/-- What is asked of each operation: it is carried out, or left out, or writes what is there. -/
def SkipOkM (P : Program) (h : List Oper) (A0 : Act) (W0 : World) (R : Nat → Value → World → Prop) (i : Nat) (o : Oper) : Prop :=
  SkipOk P h A0 W0 R i o ∨ (o.dst = none ∧ ∀ a w, Fr h A0 a → Below W0.heap.size W0 w → GotE h [] R [] W0.heap.size i a w o → Region.wanted o (yielded h.toArray a.tmps) = true ∧ o.wp P a w (fun a' w' => a' = a ∧ w' = w) (fun _ _ _ => False))
def SkipAllM (P : Program) (h : List Oper) (A0 : Act) (W0 : World) (R : Nat → Value → World → Prop) : Nat → List Oper → Prop
  | _, [] => True
  | i, o :: r => SkipOkM P h A0 W0 R i o ∧ SkipAllM P h A0 W0 R (i + 1) r
theorem skipAllM_get {P : Program} {h : List Oper} {A0 : Act} {W0 : World} {R : Nat → Value → World → Prop} : ∀ (r : List Oper) (k : Nat), SkipAllM P h A0 W0 R k r → ∀ i o, r[i]? = some o → SkipOkM P h A0 W0 R (k + i) o
  | [], _, _, i, o, ho => by simp at ho
  | x :: r, k, hr, 0, o, ho => by simp at ho; subst ho; exact hr.1
  | x :: r, k, hr, i + 1, o, ho => by
    have := skipAllM_get r (k + 1) hr.2 i o (by simpa using ho)
    rwa [show k + 1 + i = k + (i + 1) from by omega] at this
theorem setCell_same {w : World} {g k : Nat} {t : TypeId} {A : Array Value} {v : Value} (hg : Blk w g t A) (hk : A[k]? = some v) : w.setCell ⟨g, k, none⟩ v = w := by
  have e : w.heap.modify g (fun o => match o with | .cells c elem frozen => .cells (if (none : Option Nat).isSome then c else c.setIfInBounds k v) elem frozen | o => o) = w.heap := by
    apply Array.ext_getElem?
    intro i
    rw [Array.getElem?_modify]
    by_cases h : g = i
    · subst h
      rw [if_pos rfl]
      have h2 : A.setIfInBounds k v = A := by
        apply Array.ext_getElem?
        intro j
        by_cases hj : k = j
        · subst hj
          rw [Array.getElem?_setIfInBounds_self, hk]
          simp [(Array.getElem?_eq_some_iff.1 hk).1]
        · rw [Array.getElem?_setIfInBounds_ne hj]
      have hg' : w.heap[g]? = some (.cells A t (0, 0)) := hg
      rw [hg']
      simp [h2]
    · rw [if_neg h]
  unfold World.setCell
  show ({ w with heap := _ } : World) = w
  cases w
  simp only [World.mk.injEq, and_true, true_and] at e ⊢
  exact e
/-- A store that writes what is there. -/
theorem same_store {h : List Oper} {A0 A : Act} {W0 : World} {R : Nat → Value → World → Prop} {S : Nat → Option (Value → World → Prop)} {sp : List Nat} {i : Nat} {o : Oper} (hA : Full h A0 A S sp) (hR : R = relR A S) (hgd : o.guard = none) (hd : o.dst = none) (e : TypeId) (sz : ∀ w, (sizeOf e).run Tryz.prog w = .ok 1 w) (p s : Nat) (ho : o.op = .store e (.tmp p) (.tmp s)) (g k : Nat) (v : Value) (hp : (h.all fun o => decide (o.dst ≠ some p)) = true) (hp0 : A0.tmps[p]? = some (.pointer (some ⟨g, k, none⟩))) (hw : waitsFor h o s = true) (hs : sp.contains s = false) (hv : A.tmps[s]? = some v) (h1 : v.oneCell' = true) {t : TypeId} (B : Array Value) (hg : Blk W0 g t B) (hk : B[k]? = some v) : SkipOkM Tryz.prog h A0 W0 R i o :=
  .inr ⟨hd, fun a w hF hB hgot => by
    subst hR
    obtain ⟨u, e1, e2, _⟩ := hgot s hw rfl
    unfold relR at e2
    rw [hA.spec s (not_mem_of hs), hv] at e2
    cases e2
    have hpa : a.tmps[p]? = some (.pointer (some ⟨g, k, none⟩)) := by
      rw [hF.out p (fun i o ho' hd' => by
        have := List.all_eq_true.1 hp o (List.mem_of_getElem? ho')
        simp at this
        exact this hd')]
      exact hp0
    refine ⟨by simp [Region.wanted, hgd], ?_⟩
    have hgw : Blk w g t B := hg.under hB
    have hc : w.cell? ⟨g, k, none⟩ = some v := cell_row hgw hk
    have hf : w.frozen? ⟨g, k, none⟩ = false := frozen_of_row w g k B _ hgw
    have hv : v.cells = #[v] := by cases v <;> simp_all [Value.oneCell', Value.cells]
    have hv' := hv
    unfold Value.cells at hv'
    have x1 : a.eval (.tmp p) = .pointer (some ⟨g, k, none⟩) := by simp [Act.eval, hpa]
    have x2 : a.eval (.tmp s) = v := by simp [Act.eval, e1]
    have hrun : (execOp a.eval o).run Tryz.prog w = .ok .skip w := by
      unfold execOp
      simp only [ho, x1, x2, Instr.storeAt, Instr.sureAddr, Sem.run_bind, Sem.run_pure, Result.andThen_ok]
      simp [storeVar, storeCells, sz, go_sem, hc, hf, hv']
      rw [run_store _ _ _ _ _ h1, hc]
      simp [hf, setCell_same hgw hk]
    unfold Oper.wp
    rw [hrun]
    exact ⟨by rw [hd]; rfl, rfl⟩⟩

theorem region_skipM {P : Program} {Q : Exit → Act → World → Prop} {id : Nat} {a : Act} {w : World} (W0 : World) (n : Nat) {l : List Oper} (vals : List (Nat × Value)) (L : List (Nat × (Value → World → Prop))) (hm : P.follows .mixedOrders = true)
    (hE : edgesIn (l.take n) = true) (hG : guardsIn (l.take n) = true) (hA : dstsApart (l.take n) 0 = true) (hI : dstsIn (l.take n) a.tmps.size = true) (hT : tailUnder (l.take n) (l.drop n) = true)
    (hS : Region.seqB .any l.toArray (l.drop n).length (l.take n).length (Array.replicate (l.take n).length true ++ Array.replicate (l.drop n).length false) = true)
    (hv : (vals.all fun p => (dstsOf (l.take n)).contains p.1) = true) (hsp : ((L.map (·.1)).all fun d => (dstsOf (l.take n)).contains d) = true)
    (hst : ∀ q ∈ L, ∀ (v : Value) (w w' : World), q.2 v w → Below w.heap.size w w' → q.2 v w') (hw : Below W0.heap.size W0 w)
    (hok : Full (l.take n) a (putR a vals) (specOf L) (L.map (·.1)) → SkipAllM P (l.take n) a W0 (relR (putR a vals) (specOf L)) 0 (l.take n))
    (hfin : ∀ (f : Nat → Value) w', (∀ d p, specOf L d = some p → p (f d) w') → Below W0.heap.size W0 w' → wpList P l.toArray Q (l.drop n) (putR (putR a vals) ((L.map (·.1)).map fun d => (d, f d))) w') : (Code.region id l.toArray true).wp P Q a w := by
  have hfull : Full (l.take n) a (putR a vals) (specOf L) (L.map (·.1)) := full_put vals hv (specOf_none L)
  have hok' := hok hfull
  clear hok
  have hin : ∀ d, d ∈ L.map (·.1) → d ∈ dstsOf (l.take n) := fun d hd => List.contains_iff_mem.1 (List.all_eq_true.1 hsp d hd)
  have hkeep : ∀ d v (w w' : World), relR (putR a vals) (specOf L) d v w → Below w.heap.size w w' → relR (putR a vals) (specOf L) d v w' := fun d v w w' h1 h2 => by
    unfold relR at *
    cases hs : specOf L d with
    | none => rw [hs] at h1; exact h1
    | some p =>
      rw [hs] at h1
      obtain ⟨q, hq, rfl, rfl⟩ := specOf_mem' L d p hs
      exact hst q hq v w w' h1 h2
  have e : l.take n ++ l.drop n = l := List.take_append_drop n l
  refine wp_region_any hm ?_
  generalize hh : l.take n = h at *
  have main := wpAny_skip (P := P) (l := h) (Q := headPost P (h ++ l.drop n).toArray Q (l.drop n))
    (fun listed a' w' => Fr h a a' ∧ Below W0.heap.size W0 w' ∧ ∀ d, (∃ (i : Nat) (o : Oper), h[i]? = some o ∧ listed.getD i false = true ∧ o.dst = some d) → ∃ v, a'.tmps[d]? = some v ∧ relR (putR a vals) (specOf L) d v w') hE
    (by
      intro listed a' w' i o hls hI' ho hun hall
      obtain ⟨hF, hB, hV⟩ := hI'
      have hil : i < listed.size := by rw [hls]; exact (List.getElem?_eq_some_iff.1 ho).1
      have hson : ∀ k, (listed.setIfInBounds i true).getD k false = if k = i then true else listed.getD k false := fun k => by
        by_cases hk : k = i
        · subst hk; simp [hil]
        · rw [if_neg hk, getD_set_ne false (Ne.symm hk)]
      have hgot : GotE h [] (relR (putR a vals) (specOf L)) [] W0.heap.size i a' w' o := fun d hs hq => by
        obtain ⟨x, hx, h1⟩ := Array.any_eq_true'.1 hs
        simp only [Bool.and_eq_true] at h1
        cases ho' : h[x.on]? with
        | none => simp [ho'] at h1
        | some o' =>
          obtain ⟨v, e1, e2⟩ := hV d ⟨x.on, o', ho', hall x hx h1.1, by simpa [ho'] using h1.2⟩
          exact ⟨v, e1, e2, fun hc => by simp at hc⟩
      have step : ∀ d v w2, o.dst = some d → relR (putR a vals) (specOf L) d v w2 → Below w'.heap.size w' w2 → Fr h a (a'.put (some d) v) ∧ Below W0.heap.size W0 w2 ∧ ∀ d', (∃ (j : Nat) (o : Oper), h[j]? = some o ∧ (listed.setIfInBounds i true).getD j false = true ∧ o.dst = some d') → ∃ u, (a'.put (some d) v).tmps[d']? = some u ∧ relR (putR a vals) (specOf L) d' u w2 := by
        intro d v w2 hd hR hb
        have hdl : d < a'.tmps.size := by
          have := List.all_eq_true.1 hI o (List.mem_of_getElem? ho)
          rw [hd] at this
          rw [hF.size]
          simpa using this
        have hother : ∀ d', d' ≠ d → (a'.put (some d) v).tmps[d']? = a'.tmps[d']? := fun d' hne => by simp [Act.put, Array.getElem?_setIfInBounds_ne (Ne.symm hne)]
        have hself : (a'.put (some d) v).tmps[d]? = some v := by simp [Act.put, hdl]
        refine ⟨⟨by rw [size_put]; exact hF.size, hF.defers, fun d' h' => ?_⟩, hB.trans (hb.mono hB.size), fun d' hL => ?_⟩
        · rw [hother d' (fun e2 => h' i o ho (by rw [hd, e2]))]
          exact hF.out d' h'
        · by_cases hdd : d' = d
          · subst hdd
            exact ⟨v, hself, hR⟩
          · obtain ⟨j, o', h1, h2, h3⟩ := hL
            rw [hother d' hdd]
            have h2' : listed.getD j false = true := by
              rw [hson j] at h2
              split at h2
              · next hji => subst hji; rw [ho] at h1; cases h1; rw [hd] at h3; exact absurd (Option.some.inj h3).symm hdd
              · exact h2
            obtain ⟨u, e1, e2⟩ := hV d' ⟨j, o', h1, h2', h3⟩
            exact ⟨u, e1, hkeep d' u w' w2 e2 hb⟩
      rcases (by have := skipAllM_get h 0 hok' i o ho; rwa [Nat.zero_add] at this : SkipOkM P h a W0 (relR (putR a vals) (specOf L)) i o) with (⟨d, hd, hrun⟩ | ⟨d, hd, hskip⟩) | ⟨hd, hrun⟩
      · obtain ⟨hwant, hwp⟩ := hrun a' w' hF hB hgot
        refine .inl ⟨hwant, wp_false ?_ hwp⟩
        rintro a2 w2 ⟨v, row, rfl, hR, hg, hrow, _⟩
        exact step d v w2 hd hR (grown_empty hg (fun b hb => by obtain ⟨s', hs', _⟩ := hrow b hb; cases hs'))
      · obtain ⟨hwant, hR⟩ := hskip a' w' hF hgot
        refine .inr ⟨hwant, ?_⟩
        rw [hd]
        exact step d undef w' hd hR (Below.refl _ _)
      · obtain ⟨hwant, hwp⟩ := hrun a' w' hF hB hgot
        refine .inl ⟨hwant, wp_false ?_ hwp⟩
        rintro a2 w2 ⟨rfl, rfl⟩
        refine ⟨hF, hB, fun d' hL => ?_⟩
        obtain ⟨j, o', h1, h2, h3⟩ := hL
        have h2' : listed.getD j false = true := by
          rw [hson j] at h2
          split at h2
          · next hji => subst hji; rw [ho] at h1; cases h1; rw [hd] at h3; cases h3
          · exact h2
        exact hV d' ⟨j, o', h1, h2', h3⟩)
    (by
      intro a' w' hI'
      obtain ⟨hF, hB, hV⟩ := hI'
      have hall : ∀ d (i : Nat) (o : Oper), h[i]? = some o → o.dst = some d → ∃ v, a'.tmps[d]? = some v ∧ relR (putR a vals) (specOf L) d v w' := fun d i o h1 h2 => hV d ⟨i, o, h1, by simp [(List.getElem?_eq_some_iff.1 h1).1], h2⟩
      have hfr := hfin (fun d => (a'.tmps[d]?).getD undef) w' (fun d p hp => by
        obtain ⟨q, hq, e1, rfl⟩ := specOf_mem' L d p hp
        have hd := hin d (by rw [← e1]; exact List.mem_map.2 ⟨q, hq, rfl⟩)
        obtain ⟨o, ho, hdo⟩ := List.mem_filterMap.1 hd
        obtain ⟨i, hi, he⟩ := List.getElem_of_mem ho
        obtain ⟨v, e2, e3⟩ := hall d i o (by rw [List.getElem?_eq_getElem hi, he]) hdo
        simp only [e2, Option.getD_some]
        unfold relR at e3
        rw [hp] at e3
        exact e3) hB
      have ea : a' = putR (putR a vals) ((L.map (·.1)).map fun d => (d, (a'.tmps[d]?).getD undef)) := by
        refine act_eq (Array.ext_getElem? fun d => ?_) (by rw [putR_defers, putR_defers]; exact hF.defers)
        rw [putR_get', putR_size]
        by_cases hdl : d < a.tmps.size
        · rw [if_pos hdl]
          have hsm : a'.tmps[d]? = some ((a'.tmps[d]?).getD undef) := by
            rw [Array.getElem?_eq_getElem (show d < a'.tmps.size by rw [hF.size]; exact hdl)]
            rfl
          by_cases h2 : d ∈ L.map (·.1)
          · rw [if_pos h2]
            exact hsm
          · rw [if_neg h2]
            by_cases hd : ∃ (i : Nat) (o : Oper), h[i]? = some o ∧ o.dst = some d
            · obtain ⟨i, o, h1, h3⟩ := hd
              obtain ⟨v, e1, e2⟩ := hall d i o h1 h3
              unfold relR at e2
              rw [hfull.spec d h2] at e2
              rw [e1]
              exact e2.symm
            · have hno : ∀ (i : Nat) (o : Oper), h[i]? = some o → o.dst ≠ some d := fun i o h1 h3 => hd ⟨i, o, h1, h3⟩
              rw [hF.out d hno, hfull.out d hno]
        · rw [if_neg hdl, Array.getElem?_eq_none (by rw [hF.size]; omega)]
      rw [← ea] at hfr
      show wpList P (h ++ l.drop n).toArray Q (l.drop n) a' w'
      rw [e]
      exact hfr)
    h.length (Array.replicate h.length false) a { w with drawn := w.drawn + 1 } (by simp) (by simp [open_])
    (by
      have hno : ∀ k, (Array.replicate h.length false).getD k false = true → False := fun k hk => by
        rw [Array.getD_eq_getD_getElem?, Array.getElem?_replicate] at hk
        split at hk <;> simp at hk
      exact ⟨⟨rfl, rfl, fun _ _ => rfl⟩, hw.drew, fun d hL => (by obtain ⟨i, o, _, hon, _⟩ := hL; exact (hno i hon).elim)⟩)
  have h3 := lift_under (Q := Q) hE hG hT (by rw [e]; exact hS) h.length (Array.replicate h.length false) a _ (by simp) (by simp [open_]) (closed_none _) main
  rw [e] at h3
  have e1 : l.toArray.size = h.length + (l.drop n).length := by rw [← List.length_append, e]; simp
  rw [e1, show Array.replicate (h.length + (l.drop n).length) false = Array.replicate h.length false ++ Array.replicate (l.drop n).length false by simp]
  exact h3
end Go.Proofs.YtjkdonjcngmjeaaGreatDoor.sh
/-
  codec.apart: what a text says, or that it says nothing.
-/
namespace Go.Proofs.YtjkdonjcngmjeaaGreatDoor.sh
open Go Go.RowKit
set_option linter.unusedVariables false
set_option linter.unusedSimpArgs false

set_option maxRecDepth 100000 in
set_option maxHeartbeats 1000000 in
/-- The door, of a panic: whatever was told, nothing is told. -/
theorem door_panic {b : Nat} {x y z : Value} {W : World} {tmps : Array Value} {R : Ending → World → Prop} (h1 : Blk W b 5 #[x]) (h2 : Blk W (b + 1) 43 #[y]) (h3 : Blk W (b + 2) 4 #[z])
    (t2 : tmps[2]? = some (.pointer (some ⟨b, 0, none⟩))) (t3 : tmps[3]? = some (.pointer (some ⟨b + 1, 0, none⟩))) (t4 : tmps[4]? = some (.pointer (some ⟨b + 2, 0, none⟩)))
    (hR : ∀ w', Below b W w' → R (.returned (.tuple #[.int .u8 0, .slice none 0 0, .bool false])) w') :
    bodyPostD Tryz.prog Tryz.f69 R (.panic [{ v := PV, recovered := false }]) { tmps := tmps, defers := [{ target := .fn (.func 109) #[.pointer (some ⟨b, 0, none⟩), .pointer (some ⟨b + 1, 0, none⟩), .pointer (some ⟨b + 2, 0, none⟩)], args := #[] }] } W := by
  refine leaves_cons (f := 109) (args := #[.pointer (some ⟨b, 0, none⟩), .pointer (some ⟨b + 1, 0, none⟩), .pointer (some ⟨b + 2, 0, none⟩)]) (by simp) (by simp [go_sem]) ?_
  refine (rec_panic b x y z W h1 h2 h3).mono ?_
  rintro e u' w' ⟨rfl, rfl, hw⟩
  have c1 : W.cell? ⟨b, 0, none⟩ = some x := cell_row h1 rfl
  have c2 : W.cell? ⟨b + 1, 0, none⟩ = some y := cell_row h2 rfl
  have c3 : W.cell? ⟨b + 2, 0, none⟩ = some z := cell_row h3 rfl
  have d1 : w'.cell? ⟨b, 0, none⟩ = some (.int .u8 0) := by rw [hw]; simp [go_sem, c1, c2, c3]
  have d2 : w'.cell? ⟨b + 1, 0, none⟩ = some (.slice none 0 0) := by rw [hw]; simp [go_sem, c1, c2, c3]
  have d3 : w'.cell? ⟨b + 2, 0, none⟩ = some (.bool false) := by rw [hw]; simp [go_sem, c1, c2, c3]
  have hB : Below b W w' := by
    rw [hw]
    exact (((Below.refl b W).setCell (p := ⟨b, 0, none⟩) (Nat.le_refl _) _).setCell (p := ⟨b + 1, 0, none⟩) (by simp) _).setCell (p := ⟨b + 2, 0, none⟩) (by simp) _
  have hr := hR w' hB
  clear hR hw
  simp [Leaves, settle, results, Tryz.results69, go_sem, Array.getD_eq_getD_getElem?, t2, t3, t4, d1, d2, d3]
  exact hr

/-- What lies in memory while a text is gone through. -/
structure AS (w0 : World) (k : Nat) (v : Value) (ll : List (List Nat)) (rest : List Nat) (w : World) : Prop where
  kind : Blk w w0.heap.size 5 #[.int .u8 (k : Int)]
  list : Blk w (w0.heap.size + 1) 43 #[v]
  ok : Blk w (w0.heap.size + 2) 4 #[.bool false]
  wk : Wk (w0.heap.size + 3) rest w
  row : VRow (w0.heap.size + 4) 9 (strs ll) v w
  below : Below w0.heap.size w0 w
  size : w0.heap.size + 4 ≤ w.heap.size
theorem AS.drew {w0 : World} {k : Nat} {v : Value} {ll : List (List Nat)} {rest : List Nat} {w : World} (h : AS w0 k v ll rest w) : AS w0 k v ll rest { w with drawn := w.drawn + 1 } := ⟨h.kind, h.list, h.ok, h.wk, h.row, h.below.drew, h.size⟩
theorem AS.step {w0 : World} {k : Nat} {v : Value} {ll : List (List Nat)} {rest rest' : List Nat} {w w' : World} (h : AS w0 k v ll rest w) (hg : w.grownBy w' (some (w0.heap.size + 3))) (hk : Wk (w0.heap.size + 3) rest' w') : AS w0 k v ll rest' w' :=
  ⟨gb_blk hg h.kind (by omega), gb_blk hg h.list (by omega), gb_blk hg h.ok (by omega), hk, h.row.keeps hg (by
    cases hb : blkOf v with
    | none => exact .inl rfl
    | some b =>
      have := (h.row.range b hb).1
      exact .inr (fun e => by cases e; omega)), h.below.trans (gb_below hg (by have := h.size; omega) (by omega)), Nat.le_trans h.size hg.size⟩
theorem as_new (w : World) (s : List Nat) : AS w 0 (.slice none 0 0) [] s ((((w.alloc (.cells #[.int .u8 0] 5)).alloc (.cells #[.slice none 0 0] 43)).alloc (.cells #[.bool false] 4)).alloc (.cells #[.string (strOf s)] 175)) :=
  ⟨(((blk_new w _ _).alloc _).alloc _).alloc _, ((blk_top _ _ _ _ (by simp)).alloc _).alloc _, (blk_top _ _ _ _ (by simp)).alloc _, blk_top _ _ _ _ (by simp), vrow_nil _ _ _, ((((Below.refl _ _).alloc (Nat.le_refl _) _).alloc (by simp) _).alloc (by simp; omega) _).alloc (by simp; omega) _, by simp⟩
theorem split_short {s : List Nat} (h : s.length < 3) : splitL s = none := by
  unfold splitL
  match s, h with
  | [], _ => simp
  | [a], _ => simp
  | [a, b], _ => simp
theorem split_stuck {x k n : Nat} {r rest : List Nat} {done : List (List Nat)} (hy : Bytes (x :: k :: n :: r)) (hr : r = itemsL done ++ rest) (hn : done.length < n) (hs : Short rest) : splitL (x :: k :: n :: r) = none := by
  cases h : splitL (x :: k :: n :: r) with
  | none => rfl
  | some q =>
    obtain ⟨k', ll⟩ := q
    have h1 := ((splitL_says hy).1 h).1
    unfold joinL at h1
    simp only [List.cons.injEq] at h1
    obtain ⟨_, _, h2, h3⟩ := h1
    obtain ⟨l, e0, e1, e2, _⟩ := cut_stuck (q := []) (ll := ll) (done := done) (rest := rest) (by rw [List.append_nil, ← h3, hr]) (by omega)
    rcases hs with rfl | ⟨y, rfl⟩ | ⟨y, z, r', rfl, h4⟩
    · simp at e0
    · simp at e1
    · simp at e0 e1 e2
      omega
theorem split_end {x k n : Nat} {r rest : List Nat} {done : List (List Nat)} (hy : Bytes (x :: k :: n :: r)) (hr : r = itemsL done ++ rest) (hn : done.length = n) : splitL (x :: k :: n :: r) = if x = 1 ∧ rest = [] ∧ Fits done then some (k, done) else none := by
  by_cases hc : x = 1 ∧ rest = [] ∧ Fits done
  · obtain ⟨h1, h2, h3⟩ := hc
    rw [if_pos ⟨h1, h2, h3⟩]
    have : x :: k :: n :: r = joinL k done := by unfold joinL; rw [h1, hn, hr, h2, List.append_nil]
    rw [this]
    exact splitL_join h3
  · rw [if_neg hc]
    cases h : splitL (x :: k :: n :: r) with
    | none => rfl
    | some q =>
      obtain ⟨k', ll⟩ := q
      have hs := (splitL_says hy).1 h
      have h1 := hs.1
      unfold joinL at h1
      simp only [List.cons.injEq] at h1
      obtain ⟨h0, _, h2, h3⟩ := h1
      obtain ⟨e1, e2⟩ := items_prefix (ll := ll) (mm := done) (r := []) (q := rest) (by omega) (by rw [List.append_nil, ← h3, hr])
      exact absurd ⟨h0, e2.symm, by rw [← e1]; exact hs.2⟩ hc
theorem short_or {n : Nat} (l : List Nat) : Short l ∨ ∃ x y r, l = x :: y :: r ∧ 256 * x + y ≤ r.length := by
  match l with
  | [] => exact .inl (.inl rfl)
  | [x] => exact .inl (.inr (.inl ⟨x, rfl⟩))
  | x :: y :: r =>
    by_cases h : r.length < 256 * x + y
    · exact .inl (.inr (.inr ⟨x, y, r, rfl, h⟩))
    · exact .inr ⟨x, y, r, rfl, by omega⟩
theorem sz_strs : ∀ w, (sizeOf 43).run Tryz.prog w = .ok 1 w := Tryz.sizeOf43
theorem ag_strs : ∀ w, (isAgg 43).run Tryz.prog w = .ok false w := Tryz.isAgg43
/-- What is told of a text that says something. -/
def Told (b : Nat) (s : List Nat) (K V : Value) (w : World) : Prop := ∀ k ll, splitL s = some (k, ll) → K = .int .u8 (k : Int) ∧ VRow b 9 (strs ll) V w
theorem told_none {b : Nat} {s : List Nat} {K V : Value} {w : World} (h : splitL s = none) : Told b s K V w := fun k ll e => by rw [h] at e; cases e
def APost (b : Nat) (w0 : World) (s : List Nat) (O : Bool) (e : Ending) (w : World) : Prop := (∃ K V, e = .returned (.tuple #[K, V, .bool O]) ∧ Told b s K V w) ∧ Below w0.heap.size w0 w

set_option maxRecDepth 100000 in
set_option maxHeartbeats 1000000 in
theorem apart_short {s : List Nat} {w : World} (hs : Bytes s) (h3 : s.length < 3) :
    Calls Tryz.prog 69 #[.string (strOf s)] w fun e w' => APost w.heap.size w s false e w' := by
  have hmf : ∀ (fn : Fn) (first cap : Array Value) (w : World), (Instr.makeFunc fn first cap).run Tryz.prog w = .ok (.func fn first cap) w := fun _ _ _ _ => rfl
  have hN := split_short h3
  have fin : Kept (∀ w1 w2, AS w 0 (.slice none 0 0) [] [] w1 ∨ True → Below w.heap.size w w1 → Below w.heap.size w1 w2 → APost w.heap.size w s false (.returned (.tuple #[.int .u8 0, .slice none 0 0, .bool false])) w2) := ⟨fun w1 w2 _ h1 h2 => ⟨⟨_, _, rfl, told_none hN⟩, h1.trans h2⟩⟩
  match s, hs, h3 with
  | [], hs, _ =>
    have A0 := as_new w []
    go_enter_defers Tryz.func69, Tryz.ntmps69
    go_wp2_with fail
    refine (number_dies A0.wk).mono ?_
    rintro e w1 ⟨hd, rfl⟩
    obtain rfl := hd
    exact door_panic A0.kind A0.list A0.ok rfl rfl rfl (fun w2 h2 => fin.out _ w2 (.inr trivial) A0.below h2)
  | [x], hs, _ =>
    have A0 := as_new w [x]
    have C1 := number_ok A0.wk (hs 0 x rfl) hs (by simp)
    go_enter_defers Tryz.func69, Tryz.ntmps69
    go_wp2_with fail
    refine C1.mono ?_
    rintro e w1 ⟨rfl, b1, p1⟩
    have A1 := A0.step p1.grown b1
    clear A0 b1 p1
    go_wp2_with fail
    refine (number_dies A1.wk).mono ?_
    rintro e w2 ⟨hd, rfl⟩
    obtain rfl := hd
    exact door_panic A1.kind A1.list A1.ok rfl rfl rfl (fun w2 h2 => fin.out _ w2 (.inr trivial) A1.below h2)
  | [x, k], hs, _ =>
    have A0 := as_new w [x, k]
    have C1 := number_ok A0.wk (hs 0 x rfl) hs (by simp)
    have hk : k < 256 := hs 1 k rfl
    have C2 := fun w2 (h2 : Wk (w.heap.size + 3) [k] w2) => number_ok h2 hk (bytes_of_all (fun y hy => by simp at hy; omega)) (by simp)
    go_enter_defers Tryz.func69, Tryz.ntmps69
    go_wp2_with fail
    refine C1.mono ?_
    rintro e w1 ⟨rfl, b1, p1⟩
    have A1 := A0.step p1.grown b1
    clear A0 b1 p1
    go_wp2_with fail
    refine (C2 _ A1.wk).mono ?_
    rintro e w2 ⟨rfl, b2, p2⟩
    have A2 := A1.step p2.grown b2
    clear A1 b2 p2
    go_wp2_with (first | ((with_reducible refine wv_val (d := 14) ?hd ?hw (.int .u8 (k : Int)) ?hr ?_); (case hd => rfl); (case hw => kernel_rfl); (case hr => intro w; exact run_c38 rfl (by kernel_rfl) hk w); simp only [Act.put, List.setIfInBounds_toArray, List.set_cons_succ, List.set_cons_zero]) | (refine wl_set1 rfl 5 sz_u8 (.tmp 2) (.tmp 14) rfl w.heap.size 0 (.int .u8 (k : Int)) rfl rfl rfl _ A2.kind Nat.zero_lt_one ?_))
    intro w3 b3 p3
    have A3l := p3.blk A2.list (by omega)
    have A3o := p3.blk A2.ok (by omega)
    have A3w : Wk (w.heap.size + 3) [] w3 := p3.blk A2.wk (by omega)
    have A3b := A2.below.trans (p3.below (Nat.le_refl _))
    clear A2 p3
    go_wp2_with fail
    refine (number_dies A3w).mono ?_
    rintro e w4 ⟨hd, rfl⟩
    obtain rfl := hd
    exact door_panic b3 A3l A3o rfl rfl rfl (fun w2 h2 => fin.out _ w2 (.inr trivial) A3b h2)
end Go.Proofs.YtjkdonjcngmjeaaGreatDoor.sh
