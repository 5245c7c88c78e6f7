/-
  General pieces, joined: XU XM XN XQ YA.
-/
import Derived.Test.YtkibojjbghopkaaDoorG31
import Derived.Test.YtkibojjbghopkaaDoorG30
import Derived.Test.YtkibojjbghopkaaDoorG27
import Derived.Test.YtkibojjbghopkaaDoorG28
import Derived.Test.YtkibojjbghopkaaDoorG36
import Derived.Test.YtkibojjbghopkaaDoorG35
import Derived.Test.YtkibojjbghopkaaDoorG32
import Derived.Test.YtkibojjbghopkaaDoorG33
import Derived.Test.YtkibojjbghopkaaDoorG34
import Derived.Test.YtkibojjbghopkaaDoorG01
/-
  Regions that draw their order, where no operation takes a block over: what a slot holds may be a pair whose slice is new.
-/
namespace Go.Proofs.YtkibojjbghopkaaDoor.sh
open Go Go.RowKit
set_option linter.unusedVariables false
set_option linter.unusedSimpArgs false

theorem grown_empty {w w' : World} {row : Option Nat} (h : w.grownBy w' row) (hr : ∀ b, row = some b → False) : Below w.heap.size w w' := ⟨h.os, h.tape, h.output, h.size, fun k hk => h.block k hk (fun e => hr k e.symm)⟩
/-- A region that draws its order: each of the first n operations makes a value of which R holds; owners' blocks are apart; the last operations wait for all of those. -/
theorem region_ownN {P : Program} {Q : Exit → Act → World → Prop} {id : Nat} {a : Act} {w : World} (W0 : World) (n : Nat) {l : List Oper} (R : Nat → Value → World → Prop) (O : List Nat) (E : List (Nat × Nat)) (ds : List Nat) (hm : P.follows .mixedOrders = true)
    (hE : edgesIn (l.take n) = true) (hG : guardsIn (l.take n) = true) (hA : dstsApart (l.take n) 0 = true) (hI : dstsIn (l.take n) a.tmps.size = true) (hT : tailUnder (l.take n) (l.drop n) = true)
    (hS : Region.seqB .any l.toArray (l.drop n).length (l.take n).length (Array.replicate (l.take n).length true ++ Array.replicate (l.drop n).length false) = true)
    (hEw : (E.all fun q => O.contains q.2 && match (l.take n)[q.1]? with | some o => waitsFor (l.take n) o q.2 | none => false) = true) (hEn : apartB (E.map (·.2)) = true)
    (hds : dstsOf (l.take n) = ds)
    (hst1 : ∀ d v w w', O.contains d = false → R d v w → Below W0.heap.size W0 w → Below W0.heap.size w w' → (E = [] → Below w.heap.size w w') → R d v w')
    (hst2 : ∀ d v w w' row, O.contains d = true → R d v w → w.grownBy w' row → (blkOf v = none ∨ blkOf v ≠ row) → (∀ b, blkOf v = some b → b < w.heap.size) → R d v w') (hw : Below W0.heap.size W0 w)
    (hok : OwnAll P (l.take n) a W0 R O E 0 (l.take n))
    (hfin : ∀ (f : Nat → Value) w', (∀ d ∈ ds, d ∉ E.map (·.2) → R d (f d) w' ∧ (O.contains d = true → ∀ b, blkOf (f d) = some b → W0.heap.size ≤ b ∧ b < w'.heap.size)) →
      (∀ d ∈ ds, ∀ d' ∈ ds, d ∉ E.map (·.2) → d' ∉ E.map (·.2) → O.contains d = true → O.contains d' = true → d ≠ d' → ∀ b, blkOf (f d) = some b → blkOf (f d') ≠ some b) → Below W0.heap.size W0 w' →
      wpList P l.toArray Q (l.drop n) (putR a (ds.map fun d => (d, f d))) w') : (Code.region id l.toArray true).wp P Q a w := by
  have e : l.take n ++ l.drop n = l := List.take_append_drop n l
  refine wp_region_any hm ?_
  generalize hh : l.take n = h at *
  have hEw' : ∀ q ∈ E, O.contains q.2 = true ∧ ∃ o, h[q.1]? = some o ∧ waitsFor h o q.2 = true := fun q hq => by
    have := List.all_eq_true.1 hEw q hq
    simp only [Bool.and_eq_true] at this
    refine ⟨this.1, ?_⟩
    cases ho : h[q.1]? with
    | none => simp [ho] at this
    | some o => exact ⟨o, rfl, by simpa [ho] using this.2⟩
  have main := wpAny_inv (P := P) (l := h) (Q := headPost P (h ++ l.drop n).toArray Q (l.drop n))
    (fun listed a' w' => Fr h a a' ∧ Below W0.heap.size W0 w' ∧ (∀ d, Liv h E listed d → ∃ v, a'.tmps[d]? = some v ∧ R d v w' ∧ (O.contains d = true → ∀ b, blkOf v = some b → W0.heap.size ≤ b ∧ b < w'.heap.size)) ∧
      ∀ d d', Liv h E listed d → Liv h E listed d' → O.contains d = true → O.contains d' = true → d ≠ d' → ∀ b, (a'.tmps[d]?).bind blkOf = some b → (a'.tmps[d']?).bind blkOf ≠ some b) hE
    (by
      intro listed a' w' i o hls hI' ho hun hall
      obtain ⟨hF, hB, hV, hD⟩ := hI'
      have hil : i < listed.size := by rw [hls]; exact (List.getElem?_eq_some_iff.1 ho).1
      have hun' : listed.getD i false = false := by simpa [hil] using hun
      obtain ⟨d, hd, hrun⟩ := by have := ownAll_get h 0 hok i o ho; rwa [Nat.zero_add] at this
      have hson : ∀ k, (listed.setIfInBounds i true).getD k false = if k = i then true else listed.getD k false := fun k => by
        by_cases hk : k = i
        · subst hk; simp [hil]
        · rw [if_neg hk, getD_set_ne false (Ne.symm hk)]
      have hlist : ∀ s, waitsFor h o s = true → ∃ (j : Nat) (o' : Oper), h[j]? = some o' ∧ listed.getD j false = true ∧ o'.dst = some s := fun s hs => by
        obtain ⟨x, hx, h1⟩ := Array.any_eq_true'.1 hs
        simp only [Bool.and_eq_true] at h1
        cases ho' : h[x.on]? with
        | none => simp [ho'] at h1
        | some o' => exact ⟨x.on, o', ho', hall x hx h1.1, by simpa [ho'] using h1.2⟩
      have hgot : GotE h E R O W0.heap.size i a' w' o := fun s hs hq => hV s ⟨hlist s hs, fun q hq' he => by
        have := List.all_eq_true.1 hq q hq'
        simp only [he, bne_self_eq_false, Bool.false_or, beq_iff_eq] at this
        rw [this]
        exact hun'⟩
      have hSe : ∀ s, (i, s) ∈ E → Liv h E listed s ∧ O.contains s = true := fun s hs => by
        obtain ⟨h1, o', h2, h3⟩ := hEw' _ hs
        rw [ho] at h2
        cases h2
        refine ⟨⟨hlist s h3, fun q hq he => ?_⟩, h1⟩
        have := apart_eq E hEn q hq (i, s) hs he
        rw [this]
        exact hun'
      obtain ⟨hwant, hwp⟩ := hrun a' w' hF hB hgot
      refine ⟨hwant, wp_false ?_ hwp⟩
      rintro a2 w2 ⟨v, row, rfl, hR, hg, hrow, hblk⟩
      have hdl : d < a'.tmps.size := by
        have := List.all_eq_true.1 hI o (List.mem_of_getElem? ho)
        rw [hd] at this
        rw [hF.size]
        simpa using this
      have hother : ∀ d', d' ≠ d → (a'.put (some d) v).tmps[d']? = a'.tmps[d']? := fun d' hne => by simp [Act.put, Array.getElem?_setIfInBounds_ne (Ne.symm hne)]
      have hself : (a'.put (some d) v).tmps[d]? = some v := by simp [Act.put, hdl]
      have hrange : ∀ s, (i, s) ∈ E → ∀ b, (a'.tmps[s]?).bind blkOf = some b → W0.heap.size ≤ b ∧ b < w'.heap.size := fun s hs b hb => by
        obtain ⟨h1, h2⟩ := hSe s hs
        obtain ⟨u, e1, _, e3⟩ := hV s h1
        rw [e1] at hb
        exact e3 h2 b hb
      have hBw : Below W0.heap.size w' w2 := grown_mono hg hB.size (fun b hb => by
        obtain ⟨s, hs, hb'⟩ := hrow b hb
        exact (hrange s hs b hb').1)
      have hold : ∀ d', Liv h E (listed.setIfInBounds i true) d' → d' ≠ d → Liv h E listed d' := fun d' hL hne => by
        obtain ⟨⟨j, o', h1, h2, h3⟩, h4⟩ := hL
        refine ⟨⟨j, o', h1, ?_, h3⟩, fun q hq he => ?_⟩
        · rw [hson j] at h2
          split at h2
          · next hji => subst hji; rw [ho] at h1; cases h1; rw [hd] at h3; exact absurd (Option.some.inj h3).symm hne
          · exact h2
        · have := h4 q hq he
          rw [hson q.1] at this
          split at this
          · cases this
          · exact this
      have hne_s : ∀ s d', (i, s) ∈ E → Liv h E (listed.setIfInBounds i true) d' → s ≠ d' := fun s d' hs hL he => by
        have := hL.2 (i, s) hs he
        rw [hson i, if_pos rfl] at this
        cases this
      refine ⟨⟨by rw [size_put]; exact hF.size, hF.defers, fun d' h' => ?_⟩, hB.trans hBw, fun d' hL => ?_, fun d1 d2 hL1 hL2 hO1 hO2 hne b hb1 hb2 => ?_⟩
      · rw [hother d' (fun e2 => h' i o ho (by rw [hd, e2]))]
        exact hF.out d' h'
      · by_cases hdd : d' = d
        · subst hdd
          refine ⟨v, hself, hR, fun hO b hb => ?_⟩
          rcases hblk hO b hb with ⟨h1, h2⟩ | ⟨s, hs, hb'⟩
          · exact ⟨Nat.le_trans hB.size h1, h2⟩
          · have := hrange s hs b hb'
            exact ⟨this.1, Nat.lt_of_lt_of_le this.2 hg.size⟩
        · have hL' := hold d' hL hdd
          obtain ⟨u, e1, e2, e3⟩ := hV d' hL'
          refine ⟨u, by rw [hother d' hdd]; exact e1, ?_, fun hO b hb => ⟨(e3 hO b hb).1, Nat.lt_of_lt_of_le (e3 hO b hb).2 hg.size⟩⟩
          cases hO : O.contains d' with
          | false => exact hst1 d' u w' w2 hO e2 hB hBw (fun hE0 => grown_empty hg (fun b hb => by obtain ⟨s, hs, _⟩ := hrow b hb; rw [hE0] at hs; cases hs))
          | true =>
            refine hst2 d' u w' w2 row hO e2 hg ?_ (fun b hb => (e3 hO b hb).2)
            cases hb : blkOf u with
            | none => exact .inl rfl
            | some b =>
              refine .inr fun hr => ?_
              obtain ⟨s, hs, hb'⟩ := hrow b hr.symm
              obtain ⟨h1, h2⟩ := hSe s hs
              exact hD s d' h1 hL' h2 hO (hne_s s d' hs hL) b hb' (by rw [e1]; exact hb)
      · by_cases h1 : d1 = d
        · subst h1
          have h2 : d2 ≠ d1 := Ne.symm hne
          have hL2' := hold d2 hL2 h2
          rw [hother d2 h2] at hb2
          rw [hself] at hb1
          rcases hblk hO1 b hb1 with ⟨h3, _⟩ | ⟨s, hs, hb'⟩
          · obtain ⟨u, e1, _, e3⟩ := hV d2 hL2'
            rw [e1] at hb2
            have := (e3 hO2 b hb2).2
            omega
          · obtain ⟨h4, h5⟩ := hSe s hs
            exact hD s d2 h4 hL2' h5 hO2 (hne_s s d2 hs hL2) b hb' hb2
        · have hL1' := hold d1 hL1 h1
          rw [hother d1 h1] at hb1
          by_cases h2 : d2 = d
          · subst h2
            rw [hself] at hb2
            rcases hblk hO2 b hb2 with ⟨h3, _⟩ | ⟨s, hs, hb'⟩
            · obtain ⟨u, e1, _, e3⟩ := hV d1 hL1'
              rw [e1] at hb1
              have := (e3 hO1 b hb1).2
              omega
            · obtain ⟨h4, h5⟩ := hSe s hs
              exact hD s d1 h4 hL1' h5 hO1 (hne_s s d1 hs hL1) b hb' hb1
          · rw [hother d2 h2] at hb2
            exact hD d1 d2 hL1' (hold d2 hL2 h2) hO1 hO2 hne b hb1 hb2)
    (by
      intro a' w' hI'
      obtain ⟨hF, hB, hV, hD⟩ := hI'
      have hliv : ∀ d ∈ ds, d ∉ E.map (·.2) → Liv h E (Array.replicate h.length true) d := fun d hd hn => by
        rw [← hds] at hd
        obtain ⟨o, ho, hd'⟩ := List.mem_filterMap.1 hd
        obtain ⟨i, hi, he⟩ := List.getElem_of_mem ho
        exact ⟨⟨i, o, by rw [List.getElem?_eq_getElem hi, he], by simp [hi], hd'⟩, fun q hq he => absurd (List.mem_map.2 ⟨q, hq, he⟩) hn⟩
      have hsome : ∀ d ∈ ds, ∃ v, a'.tmps[d]? = some v := fun d hd => by
        rw [← hds] at hd
        obtain ⟨o, ho, hd'⟩ := List.mem_filterMap.1 hd
        have := List.all_eq_true.1 hI o ho
        rw [hd'] at this
        exact ⟨_, Array.getElem?_eq_getElem (by rw [hF.size]; simpa using this)⟩
      have hfr := hfin (fun d => (a'.tmps[d]?).getD undef) w' (fun d hd hn => by obtain ⟨v, h1, h2⟩ := hV d (hliv d hd hn); simp only [h1, Option.getD_some]; exact h2)
        (fun d hd d' hd' hn hn' hO hO' hne b hb hb' => by
          obtain ⟨v, h1, _⟩ := hV d (hliv d hd hn)
          obtain ⟨v', h1', _⟩ := hV d' (hliv d' hd' hn')
          simp only [h1, h1', Option.getD_some] at hb hb'
          exact hD d d' (hliv d hd hn) (hliv d' hd' hn') hO hO' hne b (by rw [h1]; exact hb) (by rw [h1']; exact hb')) hB
      have ea : a' = putR a (ds.map fun d => (d, (a'.tmps[d]?).getD undef)) := by
        refine act_eq (Array.ext_getElem? fun d => ?_) (by rw [putR_defers]; exact hF.defers)
        by_cases hdl : d < a.tmps.size
        · rw [putR_get (fun d => (a'.tmps[d]?).getD undef) d ds a hdl]
          by_cases hd : d ∈ ds
          · rw [if_pos hd]
            obtain ⟨v, h1⟩ := hsome d hd
            simp [h1]
          · rw [if_neg hd]
            refine hF.out d fun i o ho hd' => hd ?_
            rw [← hds]
            exact List.mem_filterMap.2 ⟨o, List.mem_of_getElem? ho, hd'⟩
        · rw [Array.getElem?_eq_none (by rw [hF.size]; omega), Array.getElem?_eq_none (by rw [putR_size]; omega)]
      rw [← ea] at hfr
      show wpList P (h ++ l.drop n).toArray Q (l.drop n) a' w'
      rw [e]
      exact hfr)
    h.length (Array.replicate h.length false) a { w with drawn := w.drawn + 1 } (by simp) (by simp [open_])
    ⟨⟨rfl, rfl, fun _ _ => rfl⟩, hw.drew, fun d hL => by
      exfalso
      obtain ⟨⟨i, o, _, hon, _⟩, _⟩ := hL
      rw [Array.getD_eq_getD_getElem?, Array.getElem?_replicate] at hon
      split at hon <;> simp at hon, fun d d' hL => by
      exfalso
      obtain ⟨⟨i, o, _, hon, _⟩, _⟩ := hL
      rw [Array.getD_eq_getD_getElem?, Array.getElem?_replicate] at hon
      split at hon <;> simp at hon⟩
  have h3 := lift_under (Q := Q) hE hG hT (by rw [e]; exact hS) h.length (Array.replicate h.length false) a _ (by simp) (by simp [open_]) (closed_none _) main
  rw [e] at h3
  have e1 : l.toArray.size = h.length + (l.drop n).length := by rw [← List.length_append, e]; simp
  rw [e1, show Array.replicate (h.length + (l.drop n).length) false = Array.replicate h.length false ++ Array.replicate (l.drop n).length false by simp]
  exact h3
theorem region_ownNL {P : Program} {Q : Exit → Act → World → Prop} {id : Nat} {a : Act} {w : World} (W0 : World) (n : Nat) {l : List Oper} (vals : List (Nat × Value)) (L : List (Nat × (Value → World → Prop))) (O : List Nat) (E : List (Nat × Nat)) (hm : P.follows .mixedOrders = true)
    (hE : edgesIn (l.take n) = true) (hG : guardsIn (l.take n) = true) (hA : dstsApart (l.take n) 0 = true) (hI : dstsIn (l.take n) a.tmps.size = true) (hT : tailUnder (l.take n) (l.drop n) = true)
    (hS : Region.seqB .any l.toArray (l.drop n).length (l.take n).length (Array.replicate (l.take n).length true ++ Array.replicate (l.drop n).length false) = true)
    (hv : (vals.all fun p => (dstsOf (l.take n)).contains p.1) = true) (hsp : ((L.map (·.1)).all fun d => (dstsOf (l.take n)).contains d) = true) (hO : (O.all fun d => (L.map (·.1)).contains d) = true)
    (hEw : (E.all fun q => O.contains q.2 && match (l.take n)[q.1]? with | some o => waitsFor (l.take n) o q.2 | none => false) = true) (hEn : apartB (E.map (·.2)) = true)
    (hst1 : ∀ q ∈ L, O.contains q.1 = false → ∀ (v : Value) (w w' : World), q.2 v w → Below W0.heap.size W0 w → Below W0.heap.size w w' → (E = [] → Below w.heap.size w w') → q.2 v w')
    (hst2 : ∀ q ∈ L, O.contains q.1 = true → ∀ (v : Value) (w w' : World) (row : Option Nat), q.2 v w → w.grownBy w' row → (blkOf v = none ∨ blkOf v ≠ row) → (∀ b, blkOf v = some b → b < w.heap.size) → q.2 v w') (hw : Below W0.heap.size W0 w)
    (hok : Full (l.take n) a (putR a vals) (specOf L) (L.map (·.1)) → OwnAll P (l.take n) a W0 (relR (putR a vals) (specOf L)) O E 0 (l.take n))
    (hfin : ∀ (f : Nat → Value) w', (∀ d p, specOf L d = some p → (E.map (·.2)).contains d = false → p (f d) w' ∧ (O.contains d = true → ∀ b, blkOf (f d) = some b → W0.heap.size ≤ b ∧ b < w'.heap.size)) →
      (∀ d d', O.contains d = true → O.contains d' = true → (E.map (·.2)).contains d = false → (E.map (·.2)).contains d' = false → d ≠ d' → ∀ b, blkOf (f d) = some b → blkOf (f d') ≠ some b) → Below W0.heap.size W0 w' →
      wpList P l.toArray Q (l.drop n) (putR (putR a vals) ((L.map (·.1)).map fun d => (d, f d))) w') : (Code.region id l.toArray true).wp P Q a w := by
  have hfull : Full (l.take n) a (putR a vals) (specOf L) (L.map (·.1)) := full_put vals hv (specOf_none L)
  have hOL : ∀ d, O.contains d = true → d ∈ L.map (·.1) := fun d hd => List.contains_iff_mem.1 (List.all_eq_true.1 hO d (List.contains_iff_mem.1 hd))
  have hEO : ∀ d, d ∈ E.map (·.2) → d ∈ L.map (·.1) := fun d hd => by
    obtain ⟨q, hq, rfl⟩ := List.mem_map.1 hd
    have := List.all_eq_true.1 hEw q hq
    simp only [Bool.and_eq_true] at this
    exact hOL _ this.1
  have hin : ∀ d, d ∈ L.map (·.1) → d ∈ dstsOf (l.take n) := fun d hd => List.contains_iff_mem.1 (List.all_eq_true.1 hsp d hd)
  have hnc : ∀ d, (E.map (·.2)).contains d = false → d ∉ E.map (·.2) := fun d h hm => by rw [List.contains_iff_mem.2 hm] at h; cases h
  refine region_ownN W0 n (relR (putR a vals) (specOf L)) O E _ hm hE hG hA hI hT hS hEw hEn rfl ?_ ?_ hw (hok hfull) ?_
  · intro d v w w' hd h1 h2 h3 h9
    unfold relR at *
    cases hs : specOf L d with
    | none => rw [hs] at h1; exact h1
    | some p =>
      rw [hs] at h1
      obtain ⟨q, hq, rfl, rfl⟩ := specOf_mem' L d p hs
      exact hst1 q hq hd v w w' h1 h2 h3 h9
  · intro d v w w' row hd h1 h2 h3 h4
    unfold relR at *
    cases hs : specOf L d with
    | none => rw [hs] at h1; exact h1
    | some p =>
      rw [hs] at h1
      obtain ⟨q, hq, rfl, rfl⟩ := specOf_mem' L d p hs
      exact hst2 q hq hd v w w' row h1 h2 h3 h4
  · intro f w' hf hD hb
    have e : putR a ((dstsOf (l.take n)).map fun d => (d, f d)) = putR (putR a vals) ((L.map (·.1)).map fun d => (d, f d)) := by
      refine act_eq (Array.ext_getElem? fun d => ?_) (by rw [putR_defers, putR_defers, putR_defers])
      rw [putR_get', putR_get', putR_size]
      by_cases hd : d < a.tmps.size
      · rw [if_pos hd, if_pos hd]
        by_cases h1 : d ∈ dstsOf (l.take n)
        · rw [if_pos h1]
          by_cases h2 : d ∈ L.map (·.1)
          · rw [if_pos h2]
          · rw [if_neg h2]
            have := (hf d h1 (fun h3 => h2 (hEO d h3))).1
            unfold relR at this
            rw [hfull.spec d h2] at this
            exact this.symm
        · rw [if_neg h1, if_neg (fun h2 => h1 (hin d h2))]
          refine (hfull.out d fun i o ho hdo => h1 ?_).symm
          exact List.mem_filterMap.2 ⟨o, List.mem_of_getElem? ho, hdo⟩
      · rw [if_neg hd, if_neg hd]
    rw [e]
    refine hfin f w' (fun d p hp hn => ?_) (fun d d' h1 h2 h3 h4 h5 => hD d (hin d (hOL d h1)) d' (hin d' (hOL d' h2)) (hnc d h3) (hnc d' h4) h1 h2 h5) hb
    by_cases hd : d ∈ L.map (·.1)
    · have := hf d (hin d hd) (hnc d hn)
      unfold relR at this
      rw [hp] at this
      exact this
    · rw [specOf_none L d hd] at hp
      cases hp

section
variable {P : Program} {h : List Oper} {A0 A : Act} {W0 : World} {S : Nat → Option (Value → World → Prop)} {sp O : List Nat} {E : List (Nat × Nat)} {i : Nat} {o : Oper}
/-- What is made of one slot alone. -/
theorem ow_pure (hw : Wants h A0 A S O E W0.heap.size i o) (d s : Nat) (hd : o.dst = some d) (p q : Value → World → Prop) (hps : S s = some p) (hpd : S d = some q) (hws : waitsFor h o s = true) (hE : (E.all fun q => q.2 != s || q.1 == i) = true) (hO : O.contains d = false)
    (hrun : ∀ (a : Act) (w : World), p (a.eval (.tmp s)) w → ∃ v, (execOp a.eval o).run P w = .ok (.value v) w ∧ q v w) : OwnOk P h A0 W0 (relR A S) O E i o :=
  ow_run hw d hd fun a w hF hB hgot => by
    obtain ⟨v, h1, h2⟩ := hrun a w (gotE_spec hgot p hws hE hps).1
    exact ⟨v, w, none, h1, rel_spec q hpd h2, grown_none (Below.refl _ _), fun b hb => (by cases hb), fun h3 => by rw [hO] at h3; cases h3⟩
/-- A known value made of one slot alone. -/
theorem ow_pureD (hA : Full h A0 A S sp) (hw : Wants h A0 A S O E W0.heap.size i o) (d s : Nat) (hd : o.dst = some d) (p : Value → World → Prop) (v : Value) (hps : S s = some p) (hds : sp.contains d = false) (hv : A.tmps[d]? = some v) (hws : waitsFor h o s = true) (hE : (E.all fun q => q.2 != s || q.1 == i) = true) (hO : O.contains d = false)
    (hrun : ∀ (a : Act) (w : World), p (a.eval (.tmp s)) w → (execOp a.eval o).run P w = .ok (.value v) w) : OwnOk P h A0 W0 (relR A S) O E i o :=
  ow_run hw d hd fun a w hF hB hgot => by
    have h1 := hrun a w (gotE_spec hgot p hws hE hps).1
    exact ⟨v, w, none, h1, rel_det hA hds hv, grown_none (Below.refl _ _), fun b hb => (by cases hb), fun h3 => by rw [hO] at h3; cases h3⟩
end
/-- A pair of bytes and a number. -/
def PairV (r : Int) (U : List Nat) : Value → World → Prop := fun v w => ∃ u, v = .tuple #[u, .int .i64 r] ∧ BytesV u w U
theorem PairV.under {r : Int} {U : List Nat} {v : Value} {w w' : World} (h : PairV r U v w) (hb : Below w.heap.size w w') : PairV r U v w' := by
  obtain ⟨u, h1, h2⟩ := h
  exact ⟨u, h1, h2.under hb⟩
def BytesS (U : List Nat) : Value → World → Prop := fun v w => BytesV v w U
theorem mv_pair {r : Int} {U : List Nat} {o : Oper} {a : Act} {s : Nat} {w : World} (ho : o.op = .move (.tmp s)) (h : PairV r U (a.eval (.tmp s)) w) : ∃ v, (execOp a.eval o).run Tryd.prog w = .ok (.value v) w ∧ PairV r U v w := by
  refine ⟨_, ?_, h⟩
  unfold execOp
  simp only [ho]
  simp [go_sem]
theorem ex_fst {r : Int} {U : List Nat} {o : Oper} {a : Act} {s : Nat} {w : World} (ho : o.op = .extract (.tmp s) 0) (h : PairV r U (a.eval (.tmp s)) w) : ∃ v, (execOp a.eval o).run Tryd.prog w = .ok (.value v) w ∧ BytesS U v w := by
  obtain ⟨u, h1, h2⟩ := h
  refine ⟨u, ?_, h2⟩
  unfold execOp
  simp only [ho, h1]
  simp [go_sem]
theorem ex_snd {r : Int} {U : List Nat} {o : Oper} {a : Act} {s : Nat} {w : World} (ho : o.op = .extract (.tmp s) 1) (h : PairV r U (a.eval (.tmp s)) w) : (execOp a.eval o).run Tryd.prog w = .ok (.value (.int .i64 r)) w := by
  obtain ⟨u, h1, h2⟩ := h
  unfold execOp
  simp only [ho, h1]
  simp [go_sem]
theorem as_bytes {U : List Nat} {o : Oper} {a : Act} {s : Nat} {w : World} (ho : o.op = .assign (.tmp s)) (h : BytesS U (a.eval (.tmp s)) w) : ∃ v, (execOp a.eval o).run Tryd.prog w = .ok (.value v) w ∧ BytesS U v w := by
  refine ⟨_, ?_, h⟩
  unfold execOp
  simp only [ho]
  simp [go_sem]
end Go.Proofs.YtkibojjbghopkaaDoor.sh
/-
  StreamEnd: behind the last count there is no block more; more bytes than may be are refused.
-/
namespace Go.Proofs.YtkibojjbghopkaaDoor.sh
open Go Go.RowKit
set_option linter.unusedVariables false
set_option linter.unusedSimpArgs false

end Go.Proofs.YtkibojjbghopkaaDoor.sh
/-
  StreamBlocks: bytes are turned by blocks that are told one by one.
-/
namespace Go.Proofs.YtkibojjbghopkaaDoor.sh
open Go Go.RowKit
set_option linter.unusedVariables false
set_option linter.unusedSimpArgs false

theorem bytes_at {p : Option Addr} {n c : Nat} {w : World} {bs : List Nat} (h : BytesV (.slice p n c) w bs) {i x : Nat} (hx : bs[i]? = some x) : ∃ A, p = some A ∧ A.block < w.heap.size ∧ w.cell? (A.add i) = some (.int .u8 (x : Int)) := by
  obtain ⟨p', c', e1, _, e3⟩ := h
  cases e1
  obtain ⟨A, e4, e6, e5⟩ := e3 (by intro e; rw [e] at hx; cases hx)
  exact ⟨A, e4, e6, e5 i x hx⟩
theorem bytes_cell {A : Addr} {n c : Nat} {w : World} {bs : List Nat} (h : BytesV (.slice (some A) n c) w bs) {i x : Nat} (hx : bs[i]? = some x) : w.cell? (A.add i) = some (.int .u8 (x : Int)) := by
  obtain ⟨A', e1, _, e2⟩ := bytes_at h hx
  cases e1
  exact e2
end Go.Proofs.YtkibojjbghopkaaDoor.sh
/-
  The reference: a word turned, a word of bytes, a quarter.
-/
namespace Go.Proofs.YtkibojjbghopkaaDoor.sh
open Go Go.RowKit
set_option linter.unusedVariables false
set_option linter.unusedSimpArgs false

end Go.Proofs.YtkibojjbghopkaaDoor.sh
/-
  Poly1305 as plain numbers: words of a number, a product modulo 2^130 - 5, the tag of bytes.
-/
namespace Go.Proofs.YtkibojjbghopkaaDoor.sh
open Go Go.RowKit
set_option linter.unusedVariables false
set_option linter.unusedSimpArgs false

/-- The word i of a number. -/
def wd (N i : Nat) : Nat := N / 18446744073709551616 ^ i % 18446744073709551616
def nw (N : Nat) : List Nat := [wd N 0, wd N 1, wd N 2]
def nw2 (N : Nat) : List Nat := [wd N 0, wd N 1]
def nw4 (N : Nat) : List Nat := [wd N 0, wd N 1, wd N 2, wd N 3]
theorem wd_lt (N i : Nat) : wd N i < 18446744073709551616 := Nat.mod_lt _ (by decide)
theorem nw_get (N i : Nat) (h : i < 3) : (nw N)[i]? = some (wd N i) := by
  match i, h with
  | 0, _ => rfl
  | 1, _ => rfl
  | 2, _ => rfl
theorem wd0 (N : Nat) : wd N 0 = N % 18446744073709551616 := by simp [wd]
theorem wd1 (N : Nat) : wd N 1 = N / 18446744073709551616 % 18446744073709551616 := by simp [wd]
theorem wd2 (N : Nat) : wd N 2 = N / 340282366920938463463374607431768211456 % 18446744073709551616 := by simp [wd]
theorem wd3 (N : Nat) : wd N 3 = N / 6277101735386680763835789423207666416102355444464034512896 % 18446744073709551616 := by simp [wd]
theorem nw_of (z0 z1 z2 N : Nat) (h0 : z0 < 18446744073709551616) (h1 : z1 < 18446744073709551616) (h2 : z2 < 18446744073709551616) (h : z0 + 18446744073709551616 * z1 + 340282366920938463463374607431768211456 * z2 = N) : nw N = [z0, z1, z2] := by
  unfold nw
  rw [wd0, wd1, wd2]
  have e0 : N % 18446744073709551616 = z0 := by omega
  have e1 : N / 18446744073709551616 % 18446744073709551616 = z1 := by omega
  have e2 : N / 340282366920938463463374607431768211456 % 18446744073709551616 = z2 := by omega
  rw [e0, e1, e2]
theorem nw4_of (z0 z1 z2 z3 N : Nat) (h0 : z0 < 18446744073709551616) (h1 : z1 < 18446744073709551616) (h2 : z2 < 18446744073709551616) (h3 : z3 < 18446744073709551616) (h : z0 + 18446744073709551616 * z1 + 340282366920938463463374607431768211456 * z2 + 6277101735386680763835789423207666416102355444464034512896 * z3 = N) : nw4 N = [z0, z1, z2, z3] := by
  unfold nw4
  rw [wd0, wd1, wd2, wd3]
  have e0 : N % 18446744073709551616 = z0 := by omega
  have e1 : N / 18446744073709551616 % 18446744073709551616 = z1 := by omega
  have e2 : N / 340282366920938463463374607431768211456 % 18446744073709551616 = z2 := by omega
  have e3 : N / 6277101735386680763835789423207666416102355444464034512896 % 18446744073709551616 = z3 := by omega
  rw [e0, e1, e2, e3]
theorem nw_sum (N : Nat) (h : N < 6277101735386680763835789423207666416102355444464034512896) : wd N 0 + 18446744073709551616 * wd N 1 + 340282366920938463463374607431768211456 * wd N 2 = N := by
  rw [wd0, wd1, wd2]
  omega

/-- What is over behind i words of X + Y w. -/
def cy (X Y w i : Nat) : Nat := (X % 18446744073709551616 ^ i + Y % 18446744073709551616 ^ i * w) / 18446744073709551616 ^ i
theorem cy_zero (X Y w : Nat) : cy X Y w 0 = 0 := by simp [cy, Nat.mod_one]
theorem cy_step (X Y w i : Nat) : wd X i + wd Y i * w + cy X Y w i = wd (X + Y * w) i + 18446744073709551616 * cy X Y w (i + 1) := by
  unfold wd cy
  have hp : 0 < 18446744073709551616 ^ i := Nat.pow_pos (by decide)
  generalize hm : 18446744073709551616 ^ i = m at *
  have hm1 : 18446744073709551616 ^ (i + 1) = m * 18446744073709551616 := by rw [Nat.pow_succ, hm]
  rw [hm1]
  have eX := Nat.div_add_mod X m
  have eY := Nat.div_add_mod Y m
  have e1 : X % (m * 18446744073709551616) = X % m + m * (X / m % 18446744073709551616) := Nat.mod_mul
  have e2 : Y % (m * 18446744073709551616) = Y % m + m * (Y / m % 18446744073709551616) := Nat.mod_mul
  rw [e1, e2]
  have e3 : X % m + m * (X / m % 18446744073709551616) + (Y % m + m * (Y / m % 18446744073709551616)) * w = (X % m + Y % m * w) + m * (X / m % 18446744073709551616 + Y / m % 18446744073709551616 * w) := by grind
  have e4 : X + Y * w = (X % m + Y % m * w) + m * (X / m + Y / m * w) := by
    have : X + Y * w = (m * (X / m) + X % m) + (m * (Y / m) + Y % m) * w := by rw [eX, eY]
    rw [this]; grind
  rw [e3, e4, ← Nat.div_div_eq_div_mul, Nat.add_mul_div_left _ _ hp, Nat.add_mul_div_left _ _ hp]
  generalize (X % m + Y % m * w) / m = c
  have e5 : (c + (X / m + Y / m * w)) % 18446744073709551616 = (c + (X / m % 18446744073709551616 + Y / m % 18446744073709551616 * w)) % 18446744073709551616 := by
    rw [Nat.add_mod, Nat.add_mod (X / m), Nat.mul_mod]
    simp only [Nat.add_mod, Nat.mul_mod, Nat.mod_mod]
  rw [e5]
  generalize X / m % 18446744073709551616 + Y / m % 18446744073709551616 * w = t
  omega
theorem cy_lt (X Y w i : Nat) (hw : w < 18446744073709551616) : cy X Y w i < 18446744073709551616 := by
  unfold cy
  have hp : 0 < 18446744073709551616 ^ i := Nat.pow_pos (by decide)
  generalize 18446744073709551616 ^ i = m at *
  rw [Nat.div_lt_iff_lt_mul hp]
  have h1 : X % m < m := Nat.mod_lt _ hp
  have h2 : Y % m < m := Nat.mod_lt _ hp
  have h3 : Y % m * w ≤ m * w := Nat.mul_le_mul_right _ (by omega)
  have h4 : m * w + m ≤ 18446744073709551616 * m := by
    have : (w + 1) * m ≤ 18446744073709551616 * m := Nat.mul_le_mul_right _ (by omega)
    rw [Nat.add_mul, Nat.one_mul, Nat.mul_comm w m] at this
    exact this
  omega
/-- n r modulo p, not wholly. -/
def timesN (N r : Nat) : Nat := N * r % 1361129467683753853853498429727072845824 + 5 * (N * r / 1361129467683753853853498429727072845824)
theorem timesN_lt (N r : Nat) (hN : N < 2722258935367507707706996859454145691648) (hr : r < 21267647932558653966460912964485513216) : timesN N r < 1701411834604692317316873037158841057280 := by
  have h : N * r < 2722258935367507707706996859454145691648 * 21267647932558653966460912964485513216 := by
    have h1 : N * r ≤ N * 21267647932558653966460912964485513216 := Nat.mul_le_mul_left _ (by omega)
    have h2 : N * 21267647932558653966460912964485513216 < 2722258935367507707706996859454145691648 * 21267647932558653966460912964485513216 := Nat.mul_lt_mul_of_pos_right hN (by decide)
    omega
  unfold timesN
  generalize N * r = P at *
  omega
theorem prod_lt (N r : Nat) (hN : N < 2722258935367507707706996859454145691648) (hr : r < 21267647932558653966460912964485513216) : N * r < 57896044618658097711785492504343953926634992332820282019728792003956564819968 := by
  have h1 : N * r ≤ N * 21267647932558653966460912964485513216 := Nat.mul_le_mul_left _ (by omega)
  have h2 : N * 21267647932558653966460912964485513216 < 2722258935367507707706996859454145691648 * 21267647932558653966460912964485513216 := Nat.mul_lt_mul_of_pos_right hN (by decide)
  omega
theorem times_low (P : Nat) : nw (P % 1361129467683753853853498429727072845824) = [wd P 0, wd P 1, wd P 2 % 4] := by
  refine nw_of _ _ _ _ (wd_lt _ _) (wd_lt _ _) (by omega) ?_
  rw [wd0, wd1, wd2]
  omega
theorem times_high (P : Nat) (h : P < 115792089237316195423570985008687907853269984665640564039457584007913129639936) : nw (P / 1361129467683753853853498429727072845824) = [wd P 2 / 4 + wd P 3 % 4 * 4611686018427387904, wd P 3 / 4, 0] := by
  have h2 := wd_lt P 2
  have h3 := wd_lt P 3
  refine nw_of _ _ _ _ (by omega) (by omega) (by decide) ?_
  rw [wd2, wd3]
  omega

/-- Bits of bytes. -/
theorem and_byte (x y X Y : Nat) (hx : x < 256) (hy : y < 256) : (x + 256 * X) &&& (y + 256 * Y) = (x &&& y) + 256 * (X &&& Y) := by
  have hm : ((x + 256 * X) &&& (y + 256 * Y)) % 2 ^ 8 = x &&& y := by
    rw [Nat.and_mod_two_pow, show (x + 256 * X) % 2 ^ 8 = x by omega, show (y + 256 * Y) % 2 ^ 8 = y by omega]
  have hd : ((x + 256 * X) &&& (y + 256 * Y)) / 2 ^ 8 = X &&& Y := by
    rw [Nat.and_div_two_pow, show (x + 256 * X) / 2 ^ 8 = X by omega, show (y + 256 * Y) / 2 ^ 8 = Y by omega]
  rw [← hm, ← hd]
  omega
theorem val_and : ∀ (a m : List Nat), a.length = m.length → (∀ x ∈ a, x < 256) → (∀ x ∈ m, x < 256) → val a &&& val m = val (List.zipWith (· &&& ·) a m)
  | [], [], _, _, _ => rfl
  | x :: a, y :: m, h, ha, hm => by
    simp only [val, List.zipWith_cons_cons]
    rw [and_byte x y _ _ (ha x (by simp)) (hm y (by simp)), val_and a m (by simpa using h) (fun z hz => ha z (by simp [hz])) (fun z hz => hm z (by simp [hz]))]
theorem Bytes.all {l : List Nat} (h : Bytes l) : ∀ x ∈ l, x < 256 := fun x hx => by
  obtain ⟨i, hi⟩ := List.mem_iff_getElem?.1 hx
  exact h i x hi
theorem bytes_of_all {l : List Nat} (h : ∀ x ∈ l, x < 256) : Bytes l := fun i x hx => h x (List.mem_of_getElem? hx)

def maskL : List Nat := [255, 255, 255, 15, 252, 255, 255, 15, 252, 255, 255, 15, 252, 255, 255, 15]
/-- The bytes of r. -/
def clampL (key : List Nat) : List Nat := List.zipWith (· &&& ·) (key.take 16) maskL
def rN (key : List Nat) : Nat := val (clampL key)
def sN (key : List Nat) : Nat := val (key.drop 16)
theorem val_append (a b : List Nat) : val (a ++ b) = val a + 256 ^ a.length * val b := by
  have h := val_split (a ++ b) a.length
  rw [List.take_left, List.drop_left] at h
  exact h
theorem val_lt : ∀ (a : List Nat), (∀ x ∈ a, x < 256) → val a < 256 ^ a.length
  | [], _ => by simp [val]
  | x :: a, h => by
    have h1 := val_lt a (fun z hz => h z (by simp [hz]))
    have h2 := h x (by simp)
    simp only [val, List.length_cons, Nat.pow_succ]
    omega
theorem digs_get (N n i : Nat) (h : i < n) : (digs N n)[i]? = some (N / 256 ^ i % 256) := by simp [digs, h]
theorem digs_bytes (N n : Nat) : Bytes (digs N n) := bytes_of_all fun x hx => by
  simp only [digs, List.mem_map] at hx
  obtain ⟨i, _, rfl⟩ := hx
  exact Nat.mod_lt _ (by decide)
/-- The number behind k pieces of 16 bytes. -/
def polyT (r : Nat) (b : List Nat) : Nat → Nat
  | 0 => 0
  | k + 1 => timesN (polyT r b k + val ((b.drop (16 * k)).take 16 ++ [1])) r
def tagL (key b : List Nat) : List Nat := digs (polyT (rN key) b ((b.length + 15) / 16) % 1361129467683753853853498429727072845819 + sN key) 16
theorem tagL_len (key b : List Nat) : (tagL key b).length = 16 := digs_len _ _
theorem tagL_bytes (key b : List Nat) : Bytes (tagL key b) := digs_bytes _ _

theorem maskL_val : val maskL = 21267647620597763993911028882763415551 := by kernel_rfl
theorem rN_lt (key : List Nat) (h : key.length = 32) (hy : Bytes key) : rN key < 21267647932558653966460912964485513216 := by
  unfold rN clampL
  rw [← val_and _ _ (by simp [h, maskL]) (hy.take 16).all (by decide), maskL_val]
  exact Nat.lt_of_le_of_lt Nat.and_le_right (by decide)
theorem sN_lt (key : List Nat) (h : key.length = 32) (hy : Bytes key) : sN key < 340282366920938463463374607431768211456 := by
  have := val_lt (key.drop 16) (hy.drop 16).all
  rw [List.length_drop, h] at this
  exact this
theorem piece_lt (b : List Nat) (hy : Bytes b) (h : b.length ≤ 16) : val (b ++ [1]) < 680564733841876926926749214863536422912 := by
  rw [val_append]
  have h1 := val_lt b hy.all
  have h2 : 256 ^ b.length ≤ 256 ^ 16 := Nat.pow_le_pow_right (by decide) h
  have e : (256 : Nat) ^ 16 = 340282366920938463463374607431768211456 := by decide
  simp only [val]
  omega
theorem polyT_lt (r : Nat) (b : List Nat) (hr : r < 21267647932558653966460912964485513216) (hy : Bytes b) : ∀ k, polyT r b k < 1701411834604692317316873037158841057280
  | 0 => by simp [polyT]
  | k + 1 => by
    have h1 := polyT_lt r b hr hy k
    have h2 := piece_lt ((b.drop (16 * k)).take 16) ((hy.drop _).take _) (by simp; omega)
    exact timesN_lt _ _ (by omega) hr
end Go.Proofs.YtkibojjbghopkaaDoor.sh
