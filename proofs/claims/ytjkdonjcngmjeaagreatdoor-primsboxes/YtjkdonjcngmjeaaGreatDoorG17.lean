/-
  General pieces, joined: XU XM XN XQ W1 RM R1 R2 YA YB.
-/
import Derived.Test.YtjkdonjcngmjeaaGreatDoorG08
import Derived.Test.YtjkdonjcngmjeaaGreatDoorG11
import Derived.Test.YtjkdonjcngmjeaaGreatDoorG09
import Derived.Test.YtjkdonjcngmjeaaGreatDoorG10
import Derived.Test.YtjkdonjcngmjeaaGreatDoorG16
import Derived.Test.YtjkdonjcngmjeaaGreatDoorG15
import Derived.Test.YtjkdonjcngmjeaaGreatDoorRows
import Derived.Test.YtjkdonjcngmjeaaGreatDoorG01
import Derived.WalkKit
import Derived.WalkSpells
import Derived.WalkLawsBesides
import Derived.Laws.MathBits
import Derived.RegionTactic
import Derived.BigRegion
import Derived.Deep.QuietTactic
import Derived.BigQuiet
import Derived.Test.YtjkdonjcngmjeaaGreatDoorG12
import Derived.Test.YtjkdonjcngmjeaaGreatDoorG13
import Derived.Test.YtjkdonjcngmjeaaGreatDoorG14
/-
  Regions that draw their order, where no operation takes a block over: what a slot holds may be a pair whose slice is new.
-/
namespace Go.Proofs.YtjkdonjcngmjeaaGreatDoor.sh
open Go Go.RowKit
set_option linter.unusedVariables false
set_option linter.unusedSimpArgs false

theorem grown_empty {w w' : World} {row : Option Nat} (h : w.grownBy w' row) (hr : ∀ b, row = some b → False) : Below w.heap.size w w' := ⟨h.os, h.tape, h.output, h.size, fun k hk => h.block k hk (fun e => hr k e.symm)⟩
/-- A region that draws its order: each of the first n operations makes a value of which R holds; owners' blocks are apart; the last operations wait for all of those. -/
theorem region_ownN {P : Program} {Q : Exit → Act → World → Prop} {id : Nat} {a : Act} {w : World} (W0 : World) (n : Nat) {l : List Oper} (R : Nat → Value → World → Prop) (O : List Nat) (E : List (Nat × Nat)) (ds : List Nat) (hm : P.follows .mixedOrders = true)
    (hE : edgesIn (l.take n) = true) (hG : guardsIn (l.take n) = true) (hA : dstsApart (l.take n) 0 = true) (hI : dstsIn (l.take n) a.tmps.size = true) (hT : tailUnder (l.take n) (l.drop n) = true)
    (hS : Region.seqB .any l.toArray (l.drop n).length (l.take n).length (Array.replicate (l.take n).length true ++ Array.replicate (l.drop n).length false) = true)
    (hEw : (E.all fun q => O.contains q.2 && match (l.take n)[q.1]? with | some o => waitsFor (l.take n) o q.2 | none => false) = true) (hEn : apartB (E.map (·.2)) = true)
    (hds : dstsOf (l.take n) = ds)
    (hst1 : ∀ d v w w', O.contains d = false → R d v w → Below W0.heap.size W0 w → Below W0.heap.size w w' → (E = [] → Below w.heap.size w w') → R d v w')
    (hst2 : ∀ d v w w' row, O.contains d = true → R d v w → w.grownBy w' row → (blkOf v = none ∨ blkOf v ≠ row) → (∀ b, blkOf v = some b → b < w.heap.size) → R d v w') (hw : Below W0.heap.size W0 w)
    (hok : OwnAll P (l.take n) a W0 R O E 0 (l.take n))
    (hfin : ∀ (f : Nat → Value) w', (∀ d ∈ ds, d ∉ E.map (·.2) → R d (f d) w' ∧ (O.contains d = true → ∀ b, blkOf (f d) = some b → W0.heap.size ≤ b ∧ b < w'.heap.size)) →
      (∀ d ∈ ds, ∀ d' ∈ ds, d ∉ E.map (·.2) → d' ∉ E.map (·.2) → O.contains d = true → O.contains d' = true → d ≠ d' → ∀ b, blkOf (f d) = some b → blkOf (f d') ≠ some b) → Below W0.heap.size W0 w' →
      wpList P l.toArray Q (l.drop n) (putR a (ds.map fun d => (d, f d))) w') : (Code.region id l.toArray true).wp P Q a w := by
  have e : l.take n ++ l.drop n = l := List.take_append_drop n l
  refine wp_region_any hm ?_
  generalize hh : l.take n = h at *
  have hEw' : ∀ q ∈ E, O.contains q.2 = true ∧ ∃ o, h[q.1]? = some o ∧ waitsFor h o q.2 = true := fun q hq => by
    have := List.all_eq_true.1 hEw q hq
    simp only [Bool.and_eq_true] at this
    refine ⟨this.1, ?_⟩
    cases ho : h[q.1]? with
    | none => simp [ho] at this
    | some o => exact ⟨o, rfl, by simpa [ho] using this.2⟩
  have main := wpAny_inv (P := P) (l := h) (Q := headPost P (h ++ l.drop n).toArray Q (l.drop n))
    (fun listed a' w' => Fr h a a' ∧ Below W0.heap.size W0 w' ∧ (∀ d, Liv h E listed d → ∃ v, a'.tmps[d]? = some v ∧ R d v w' ∧ (O.contains d = true → ∀ b, blkOf v = some b → W0.heap.size ≤ b ∧ b < w'.heap.size)) ∧
      ∀ d d', Liv h E listed d → Liv h E listed d' → O.contains d = true → O.contains d' = true → d ≠ d' → ∀ b, (a'.tmps[d]?).bind blkOf = some b → (a'.tmps[d']?).bind blkOf ≠ some b) hE
    (by
      intro listed a' w' i o hls hI' ho hun hall
      obtain ⟨hF, hB, hV, hD⟩ := hI'
      have hil : i < listed.size := by rw [hls]; exact (List.getElem?_eq_some_iff.1 ho).1
      have hun' : listed.getD i false = false := by simpa [hil] using hun
      obtain ⟨d, hd, hrun⟩ := by have := ownAll_get h 0 hok i o ho; rwa [Nat.zero_add] at this
      have hson : ∀ k, (listed.setIfInBounds i true).getD k false = if k = i then true else listed.getD k false := fun k => by
        by_cases hk : k = i
        · subst hk; simp [hil]
        · rw [if_neg hk, getD_set_ne false (Ne.symm hk)]
      have hlist : ∀ s, waitsFor h o s = true → ∃ (j : Nat) (o' : Oper), h[j]? = some o' ∧ listed.getD j false = true ∧ o'.dst = some s := fun s hs => by
        obtain ⟨x, hx, h1⟩ := Array.any_eq_true'.1 hs
        simp only [Bool.and_eq_true] at h1
        cases ho' : h[x.on]? with
        | none => simp [ho'] at h1
        | some o' => exact ⟨x.on, o', ho', hall x hx h1.1, by simpa [ho'] using h1.2⟩
      have hgot : GotE h E R O W0.heap.size i a' w' o := fun s hs hq => hV s ⟨hlist s hs, fun q hq' he => by
        have := List.all_eq_true.1 hq q hq'
        simp only [he, bne_self_eq_false, Bool.false_or, beq_iff_eq] at this
        rw [this]
        exact hun'⟩
      have hSe : ∀ s, (i, s) ∈ E → Liv h E listed s ∧ O.contains s = true := fun s hs => by
        obtain ⟨h1, o', h2, h3⟩ := hEw' _ hs
        rw [ho] at h2
        cases h2
        refine ⟨⟨hlist s h3, fun q hq he => ?_⟩, h1⟩
        have := apart_eq E hEn q hq (i, s) hs he
        rw [this]
        exact hun'
      obtain ⟨hwant, hwp⟩ := hrun a' w' hF hB hgot
      refine ⟨hwant, wp_false ?_ hwp⟩
      rintro a2 w2 ⟨v, row, rfl, hR, hg, hrow, hblk⟩
      have hdl : d < a'.tmps.size := by
        have := List.all_eq_true.1 hI o (List.mem_of_getElem? ho)
        rw [hd] at this
        rw [hF.size]
        simpa using this
      have hother : ∀ d', d' ≠ d → (a'.put (some d) v).tmps[d']? = a'.tmps[d']? := fun d' hne => by simp [Act.put, Array.getElem?_setIfInBounds_ne (Ne.symm hne)]
      have hself : (a'.put (some d) v).tmps[d]? = some v := by simp [Act.put, hdl]
      have hrange : ∀ s, (i, s) ∈ E → ∀ b, (a'.tmps[s]?).bind blkOf = some b → W0.heap.size ≤ b ∧ b < w'.heap.size := fun s hs b hb => by
        obtain ⟨h1, h2⟩ := hSe s hs
        obtain ⟨u, e1, _, e3⟩ := hV s h1
        rw [e1] at hb
        exact e3 h2 b hb
      have hBw : Below W0.heap.size w' w2 := grown_mono hg hB.size (fun b hb => by
        obtain ⟨s, hs, hb'⟩ := hrow b hb
        exact (hrange s hs b hb').1)
      have hold : ∀ d', Liv h E (listed.setIfInBounds i true) d' → d' ≠ d → Liv h E listed d' := fun d' hL hne => by
        obtain ⟨⟨j, o', h1, h2, h3⟩, h4⟩ := hL
        refine ⟨⟨j, o', h1, ?_, h3⟩, fun q hq he => ?_⟩
        · rw [hson j] at h2
          split at h2
          · next hji => subst hji; rw [ho] at h1; cases h1; rw [hd] at h3; exact absurd (Option.some.inj h3).symm hne
          · exact h2
        · have := h4 q hq he
          rw [hson q.1] at this
          split at this
          · cases this
          · exact this
      have hne_s : ∀ s d', (i, s) ∈ E → Liv h E (listed.setIfInBounds i true) d' → s ≠ d' := fun s d' hs hL he => by
        have := hL.2 (i, s) hs he
        rw [hson i, if_pos rfl] at this
        cases this
      refine ⟨⟨by rw [size_put]; exact hF.size, hF.defers, fun d' h' => ?_⟩, hB.trans hBw, fun d' hL => ?_, fun d1 d2 hL1 hL2 hO1 hO2 hne b hb1 hb2 => ?_⟩
      · rw [hother d' (fun e2 => h' i o ho (by rw [hd, e2]))]
        exact hF.out d' h'
      · by_cases hdd : d' = d
        · subst hdd
          refine ⟨v, hself, hR, fun hO b hb => ?_⟩
          rcases hblk hO b hb with ⟨h1, h2⟩ | ⟨s, hs, hb'⟩
          · exact ⟨Nat.le_trans hB.size h1, h2⟩
          · have := hrange s hs b hb'
            exact ⟨this.1, Nat.lt_of_lt_of_le this.2 hg.size⟩
        · have hL' := hold d' hL hdd
          obtain ⟨u, e1, e2, e3⟩ := hV d' hL'
          refine ⟨u, by rw [hother d' hdd]; exact e1, ?_, fun hO b hb => ⟨(e3 hO b hb).1, Nat.lt_of_lt_of_le (e3 hO b hb).2 hg.size⟩⟩
          cases hO : O.contains d' with
          | false => exact hst1 d' u w' w2 hO e2 hB hBw (fun hE0 => grown_empty hg (fun b hb => by obtain ⟨s, hs, _⟩ := hrow b hb; rw [hE0] at hs; cases hs))
          | true =>
            refine hst2 d' u w' w2 row hO e2 hg ?_ (fun b hb => (e3 hO b hb).2)
            cases hb : blkOf u with
            | none => exact .inl rfl
            | some b =>
              refine .inr fun hr => ?_
              obtain ⟨s, hs, hb'⟩ := hrow b hr.symm
              obtain ⟨h1, h2⟩ := hSe s hs
              exact hD s d' h1 hL' h2 hO (hne_s s d' hs hL) b hb' (by rw [e1]; exact hb)
      · by_cases h1 : d1 = d
        · subst h1
          have h2 : d2 ≠ d1 := Ne.symm hne
          have hL2' := hold d2 hL2 h2
          rw [hother d2 h2] at hb2
          rw [hself] at hb1
          rcases hblk hO1 b hb1 with ⟨h3, _⟩ | ⟨s, hs, hb'⟩
          · obtain ⟨u, e1, _, e3⟩ := hV d2 hL2'
            rw [e1] at hb2
            have := (e3 hO2 b hb2).2
            omega
          · obtain ⟨h4, h5⟩ := hSe s hs
            exact hD s d2 h4 hL2' h5 hO2 (hne_s s d2 hs hL2) b hb' hb2
        · have hL1' := hold d1 hL1 h1
          rw [hother d1 h1] at hb1
          by_cases h2 : d2 = d
          · subst h2
            rw [hself] at hb2
            rcases hblk hO2 b hb2 with ⟨h3, _⟩ | ⟨s, hs, hb'⟩
            · obtain ⟨u, e1, _, e3⟩ := hV d1 hL1'
              rw [e1] at hb1
              have := (e3 hO1 b hb1).2
              omega
            · obtain ⟨h4, h5⟩ := hSe s hs
              exact hD s d1 h4 hL1' h5 hO1 (hne_s s d1 hs hL1) b hb' hb1
          · rw [hother d2 h2] at hb2
            exact hD d1 d2 hL1' (hold d2 hL2 h2) hO1 hO2 hne b hb1 hb2)
    (by
      intro a' w' hI'
      obtain ⟨hF, hB, hV, hD⟩ := hI'
      have hliv : ∀ d ∈ ds, d ∉ E.map (·.2) → Liv h E (Array.replicate h.length true) d := fun d hd hn => by
        rw [← hds] at hd
        obtain ⟨o, ho, hd'⟩ := List.mem_filterMap.1 hd
        obtain ⟨i, hi, he⟩ := List.getElem_of_mem ho
        exact ⟨⟨i, o, by rw [List.getElem?_eq_getElem hi, he], by simp [hi], hd'⟩, fun q hq he => absurd (List.mem_map.2 ⟨q, hq, he⟩) hn⟩
      have hsome : ∀ d ∈ ds, ∃ v, a'.tmps[d]? = some v := fun d hd => by
        rw [← hds] at hd
        obtain ⟨o, ho, hd'⟩ := List.mem_filterMap.1 hd
        have := List.all_eq_true.1 hI o ho
        rw [hd'] at this
        exact ⟨_, Array.getElem?_eq_getElem (by rw [hF.size]; simpa using this)⟩
      have hfr := hfin (fun d => (a'.tmps[d]?).getD undef) w' (fun d hd hn => by obtain ⟨v, h1, h2⟩ := hV d (hliv d hd hn); simp only [h1, Option.getD_some]; exact h2)
        (fun d hd d' hd' hn hn' hO hO' hne b hb hb' => by
          obtain ⟨v, h1, _⟩ := hV d (hliv d hd hn)
          obtain ⟨v', h1', _⟩ := hV d' (hliv d' hd' hn')
          simp only [h1, h1', Option.getD_some] at hb hb'
          exact hD d d' (hliv d hd hn) (hliv d' hd' hn') hO hO' hne b (by rw [h1]; exact hb) (by rw [h1']; exact hb')) hB
      have ea : a' = putR a (ds.map fun d => (d, (a'.tmps[d]?).getD undef)) := by
        refine act_eq (Array.ext_getElem? fun d => ?_) (by rw [putR_defers]; exact hF.defers)
        by_cases hdl : d < a.tmps.size
        · rw [putR_get (fun d => (a'.tmps[d]?).getD undef) d ds a hdl]
          by_cases hd : d ∈ ds
          · rw [if_pos hd]
            obtain ⟨v, h1⟩ := hsome d hd
            simp [h1]
          · rw [if_neg hd]
            refine hF.out d fun i o ho hd' => hd ?_
            rw [← hds]
            exact List.mem_filterMap.2 ⟨o, List.mem_of_getElem? ho, hd'⟩
        · rw [Array.getElem?_eq_none (by rw [hF.size]; omega), Array.getElem?_eq_none (by rw [putR_size]; omega)]
      rw [← ea] at hfr
      show wpList P (h ++ l.drop n).toArray Q (l.drop n) a' w'
      rw [e]
      exact hfr)
    h.length (Array.replicate h.length false) a { w with drawn := w.drawn + 1 } (by simp) (by simp [open_])
    ⟨⟨rfl, rfl, fun _ _ => rfl⟩, hw.drew, fun d hL => by
      exfalso
      obtain ⟨⟨i, o, _, hon, _⟩, _⟩ := hL
      rw [Array.getD_eq_getD_getElem?, Array.getElem?_replicate] at hon
      split at hon <;> simp at hon, fun d d' hL => by
      exfalso
      obtain ⟨⟨i, o, _, hon, _⟩, _⟩ := hL
      rw [Array.getD_eq_getD_getElem?, Array.getElem?_replicate] at hon
      split at hon <;> simp at hon⟩
  have h3 := lift_under (Q := Q) hE hG hT (by rw [e]; exact hS) h.length (Array.replicate h.length false) a _ (by simp) (by simp [open_]) (closed_none _) main
  rw [e] at h3
  have e1 : l.toArray.size = h.length + (l.drop n).length := by rw [← List.length_append, e]; simp
  rw [e1, show Array.replicate (h.length + (l.drop n).length) false = Array.replicate h.length false ++ Array.replicate (l.drop n).length false by simp]
  exact h3
theorem region_ownNL {P : Program} {Q : Exit → Act → World → Prop} {id : Nat} {a : Act} {w : World} (W0 : World) (n : Nat) {l : List Oper} (vals : List (Nat × Value)) (L : List (Nat × (Value → World → Prop))) (O : List Nat) (E : List (Nat × Nat)) (hm : P.follows .mixedOrders = true)
    (hE : edgesIn (l.take n) = true) (hG : guardsIn (l.take n) = true) (hA : dstsApart (l.take n) 0 = true) (hI : dstsIn (l.take n) a.tmps.size = true) (hT : tailUnder (l.take n) (l.drop n) = true)
    (hS : Region.seqB .any l.toArray (l.drop n).length (l.take n).length (Array.replicate (l.take n).length true ++ Array.replicate (l.drop n).length false) = true)
    (hv : (vals.all fun p => (dstsOf (l.take n)).contains p.1) = true) (hsp : ((L.map (·.1)).all fun d => (dstsOf (l.take n)).contains d) = true) (hO : (O.all fun d => (L.map (·.1)).contains d) = true)
    (hEw : (E.all fun q => O.contains q.2 && match (l.take n)[q.1]? with | some o => waitsFor (l.take n) o q.2 | none => false) = true) (hEn : apartB (E.map (·.2)) = true)
    (hst1 : ∀ q ∈ L, O.contains q.1 = false → ∀ (v : Value) (w w' : World), q.2 v w → Below W0.heap.size W0 w → Below W0.heap.size w w' → (E = [] → Below w.heap.size w w') → q.2 v w')
    (hst2 : ∀ q ∈ L, O.contains q.1 = true → ∀ (v : Value) (w w' : World) (row : Option Nat), q.2 v w → w.grownBy w' row → (blkOf v = none ∨ blkOf v ≠ row) → (∀ b, blkOf v = some b → b < w.heap.size) → q.2 v w') (hw : Below W0.heap.size W0 w)
    (hok : Full (l.take n) a (putR a vals) (specOf L) (L.map (·.1)) → OwnAll P (l.take n) a W0 (relR (putR a vals) (specOf L)) O E 0 (l.take n))
    (hfin : ∀ (f : Nat → Value) w', (∀ d p, specOf L d = some p → (E.map (·.2)).contains d = false → p (f d) w' ∧ (O.contains d = true → ∀ b, blkOf (f d) = some b → W0.heap.size ≤ b ∧ b < w'.heap.size)) →
      (∀ d d', O.contains d = true → O.contains d' = true → (E.map (·.2)).contains d = false → (E.map (·.2)).contains d' = false → d ≠ d' → ∀ b, blkOf (f d) = some b → blkOf (f d') ≠ some b) → Below W0.heap.size W0 w' →
      wpList P l.toArray Q (l.drop n) (putR (putR a vals) ((L.map (·.1)).map fun d => (d, f d))) w') : (Code.region id l.toArray true).wp P Q a w := by
  have hfull : Full (l.take n) a (putR a vals) (specOf L) (L.map (·.1)) := full_put vals hv (specOf_none L)
  have hOL : ∀ d, O.contains d = true → d ∈ L.map (·.1) := fun d hd => List.contains_iff_mem.1 (List.all_eq_true.1 hO d (List.contains_iff_mem.1 hd))
  have hEO : ∀ d, d ∈ E.map (·.2) → d ∈ L.map (·.1) := fun d hd => by
    obtain ⟨q, hq, rfl⟩ := List.mem_map.1 hd
    have := List.all_eq_true.1 hEw q hq
    simp only [Bool.and_eq_true] at this
    exact hOL _ this.1
  have hin : ∀ d, d ∈ L.map (·.1) → d ∈ dstsOf (l.take n) := fun d hd => List.contains_iff_mem.1 (List.all_eq_true.1 hsp d hd)
  have hnc : ∀ d, (E.map (·.2)).contains d = false → d ∉ E.map (·.2) := fun d h hm => by rw [List.contains_iff_mem.2 hm] at h; cases h
  refine region_ownN W0 n (relR (putR a vals) (specOf L)) O E _ hm hE hG hA hI hT hS hEw hEn rfl ?_ ?_ hw (hok hfull) ?_
  · intro d v w w' hd h1 h2 h3 h9
    unfold relR at *
    cases hs : specOf L d with
    | none => rw [hs] at h1; exact h1
    | some p =>
      rw [hs] at h1
      obtain ⟨q, hq, rfl, rfl⟩ := specOf_mem' L d p hs
      exact hst1 q hq hd v w w' h1 h2 h3 h9
  · intro d v w w' row hd h1 h2 h3 h4
    unfold relR at *
    cases hs : specOf L d with
    | none => rw [hs] at h1; exact h1
    | some p =>
      rw [hs] at h1
      obtain ⟨q, hq, rfl, rfl⟩ := specOf_mem' L d p hs
      exact hst2 q hq hd v w w' row h1 h2 h3 h4
  · intro f w' hf hD hb
    have e : putR a ((dstsOf (l.take n)).map fun d => (d, f d)) = putR (putR a vals) ((L.map (·.1)).map fun d => (d, f d)) := by
      refine act_eq (Array.ext_getElem? fun d => ?_) (by rw [putR_defers, putR_defers, putR_defers])
      rw [putR_get', putR_get', putR_size]
      by_cases hd : d < a.tmps.size
      · rw [if_pos hd, if_pos hd]
        by_cases h1 : d ∈ dstsOf (l.take n)
        · rw [if_pos h1]
          by_cases h2 : d ∈ L.map (·.1)
          · rw [if_pos h2]
          · rw [if_neg h2]
            have := (hf d h1 (fun h3 => h2 (hEO d h3))).1
            unfold relR at this
            rw [hfull.spec d h2] at this
            exact this.symm
        · rw [if_neg h1, if_neg (fun h2 => h1 (hin d h2))]
          refine (hfull.out d fun i o ho hdo => h1 ?_).symm
          exact List.mem_filterMap.2 ⟨o, List.mem_of_getElem? ho, hdo⟩
      · rw [if_neg hd, if_neg hd]
    rw [e]
    refine hfin f w' (fun d p hp hn => ?_) (fun d d' h1 h2 h3 h4 h5 => hD d (hin d (hOL d h1)) d' (hin d' (hOL d' h2)) (hnc d h3) (hnc d' h4) h1 h2 h5) hb
    by_cases hd : d ∈ L.map (·.1)
    · have := hf d (hin d hd) (hnc d hn)
      unfold relR at this
      rw [hp] at this
      exact this
    · rw [specOf_none L d hd] at hp
      cases hp

section
variable {P : Program} {h : List Oper} {A0 A : Act} {W0 : World} {S : Nat → Option (Value → World → Prop)} {sp O : List Nat} {E : List (Nat × Nat)} {i : Nat} {o : Oper}
end
/-- A pair of bytes and a number. -/
def PairV (r : Int) (U : List Nat) : Value → World → Prop := fun v w => ∃ u, v = .tuple #[u, .int .i64 r] ∧ BytesV u w U
theorem PairV.under {r : Int} {U : List Nat} {v : Value} {w w' : World} (h : PairV r U v w) (hb : Below w.heap.size w w') : PairV r U v w' := by
  obtain ⟨u, h1, h2⟩ := h
  exact ⟨u, h1, h2.under hb⟩
def BytesS (U : List Nat) : Value → World → Prop := fun v w => BytesV v w U
end Go.Proofs.YtjkdonjcngmjeaaGreatDoor.sh
/-
  StreamEnd: behind the last count there is no block more; more bytes than may be are refused.
-/
namespace Go.Proofs.YtjkdonjcngmjeaaGreatDoor.sh
open Go Go.RowKit
set_option linter.unusedVariables false
set_option linter.unusedSimpArgs false

theorem run_c864 {o : Oper} {a : Act} {x : Operand} {z : Nat} (ho : o.op = .convert 5 22 x) (hx : a.eval x = .int .u8 (z : Int)) (hz : z < 256) (w : World) : (execOp a.eval o).run Tryz.prog w = .ok (.value (.int .u64 (z : Int))) w := by
  unfold execOp
  simp only [ho, hx]
  simp [go_sem, IntKind.wrap_u64]
  omega
theorem run_leqI {o : Oper} {a : Act} {x y : Operand} {m n : Nat} {b : Bool} (ho : o.op = .binOp .leq 3 x y 3) (hx : a.eval x = .int .i64 (m : Int)) (hy : a.eval y = .int .i64 (n : Int)) (hb : b = decide (m ≤ n)) (w : World) : (execOp a.eval o).run Tryz.prog w = .ok (.value (.bool b)) w := by
  unfold execOp
  simp only [ho, hx, hy]
  simp [go_sem, hb]
end Go.Proofs.YtjkdonjcngmjeaaGreatDoor.sh
/-
  StreamBlocks: bytes are turned by blocks that are told one by one.
-/
namespace Go.Proofs.YtjkdonjcngmjeaaGreatDoor.sh
open Go Go.RowKit
set_option linter.unusedVariables false
set_option linter.unusedSimpArgs false

end Go.Proofs.YtjkdonjcngmjeaaGreatDoor.sh
/-
  The reference: a word turned, a word of bytes, a quarter.
-/
namespace Go.Proofs.YtjkdonjcngmjeaaGreatDoor.sh
open Go Go.RowKit
set_option linter.unusedVariables false
set_option linter.unusedSimpArgs false

end Go.Proofs.YtjkdonjcngmjeaaGreatDoor.sh
/-
  What the small functions of package limb do: products of words, sums of four words, eight bytes as a word.
-/
namespace Go.Proofs.YtjkdonjcngmjeaaGreatDoor
open Go.RowKit

theorem call_add64 (x y c : Nat) (hc : c ≤ 1) : ∃ lo hi : Nat, (∀ w, (callFunc 123 #[.int .u64 (x : Int), .int .u64 (y : Int), .int .u64 (c : Int)]).run Tryz.prog w = .ok (.value (.tuple #[.int .u64 (lo : Int), .int .u64 (hi : Int)])) w) ∧
    Hid (lo < 18446744073709551616 ∧ lo + 18446744073709551616 * hi = x + y + c) := by
  refine ⟨(x + y + c) % 18446744073709551616, (x + y + c) / 18446744073709551616, fun w => ?_, ?_⟩
  · rw [run_callFunc_extern Tryz.func123 (by kernel_rfl) (by kernel_rfl) (by kernel_rfl) (e := add64Entry) (by kernel_rfl), run_add64 x y c (by omega) (by omega) (by omega) (by omega)]
    simp only [Result.andThen]
    congr 5 <;> omega
  · show _ ∧ _
    omega

theorem call_add64_0 (x y : Nat) : ∃ lo hi : Nat, (∀ w, (callFunc 123 #[.int .u64 (x : Int), .int .u64 (y : Int), .int .u64 0]).run Tryz.prog w = .ok (.value (.tuple #[.int .u64 (lo : Int), .int .u64 (hi : Int)])) w) ∧
    Hid (lo < 18446744073709551616 ∧ lo + 18446744073709551616 * hi = x + y) := by
  obtain ⟨lo, hi, h, H⟩ := call_add64 x y 0 (by omega)
  exact ⟨lo, hi, h, H⟩

set_option maxHeartbeats 400000 in
theorem mul64_walk (x y : Int) (w : World) (hx0 : 0 ≤ x) (hx : x < 18446744073709551616) (hy0 : 0 ≤ y) (hy : y < 18446744073709551616) :
    Calls Tryz.prog 137 #[.int .u64 x, .int .u64 y] w fun e w' => e = .returned (.tuple #[.int .u64 (x * y / 18446744073709551616), .int .u64 (x * y % 18446744073709551616)]) ∧ w' = w := by
  go_enter Tryz.func137, Tryz.ntmps137
  go_wp2
  go_ret2
  refine ⟨ret_two ?_ ?_, rfl⟩
  · have hm := mul64_arith x y hx0 hx hy0 hy
    simp only [IntKind.wrap_u64]
    rw [and_low32 x hx0 hx, and_low32 y hy0 hy, and_low32 _ (by omega) (by omega)]
    exact hm
  · rw [IntKind.wrap_u64]

theorem mul64_any (x y : Nat) (w : World) (hx : x < 18446744073709551616) (hy : y < 18446744073709551616) :
    Calls Tryz.prog 137 #[.int .u64 (x : Int), .int .u64 (y : Int)] w fun e w' => ∃ hi lo : Nat, e = .returned (.tuple #[.int .u64 (hi : Int), .int .u64 (lo : Int)]) ∧ w' = w ∧
      Hid (lo < 18446744073709551616 ∧ hi ≤ 18446744073709551614 ∧ lo + 18446744073709551616 * hi = x * y) := by
  refine (mul64_walk x y w (by omega) (by omega) (by omega) (by omega)).mono ?_
  rintro e w' ⟨rfl, rfl⟩
  refine ⟨x * y / 18446744073709551616, x * y % 18446744073709551616, ?_, rfl, ?_⟩
  · simp
  · have : x * y ≤ 18446744073709551615 * 18446744073709551615 := Nat.mul_le_mul (by omega) (by omega)
    show _ ∧ _ ∧ _
    omega

set_option maxHeartbeats 1000000 in
theorem word_walk (g off cap : Nat) (b0 b1 b2 b3 b4 b5 b6 b7 : Nat) (w : World)
   (c0 : w.cell? ⟨g, off, none⟩ = some (.int .u8 (b0 : Int))) (c1 : w.cell? ⟨g, off + 1, none⟩ = some (.int .u8 (b1 : Int))) (c2 : w.cell? ⟨g, off + 2, none⟩ = some (.int .u8 (b2 : Int))) (c3 : w.cell? ⟨g, off + 3, none⟩ = some (.int .u8 (b3 : Int)))
   (c4 : w.cell? ⟨g, off + 4, none⟩ = some (.int .u8 (b4 : Int))) (c5 : w.cell? ⟨g, off + 5, none⟩ = some (.int .u8 (b5 : Int))) (c6 : w.cell? ⟨g, off + 6, none⟩ = some (.int .u8 (b6 : Int))) (c7 : w.cell? ⟨g, off + 7, none⟩ = some (.int .u8 (b7 : Int)))
   (hb : Hid (b0 < 256 ∧ b1 < 256 ∧ b2 < 256 ∧ b3 < 256 ∧ b4 < 256 ∧ b5 < 256 ∧ b6 < 256 ∧ b7 < 256)) :
    Calls Tryz.prog 117 #[.slice (some ⟨g, off, none⟩) 8 cap] w
      fun e w' => e = .returned (.int .u64 ((b0 + b1 * 256 + b2 * 65536 + b3 * 16777216 + b4 * 4294967296 + b5 * 1099511627776 + b6 * 281474976710656 + b7 * 72057594037927936 : Nat) : Int)) ∧ Below w.heap.size w w' := by
  go_enter Tryz.func117, Tryz.ntmps117
  go_wp2
  go_quiet (fail)
  go_wp2
  go_ret
  obtain ⟨h0, h1, h2, h3, h4, h5, h6, h7⟩ := hb.out
  refine ⟨ret_int (word_bits b0 b1 b2 b3 b4 b5 b6 b7 h0 h1 h2 h3 h4 h5 h6 h7), ?_⟩
  exact ⟨rfl, rfl, rfl, Nat.le_refl _, fun _ _ => rfl⟩

end Go.Proofs.YtjkdonjcngmjeaaGreatDoor
/-
  Plain arithmetic of digits of base 256: values of rows, carries, folding, borrowing. Nothing of the program is named here.
-/
namespace Go.Proofs.YtjkdonjcngmjeaaGreatDoor

/-- A fact set aside, that no unifier looks into. -/
structure Kept (p : Prop) : Prop where
  out : p

/-- The number of a row of digits, the lowest first. -/
def val : List Nat → Nat
  | [] => 0
  | d :: r => d + 256 * val r

theorem val_split (l : List Nat) : ∀ k, val l = val (l.take k) + 256 ^ k * val (l.drop k) := by
  induction l with
  | nil => intro k; simp [val]
  | cons d r ih =>
    intro k
    cases k with
    | zero => simp [val]
    | succ k =>
      have h := ih k
      simp only [List.take_succ_cons, List.drop_succ_cons, val]
      rw [h, Nat.pow_succ, Nat.mul_add, Nat.mul_comm (256 ^ k) 256, ← Nat.mul_assoc, Nat.add_assoc]

end Go.Proofs.YtjkdonjcngmjeaaGreatDoor
/-
  What the small functions of the reference package of layer 1 do: the digits of a number, the digits of p.
-/
namespace Go.Proofs.YtjkdonjcngmjeaaGreatDoor
open Go.RowKit
set_option linter.unusedSimpArgs false
set_option linter.unusedVariables false

/-- The first k digits of a number. -/
def digs (n k : Nat) : List Nat := (List.range k).map fun i => n / 256 ^ i % 256
theorem digs_len (n k : Nat) : (digs n k).length = k := by simp [digs]

theorem cell_row {w : World} {g : Nat} {A : Array Value} {t : TypeId} {fr : Nat × Nat} {j : Nat} {v : Value} (hg : w.heap[g]? = some (.cells A t fr)) (hv : A[j]? = some v) : w.cell? ⟨g, j, none⟩ = some v := by
  simp [World.cell?, hg, hv]

theorem heap_new (w : World) (o : Obj) : (w.alloc o).heap[w.heap.size]? = some o := by
  show (w.heap.push o)[w.heap.size]? = some o
  simp

/-- A block holds a row of ints at its head. -/
def Holds (w : World) (g : Nat) (l : List Nat) : Prop := g < w.heap.size ∧ ∀ j, j < l.length → w.cell? ⟨g, j, none⟩ = some (.int .i64 ((l.getD j 0 : Nat) : Int))
theorem Holds.below {w w' : World} {g B : Nat} {l : List Nat} (h : Holds w g l) (hb : Below B w w') (hB : g < B) : Holds w' g l :=
  ⟨Nat.lt_of_lt_of_le h.1 hb.size, fun j hj => (hb.cell (p := ⟨g, j, none⟩) hB).trans (h.2 j hj)⟩
theorem Holds.under {w w' : World} {g : Nat} {l : List Nat} (h : Holds w g l) (hb : Below w.heap.size w w') : Holds w' g l := h.below hb h.1
end Go.Proofs.YtjkdonjcngmjeaaGreatDoor
/-
  What the reference package's carry and high do: the same number in digits below 256; has it a digit above the 32nd.
-/
namespace Go.Proofs.YtjkdonjcngmjeaaGreatDoor
open Go.RowKit
set_option linter.unusedSimpArgs false
set_option linter.unusedVariables false

end Go.Proofs.YtjkdonjcngmjeaaGreatDoor
/-
  Poly1305 as plain numbers: words of a number, a product modulo 2^130 - 5, the tag of bytes.
-/
namespace Go.Proofs.YtjkdonjcngmjeaaGreatDoor.sh
open Go Go.RowKit
set_option linter.unusedVariables false
set_option linter.unusedSimpArgs false

/-- The word i of a number. -/
def wd (N i : Nat) : Nat := N / 18446744073709551616 ^ i % 18446744073709551616
def nw (N : Nat) : List Nat := [wd N 0, wd N 1, wd N 2]
def nw2 (N : Nat) : List Nat := [wd N 0, wd N 1]
def nw4 (N : Nat) : List Nat := [wd N 0, wd N 1, wd N 2, wd N 3]
theorem wd_lt (N i : Nat) : wd N i < 18446744073709551616 := Nat.mod_lt _ (by decide)
theorem nw_get (N i : Nat) (h : i < 3) : (nw N)[i]? = some (wd N i) := by
  match i, h with
  | 0, _ => rfl
  | 1, _ => rfl
  | 2, _ => rfl
theorem wd0 (N : Nat) : wd N 0 = N % 18446744073709551616 := by simp [wd]
theorem wd1 (N : Nat) : wd N 1 = N / 18446744073709551616 % 18446744073709551616 := by simp [wd]
theorem wd2 (N : Nat) : wd N 2 = N / 340282366920938463463374607431768211456 % 18446744073709551616 := by simp [wd]
theorem wd3 (N : Nat) : wd N 3 = N / 6277101735386680763835789423207666416102355444464034512896 % 18446744073709551616 := by simp [wd]
theorem nw_of (z0 z1 z2 N : Nat) (h0 : z0 < 18446744073709551616) (h1 : z1 < 18446744073709551616) (h2 : z2 < 18446744073709551616) (h : z0 + 18446744073709551616 * z1 + 340282366920938463463374607431768211456 * z2 = N) : nw N = [z0, z1, z2] := by
  unfold nw
  rw [wd0, wd1, wd2]
  have e0 : N % 18446744073709551616 = z0 := by omega
  have e1 : N / 18446744073709551616 % 18446744073709551616 = z1 := by omega
  have e2 : N / 340282366920938463463374607431768211456 % 18446744073709551616 = z2 := by omega
  rw [e0, e1, e2]
theorem nw4_of (z0 z1 z2 z3 N : Nat) (h0 : z0 < 18446744073709551616) (h1 : z1 < 18446744073709551616) (h2 : z2 < 18446744073709551616) (h3 : z3 < 18446744073709551616) (h : z0 + 18446744073709551616 * z1 + 340282366920938463463374607431768211456 * z2 + 6277101735386680763835789423207666416102355444464034512896 * z3 = N) : nw4 N = [z0, z1, z2, z3] := by
  unfold nw4
  rw [wd0, wd1, wd2, wd3]
  have e0 : N % 18446744073709551616 = z0 := by omega
  have e1 : N / 18446744073709551616 % 18446744073709551616 = z1 := by omega
  have e2 : N / 340282366920938463463374607431768211456 % 18446744073709551616 = z2 := by omega
  have e3 : N / 6277101735386680763835789423207666416102355444464034512896 % 18446744073709551616 = z3 := by omega
  rw [e0, e1, e2, e3]
theorem nw_sum (N : Nat) (h : N < 6277101735386680763835789423207666416102355444464034512896) : wd N 0 + 18446744073709551616 * wd N 1 + 340282366920938463463374607431768211456 * wd N 2 = N := by
  rw [wd0, wd1, wd2]
  omega

/-- What is over behind i words of X + Y w. -/
def cy (X Y w i : Nat) : Nat := (X % 18446744073709551616 ^ i + Y % 18446744073709551616 ^ i * w) / 18446744073709551616 ^ i
theorem cy_zero (X Y w : Nat) : cy X Y w 0 = 0 := by simp [cy, Nat.mod_one]
theorem cy_step (X Y w i : Nat) : wd X i + wd Y i * w + cy X Y w i = wd (X + Y * w) i + 18446744073709551616 * cy X Y w (i + 1) := by
  unfold wd cy
  have hp : 0 < 18446744073709551616 ^ i := Nat.pow_pos (by decide)
  generalize hm : 18446744073709551616 ^ i = m at *
  have hm1 : 18446744073709551616 ^ (i + 1) = m * 18446744073709551616 := by rw [Nat.pow_succ, hm]
  rw [hm1]
  have eX := Nat.div_add_mod X m
  have eY := Nat.div_add_mod Y m
  have e1 : X % (m * 18446744073709551616) = X % m + m * (X / m % 18446744073709551616) := Nat.mod_mul
  have e2 : Y % (m * 18446744073709551616) = Y % m + m * (Y / m % 18446744073709551616) := Nat.mod_mul
  rw [e1, e2]
  have e3 : X % m + m * (X / m % 18446744073709551616) + (Y % m + m * (Y / m % 18446744073709551616)) * w = (X % m + Y % m * w) + m * (X / m % 18446744073709551616 + Y / m % 18446744073709551616 * w) := by grind
  have e4 : X + Y * w = (X % m + Y % m * w) + m * (X / m + Y / m * w) := by
    have : X + Y * w = (m * (X / m) + X % m) + (m * (Y / m) + Y % m) * w := by rw [eX, eY]
    rw [this]; grind
  rw [e3, e4, ← Nat.div_div_eq_div_mul, Nat.add_mul_div_left _ _ hp, Nat.add_mul_div_left _ _ hp]
  generalize (X % m + Y % m * w) / m = c
  have e5 : (c + (X / m + Y / m * w)) % 18446744073709551616 = (c + (X / m % 18446744073709551616 + Y / m % 18446744073709551616 * w)) % 18446744073709551616 := by
    rw [Nat.add_mod, Nat.add_mod (X / m), Nat.mul_mod]
    simp only [Nat.add_mod, Nat.mul_mod, Nat.mod_mod]
  rw [e5]
  generalize X / m % 18446744073709551616 + Y / m % 18446744073709551616 * w = t
  omega
theorem cy_lt (X Y w i : Nat) (hw : w < 18446744073709551616) : cy X Y w i < 18446744073709551616 := by
  unfold cy
  have hp : 0 < 18446744073709551616 ^ i := Nat.pow_pos (by decide)
  generalize 18446744073709551616 ^ i = m at *
  rw [Nat.div_lt_iff_lt_mul hp]
  have h1 : X % m < m := Nat.mod_lt _ hp
  have h2 : Y % m < m := Nat.mod_lt _ hp
  have h3 : Y % m * w ≤ m * w := Nat.mul_le_mul_right _ (by omega)
  have h4 : m * w + m ≤ 18446744073709551616 * m := by
    have : (w + 1) * m ≤ 18446744073709551616 * m := Nat.mul_le_mul_right _ (by omega)
    rw [Nat.add_mul, Nat.one_mul, Nat.mul_comm w m] at this
    exact this
  omega
/-- n r modulo p, not wholly. -/
def timesN (N r : Nat) : Nat := N * r % 1361129467683753853853498429727072845824 + 5 * (N * r / 1361129467683753853853498429727072845824)
theorem timesN_lt (N r : Nat) (hN : N < 2722258935367507707706996859454145691648) (hr : r < 21267647932558653966460912964485513216) : timesN N r < 1701411834604692317316873037158841057280 := by
  have h : N * r < 2722258935367507707706996859454145691648 * 21267647932558653966460912964485513216 := by
    have h1 : N * r ≤ N * 21267647932558653966460912964485513216 := Nat.mul_le_mul_left _ (by omega)
    have h2 : N * 21267647932558653966460912964485513216 < 2722258935367507707706996859454145691648 * 21267647932558653966460912964485513216 := Nat.mul_lt_mul_of_pos_right hN (by decide)
    omega
  unfold timesN
  generalize N * r = P at *
  omega
theorem prod_lt (N r : Nat) (hN : N < 2722258935367507707706996859454145691648) (hr : r < 21267647932558653966460912964485513216) : N * r < 57896044618658097711785492504343953926634992332820282019728792003956564819968 := by
  have h1 : N * r ≤ N * 21267647932558653966460912964485513216 := Nat.mul_le_mul_left _ (by omega)
  have h2 : N * 21267647932558653966460912964485513216 < 2722258935367507707706996859454145691648 * 21267647932558653966460912964485513216 := Nat.mul_lt_mul_of_pos_right hN (by decide)
  omega
theorem times_low (P : Nat) : nw (P % 1361129467683753853853498429727072845824) = [wd P 0, wd P 1, wd P 2 % 4] := by
  refine nw_of _ _ _ _ (wd_lt _ _) (wd_lt _ _) (by omega) ?_
  rw [wd0, wd1, wd2]
  omega
theorem times_high (P : Nat) (h : P < 115792089237316195423570985008687907853269984665640564039457584007913129639936) : nw (P / 1361129467683753853853498429727072845824) = [wd P 2 / 4 + wd P 3 % 4 * 4611686018427387904, wd P 3 / 4, 0] := by
  have h2 := wd_lt P 2
  have h3 := wd_lt P 3
  refine nw_of _ _ _ _ (by omega) (by omega) (by decide) ?_
  rw [wd2, wd3]
  omega

/-- Bits of bytes. -/
theorem and_byte (x y X Y : Nat) (hx : x < 256) (hy : y < 256) : (x + 256 * X) &&& (y + 256 * Y) = (x &&& y) + 256 * (X &&& Y) := by
  have hm : ((x + 256 * X) &&& (y + 256 * Y)) % 2 ^ 8 = x &&& y := by
    rw [Nat.and_mod_two_pow, show (x + 256 * X) % 2 ^ 8 = x by omega, show (y + 256 * Y) % 2 ^ 8 = y by omega]
  have hd : ((x + 256 * X) &&& (y + 256 * Y)) / 2 ^ 8 = X &&& Y := by
    rw [Nat.and_div_two_pow, show (x + 256 * X) / 2 ^ 8 = X by omega, show (y + 256 * Y) / 2 ^ 8 = Y by omega]
  rw [← hm, ← hd]
  omega
theorem val_and : ∀ (a m : List Nat), a.length = m.length → (∀ x ∈ a, x < 256) → (∀ x ∈ m, x < 256) → val a &&& val m = val (List.zipWith (· &&& ·) a m)
  | [], [], _, _, _ => rfl
  | x :: a, y :: m, h, ha, hm => by
    simp only [val, List.zipWith_cons_cons]
    rw [and_byte x y _ _ (ha x (by simp)) (hm y (by simp)), val_and a m (by simpa using h) (fun z hz => ha z (by simp [hz])) (fun z hz => hm z (by simp [hz]))]
theorem Bytes.all {l : List Nat} (h : Bytes l) : ∀ x ∈ l, x < 256 := fun x hx => by
  obtain ⟨i, hi⟩ := List.mem_iff_getElem?.1 hx
  exact h i x hi
theorem bytes_of_all {l : List Nat} (h : ∀ x ∈ l, x < 256) : Bytes l := fun i x hx => h x (List.mem_of_getElem? hx)

def maskL : List Nat := [255, 255, 255, 15, 252, 255, 255, 15, 252, 255, 255, 15, 252, 255, 255, 15]
/-- The bytes of r. -/
def clampL (key : List Nat) : List Nat := List.zipWith (· &&& ·) (key.take 16) maskL
def rN (key : List Nat) : Nat := val (clampL key)
def sN (key : List Nat) : Nat := val (key.drop 16)
theorem val_append (a b : List Nat) : val (a ++ b) = val a + 256 ^ a.length * val b := by
  have h := val_split (a ++ b) a.length
  rw [List.take_left, List.drop_left] at h
  exact h
theorem val_lt : ∀ (a : List Nat), (∀ x ∈ a, x < 256) → val a < 256 ^ a.length
  | [], _ => by simp [val]
  | x :: a, h => by
    have h1 := val_lt a (fun z hz => h z (by simp [hz]))
    have h2 := h x (by simp)
    simp only [val, List.length_cons, Nat.pow_succ]
    omega
theorem digs_get (N n i : Nat) (h : i < n) : (digs N n)[i]? = some (N / 256 ^ i % 256) := by simp [digs, h]
theorem digs_bytes (N n : Nat) : Bytes (digs N n) := bytes_of_all fun x hx => by
  simp only [digs, List.mem_map] at hx
  obtain ⟨i, _, rfl⟩ := hx
  exact Nat.mod_lt _ (by decide)
/-- The number behind k pieces of 16 bytes. -/
def polyT (r : Nat) (b : List Nat) : Nat → Nat
  | 0 => 0
  | k + 1 => timesN (polyT r b k + val ((b.drop (16 * k)).take 16 ++ [1])) r
def tagL (key b : List Nat) : List Nat := digs (polyT (rN key) b ((b.length + 15) / 16) % 1361129467683753853853498429727072845819 + sN key) 16
theorem tagL_len (key b : List Nat) : (tagL key b).length = 16 := digs_len _ _
theorem tagL_bytes (key b : List Nat) : Bytes (tagL key b) := digs_bytes _ _

theorem maskL_val : val maskL = 21267647620597763993911028882763415551 := by kernel_rfl
theorem rN_lt (key : List Nat) (h : key.length = 32) (hy : Bytes key) : rN key < 21267647932558653966460912964485513216 := by
  unfold rN clampL
  rw [← val_and _ _ (by simp [h, maskL]) (hy.take 16).all (by decide), maskL_val]
  exact Nat.lt_of_le_of_lt Nat.and_le_right (by decide)
theorem sN_lt (key : List Nat) (h : key.length = 32) (hy : Bytes key) : sN key < 340282366920938463463374607431768211456 := by
  have := val_lt (key.drop 16) (hy.drop 16).all
  rw [List.length_drop, h] at this
  exact this
theorem piece_lt (b : List Nat) (hy : Bytes b) (h : b.length ≤ 16) : val (b ++ [1]) < 680564733841876926926749214863536422912 := by
  rw [val_append]
  have h1 := val_lt b hy.all
  have h2 : 256 ^ b.length ≤ 256 ^ 16 := Nat.pow_le_pow_right (by decide) h
  have e : (256 : Nat) ^ 16 = 340282366920938463463374607431768211456 := by decide
  simp only [val]
  omega
theorem polyT_lt (r : Nat) (b : List Nat) (hr : r < 21267647932558653966460912964485513216) (hy : Bytes b) : ∀ k, polyT r b k < 1701411834604692317316873037158841057280
  | 0 => by simp [polyT]
  | k + 1 => by
    have h1 := polyT_lt r b hr hy k
    have h2 := piece_lt ((b.drop (16 * k)).take 16) ((hy.drop _).take _) (by simp; omega)
    exact timesN_lt _ _ (by omega) hr
end Go.Proofs.YtjkdonjcngmjeaaGreatDoor.sh
/-
  Sums and products of words, and the word of eight bytes, by the program.
-/
namespace Go.Proofs.YtjkdonjcngmjeaaGreatDoor.sh
open Go Go.RowKit
set_option linter.unusedVariables false
set_option linter.unusedSimpArgs false

theorem stepD (x y u m : Nat) (hx : x < 18446744073709551616) (hy : y < 18446744073709551616) (hu : u < 18446744073709551616) (hm : m < 18446744073709551616) (w : World) :
    Calls Tryz.prog 125 #[.int .u64 (x : Int), .int .u64 (y : Int), .int .u64 (u : Int), .int .u64 (m : Int)] w fun e w' => e = .returned (.tuple #[.int .u64 (((x + y * u + m) % 18446744073709551616 : Nat) : Int), .int .u64 (((x + y * u + m) / 18446744073709551616 : Nat) : Int)]) ∧ w' = w := by
  have hP : Kept (y * u ≤ 18446744073709551615 * 18446744073709551615) := ⟨Nat.mul_le_mul (by omega) (by omega)⟩
  have HB : Kept (x < 18446744073709551616 ∧ m < 18446744073709551616) := ⟨hx, hm⟩
  go_enter Tryz.func125, Tryz.ntmps125
  go_wp2_with fail
  refine (mul64_any _ _ _ hy hu).mono ?_
  rintro e w' ⟨hi, lo, rfl, rfl, H⟩
  clear hx hy hu hm
  obtain ⟨z0, c0, h0, H0⟩ := call_add64_0 lo m
  obtain ⟨z1, c1, h1, H1⟩ := call_add64_0 z0 x
  go_wp2
  go_ret2
  have b1 := H.out; have b2 := H0.out; have b3 := H1.out; have b4 := HB.out; have b5 := hP.out
  generalize y * u = P at *
  refine ⟨ret_two ?_ ?_, rfl⟩
  · congr 1; omega
  · simp only [IntKind.wrap_u64]; omega

set_option maxHeartbeats 1000000 in
theorem word_walk (g off cap : Nat) (b0 b1 b2 b3 b4 b5 b6 b7 : Nat) (w : World)
   (c0 : w.cell? ⟨g, off, none⟩ = some (.int .u8 (b0 : Int))) (c1 : w.cell? ⟨g, off + 1, none⟩ = some (.int .u8 (b1 : Int))) (c2 : w.cell? ⟨g, off + 2, none⟩ = some (.int .u8 (b2 : Int))) (c3 : w.cell? ⟨g, off + 3, none⟩ = some (.int .u8 (b3 : Int)))
   (c4 : w.cell? ⟨g, off + 4, none⟩ = some (.int .u8 (b4 : Int))) (c5 : w.cell? ⟨g, off + 5, none⟩ = some (.int .u8 (b5 : Int))) (c6 : w.cell? ⟨g, off + 6, none⟩ = some (.int .u8 (b6 : Int))) (c7 : w.cell? ⟨g, off + 7, none⟩ = some (.int .u8 (b7 : Int)))
   (hb : Kept (b0 < 256 ∧ b1 < 256 ∧ b2 < 256 ∧ b3 < 256 ∧ b4 < 256 ∧ b5 < 256 ∧ b6 < 256 ∧ b7 < 256)) :
    Calls Tryz.prog 122 #[.slice (some ⟨g, off, none⟩) 8 cap] w
      fun e w' => e = .returned (.int .u64 ((b0 + b1 * 256 + b2 * 65536 + b3 * 16777216 + b4 * 4294967296 + b5 * 1099511627776 + b6 * 281474976710656 + b7 * 72057594037927936 : Nat) : Int)) ∧ Below w.heap.size w w' := by
  go_enter Tryz.func122, Tryz.ntmps122
  go_wp2
  go_quiet (fail)
  go_wp2
  go_ret
  obtain ⟨h0, h1, h2, h3, h4, h5, h6, h7⟩ := hb.out
  refine ⟨ret_int (word_bits b0 b1 b2 b3 b4 b5 b6 b7 h0 h1 h2 h3 h4 h5 h6 h7), ?_⟩
  exact ⟨rfl, rfl, rfl, Nat.le_refl _, fun _ _ => rfl⟩
theorem val8 (b0 b1 b2 b3 b4 b5 b6 b7 : Nat) : val [b0, b1, b2, b3, b4, b5, b6, b7] = b0 + b1 * 256 + b2 * 65536 + b3 * 16777216 + b4 * 4294967296 + b5 * 1099511627776 + b6 * 281474976710656 + b7 * 72057594037927936 := by
  simp only [val]
  omega
/-- The word of eight bytes in the midst of a block. -/
theorem wordD (g off cap : Nat) (t : TypeId) (L : List Nat) (w : World) (hB : Blk w g t (ints .u8 L)) (hy : Bytes L) (hl : off + 8 ≤ L.length) (z : Nat) (hz : z = val ((L.drop off).take 8)) :
    Calls Tryz.prog 122 #[.slice (some ⟨g, off, none⟩) 8 cap] w fun e w' => e = .returned (.int .u64 (z : Int)) ∧ Below w.heap.size w w' := by
  have hg : ∀ i, i < 8 → ∃ x, L[off + i]? = some x ∧ x < 256 := fun i hi => ⟨_, List.getElem?_eq_getElem (by omega), hy _ _ (List.getElem?_eq_getElem (by omega))⟩
  obtain ⟨b0, g0, l0⟩ := hg 0 (by omega)
  obtain ⟨b1, g1, l1⟩ := hg 1 (by omega)
  obtain ⟨b2, g2, l2⟩ := hg 2 (by omega)
  obtain ⟨b3, g3, l3⟩ := hg 3 (by omega)
  obtain ⟨b4, g4, l4⟩ := hg 4 (by omega)
  obtain ⟨b5, g5, l5⟩ := hg 5 (by omega)
  obtain ⟨b6, g6, l6⟩ := hg 6 (by omega)
  obtain ⟨b7, g7, l7⟩ := hg 7 (by omega)
  have e : (L.drop off).take 8 = [b0, b1, b2, b3, b4, b5, b6, b7] := by
    apply List.ext_getElem?
    intro i
    by_cases hi : i < 8
    · rw [List.getElem?_take_of_lt hi, List.getElem?_drop]
      match i, hi with
      | 0, _ => exact g0
      | 1, _ => exact g1
      | 2, _ => exact g2
      | 3, _ => exact g3
      | 4, _ => exact g4
      | 5, _ => exact g5
      | 6, _ => exact g6
      | 7, _ => exact g7
    · rw [List.getElem?_eq_none (by simp; omega), List.getElem?_eq_none (by simp; omega)]
  rw [hz, e, val8]
  exact word_walk g off cap b0 b1 b2 b3 b4 b5 b6 b7 w (hB.cell (ints_get g0)) (hB.cell (ints_get g1)) (hB.cell (ints_get g2)) (hB.cell (ints_get g3)) (hB.cell (ints_get g4)) (hB.cell (ints_get g5)) (hB.cell (ints_get g6)) (hB.cell (ints_get g7)) ⟨l0, l1, l2, l3, l4, l5, l6, l7⟩
end Go.Proofs.YtjkdonjcngmjeaaGreatDoor.sh
