/-
  Regions that draw their order, as in SHS, where slices that were there ahead of them are taken over, too.
-/
import Derived.Test.YthnkipicehppmaaDoorSHS
namespace Go.Proofs.YthnkipicehppmaaDoor.sh
open Go Go.RowKit
set_option linter.unusedVariables false
set_option linter.unusedSimpArgs false

/-- What an operation meets in the slots that it waits for, or that were there, and that no other one takes over. -/
def GotG (h : List Oper) (E : List (Nat × Nat)) (G : List Nat) (R : Nat → Value → World → Prop) (O : List Nat) (B i : Nat) (a : Act) (w : World) (o : Oper) : Prop :=
  ∀ d, (waitsFor h o d = true ∨ d ∈ G) → (E.all fun q => q.2 != d || q.1 == i) = true → ∃ v, a.tmps[d]? = some v ∧ R d v w ∧ (O.contains d = true → ∀ b, blkOf v = some b → B ≤ b ∧ b < w.heap.size)
theorem GotG.toE {h : List Oper} {E : List (Nat × Nat)} {G : List Nat} {R : Nat → Value → World → Prop} {O : List Nat} {B i : Nat} {a : Act} {w : World} {o : Oper} (hg : GotG h E G R O B i a w o) : GotE h E R O B i a w o := fun d hd hE => hg d (.inl hd) hE
def OwnOkG (P : Program) (h : List Oper) (A0 : Act) (W0 : World) (R : Nat → Value → World → Prop) (O : List Nat) (E : List (Nat × Nat)) (G : List Nat) (i : Nat) (o : Oper) : Prop := ∃ d, o.dst = some d ∧ ∀ a w, Fr h A0 a → Below W0.heap.size W0 w → GotG h E G R O W0.heap.size i a w o →
  Region.wanted o (yielded h.toArray a.tmps) = true ∧ o.wp P a w (fun a' w' => ∃ v row, a' = a.put (some d) v ∧ R d v w' ∧ w.grownBy w' row ∧ (∀ b, row = some b → ∃ s, (i, s) ∈ E ∧ (a.tmps[s]?).bind blkOf = some b) ∧
    (O.contains d = true → ∀ b, blkOf v = some b → (w.heap.size ≤ b ∧ b < w'.heap.size) ∨ ∃ s, (i, s) ∈ E ∧ (a.tmps[s]?).bind blkOf = some b)) (fun _ _ _ => False)
theorem OwnOk.toG {P : Program} {h : List Oper} {A0 : Act} {W0 : World} {R : Nat → Value → World → Prop} {O : List Nat} {E : List (Nat × Nat)} {G : List Nat} {i : Nat} {o : Oper} (hk : OwnOk P h A0 W0 R O E i o) : OwnOkG P h A0 W0 R O E G i o := by
  obtain ⟨d, hd, h1⟩ := hk
  exact ⟨d, hd, fun a w hF hB hgot => h1 a w hF hB hgot.toE⟩
def OwnAllG (P : Program) (h : List Oper) (A0 : Act) (W0 : World) (R : Nat → Value → World → Prop) (O : List Nat) (E : List (Nat × Nat)) (St : Stores) (G : List Nat) : Nat → List Oper → Prop
  | _, [] => True
  | i, o :: r => (OwnOkG P h A0 W0 R O E G i o ∨ StoreOk P h A0 W0 R O E St i o) ∧ OwnAllG P h A0 W0 R O E St G (i + 1) r
theorem ownAllG_get {P : Program} {h : List Oper} {A0 : Act} {W0 : World} {R : Nat → Value → World → Prop} {O : List Nat} {E : List (Nat × Nat)} {St : Stores} {G : List Nat} : ∀ (r : List Oper) (k : Nat), OwnAllG P h A0 W0 R O E St G k r → ∀ i o, r[i]? = some o → OwnOkG P h A0 W0 R O E G (k + i) o ∨ StoreOk P h A0 W0 R O E St (k + i) o
  | [], _, _, i, o, ho => by simp at ho
  | x :: r, k, hr, 0, o, ho => by simp at ho; subst ho; exact hr.1
  | x :: r, k, hr, i + 1, o, ho => by
    have := ownAllG_get r (k + 1) hr.2 i o (by simpa using ho)
    rwa [show k + 1 + i = k + (i + 1) from by omega] at this
def LivG (h : List Oper) (E : List (Nat × Nat)) (G : List Nat) (listed : Array Bool) (d : Nat) : Prop := ((∃ (i : Nat) (o : Oper), h[i]? = some o ∧ listed.getD i false = true ∧ o.dst = some d) ∨ d ∈ G) ∧ ∀ q ∈ E, q.2 = d → listed.getD q.1 false = false

theorem specOf_some : ∀ (L : List (Nat × (Value → World → Prop))) (q : Nat × (Value → World → Prop)), q ∈ L → ∃ p, specOf L q.1 = some p
  | [], q, hq => by cases hq
  | x :: r, q, hq => by
    unfold specOf
    rw [List.lookup_cons]
    split
    · exact ⟨_, rfl⟩
    · next hne =>
      rcases List.mem_cons.1 hq with h | h
      · subst h
        simp at hne
      · exact specOf_some r q h
theorem region_ownG {P : Program} {Q : Exit → Act → World → Prop} {id : Nat} {a : Act} {w : World} (W0 : World) (n : Nat) {l : List Oper} (R : Nat → Value → World → Prop) (O : List Nat) (E : List (Nat × Nat)) (St : Stores) (G : List Nat) (ds : List Nat) (hm : P.follows .mixedOrders = true)
    (hE : edgesIn (l.take n) = true) (hG : guardsIn (l.take n) = true) (hA : dstsApart (l.take n) 0 = true) (hI : dstsIn (l.take n) a.tmps.size = true) (hT : tailUnder (l.take n) (l.drop n) = true)
    (hS : Region.seqB .any l.toArray (l.drop n).length (l.take n).length (Array.replicate (l.take n).length true ++ Array.replicate (l.drop n).length false) = true)
    (hEw : (E.all fun q => O.contains q.2 && match (l.take n)[q.1]? with | some o => waitsFor (l.take n) o q.2 || G.contains q.2 | none => false) = true) (hEn : apartB (E.map (·.2)) = true)
    (hSw : (St.all fun q => O.contains q.2.1 && !((E.map (·.2)).contains q.2.1) && match (l.take n)[q.1]? with | some o => waitsFor (l.take n) o q.2.1 && o.dst.isNone | none => false) = true) (hSn : apartB (St.map (·.2.1)) = true) (hSi : apartB (St.map (·.1)) = true)
    (hGd : (G.all fun d => (l.take n).all fun o => o.dst != some d) = true) (hGO : (G.all fun d => O.contains d) = true) (hds : dstsOf (l.take n) = ds)
    (hG1 : ∀ d ∈ G, ∃ v, a.tmps[d]? = some v ∧ R d v w ∧ ∀ b, blkOf v = some b → W0.heap.size ≤ b ∧ b < w.heap.size) (hG2 : ∀ d ∈ G, ∀ d' ∈ G, d ≠ d' → ∀ b, (a.tmps[d]?).bind blkOf = some b → (a.tmps[d']?).bind blkOf ≠ some b)
    (hst1 : ∀ d v w w', O.contains d = false → R d v w → Below W0.heap.size W0 w → Below W0.heap.size w w' → R d v w')
    (hst2 : ∀ d v w w' row, O.contains d = true → R d v w → w.grownBy w' row → (blkOf v = none ∨ blkOf v ≠ row) → (∀ b, blkOf v = some b → b < w.heap.size) → R d v w')
    (hst3 : ∀ q ∈ St, ∀ (v : Value) (w w' : World) (row : Option Nat), q.2.2 v w → w.grownBy w' row → (blkOf v = none ∨ blkOf v ≠ row) → (∀ b, blkOf v = some b → b < w.heap.size) → q.2.2 v w') (hw : Below W0.heap.size W0 w)
    (hok : OwnAllG P (l.take n) a W0 R O E St G 0 (l.take n))
    (hfin : ∀ (f : Nat → Value) w', (∀ d ∈ ds, d ∉ E.map (·.2) → R d (f d) w' ∧ (O.contains d = true → ∀ b, blkOf (f d) = some b → W0.heap.size ≤ b ∧ b < w'.heap.size)) →
      (∀ d ∈ ds, ∀ d' ∈ ds, d ∉ E.map (·.2) → d' ∉ E.map (·.2) → O.contains d = true → O.contains d' = true → d ≠ d' → ∀ b, blkOf (f d) = some b → blkOf (f d') ≠ some b) → (∀ q ∈ St, q.2.2 (f q.2.1) w') → Below W0.heap.size W0 w' →
      wpList P l.toArray Q (l.drop n) (putR a (ds.map fun d => (d, f d))) w') : (Code.region id l.toArray true).wp P Q a w := by
  have e : l.take n ++ l.drop n = l := List.take_append_drop n l
  refine wp_region_any hm ?_
  generalize hh : l.take n = h at *
  have hEw' : ∀ q ∈ E, O.contains q.2 = true ∧ ∃ o, h[q.1]? = some o ∧ (waitsFor h o q.2 = true ∨ q.2 ∈ G) := fun q hq => by
    have := List.all_eq_true.1 hEw q hq
    simp only [Bool.and_eq_true] at this
    refine ⟨this.1, ?_⟩
    cases ho : h[q.1]? with
    | none => simp [ho] at this
    | some o =>
      have h3 := this.2
      simp only [ho, Bool.or_eq_true] at h3
      exact ⟨o, rfl, h3.imp (fun h => h) List.contains_iff_mem.1⟩
  have hSw' : ∀ q ∈ St, O.contains q.2.1 = true ∧ q.2.1 ∉ E.map (·.2) ∧ ∃ o, h[q.1]? = some o ∧ waitsFor h o q.2.1 = true ∧ o.dst = none := fun q hq => by
    have := List.all_eq_true.1 hSw q hq
    simp only [Bool.and_eq_true, Bool.not_eq_true'] at this
    refine ⟨this.1.1, fun hm => (by have h2 := this.1.2; rw [List.contains_iff_mem.2 hm] at h2; cases h2), ?_⟩
    cases ho : h[q.1]? with
    | none => simp [ho] at this
    | some o =>
      have h3 := this.2
      simp only [ho, Bool.and_eq_true, Option.isNone_iff_eq_none] at h3
      exact ⟨o, rfl, h3⟩
  have hGn : ∀ d ∈ G, ∀ (i : Nat) (o : Oper), h[i]? = some o → o.dst ≠ some d := fun d hd i o ho e => by
    have := List.all_eq_true.1 (List.all_eq_true.1 hGd d hd) o (List.mem_of_getElem? ho)
    rw [e] at this
    simp at this
  have hnt : ∀ s, s ∉ E.map (·.2) → ∀ q ∈ E, q.2 = s → False := fun s hs q hq he => hs (List.mem_map.2 ⟨q, hq, he⟩)
  have main := wpAny_inv (P := P) (l := h) (Q := headPost P (h ++ l.drop n).toArray Q (l.drop n))
    (fun listed a' w' => Fr h a a' ∧ Below W0.heap.size W0 w' ∧ (∀ d, LivG h E G listed d → ∃ v, a'.tmps[d]? = some v ∧ R d v w' ∧ (O.contains d = true → ∀ b, blkOf v = some b → W0.heap.size ≤ b ∧ b < w'.heap.size)) ∧
      (∀ d d', LivG h E G listed d → LivG h E G listed d' → O.contains d = true → O.contains d' = true → d ≠ d' → ∀ b, (a'.tmps[d]?).bind blkOf = some b → (a'.tmps[d']?).bind blkOf ≠ some b) ∧
      ∀ q ∈ St, listed.getD q.1 false = true → LivG h E G listed q.2.1 ∧ ∃ v, a'.tmps[q.2.1]? = some v ∧ q.2.2 v w') hE
    (by
      intro listed a' w' i o hls hI' ho hun hall
      obtain ⟨hF, hB, hV, hD, hSt⟩ := hI'
      have hil : i < listed.size := by rw [hls]; exact (List.getElem?_eq_some_iff.1 ho).1
      have hun' : listed.getD i false = false := by simpa [hil] using hun
      have hson : ∀ k, (listed.setIfInBounds i true).getD k false = if k = i then true else listed.getD k false := fun k => by
        by_cases hk : k = i
        · subst hk; simp [hil]
        · rw [if_neg hk, getD_set_ne false (Ne.symm hk)]
      have hlist : ∀ s, waitsFor h o s = true → ∃ (j : Nat) (o' : Oper), h[j]? = some o' ∧ listed.getD j false = true ∧ o'.dst = some s := fun s hs => by
        obtain ⟨x, hx, h1⟩ := Array.any_eq_true'.1 hs
        simp only [Bool.and_eq_true] at h1
        cases ho' : h[x.on]? with
        | none => simp [ho'] at h1
        | some o' => exact ⟨x.on, o', ho', hall x hx h1.1, by simpa [ho'] using h1.2⟩
      have hgot : GotG h E G R O W0.heap.size i a' w' o := fun s hs hq => hV s ⟨hs.imp (hlist s) (fun h => h), fun q hq' he => by
        have := List.all_eq_true.1 hq q hq'
        simp only [he, bne_self_eq_false, Bool.false_or, beq_iff_eq] at this
        rw [this]
        exact hun'⟩
      have hSe : ∀ s, (i, s) ∈ E → LivG h E G listed s ∧ O.contains s = true := fun s hs => by
        obtain ⟨h1, o', h2, h3⟩ := hEw' _ hs
        rw [ho] at h2
        cases h2
        refine ⟨⟨h3.imp (hlist s) (fun h => h), fun q hq he => ?_⟩, h1⟩
        have := apart_eq E hEn q hq (i, s) hs he
        rw [this]
        exact hun'
      have hkeep : ∀ d', LivG h E G listed d' → (∀ q ∈ E, q.2 = d' → False) → LivG h E G (listed.setIfInBounds i true) d' := fun d' hL hne => by
        refine ⟨?_, fun q hq he => (hne q hq he).elim⟩
        rcases hL.1 with ⟨j, o', h1, h2, h3⟩ | hg
        · refine .inl ⟨j, o', h1, ?_, h3⟩
          rw [hson j]
          split
          · rfl
          · exact h2
        · exact .inr hg
      rcases (by have := ownAllG_get h 0 hok i o ho; rwa [Nat.zero_add] at this : OwnOkG P h a W0 R O E G i o ∨ StoreOk P h a W0 R O E St i o) with ⟨d, hd, hrun⟩ | ⟨hd, s, p, hms, hrun⟩
      · obtain ⟨hwant, hwp⟩ := hrun a' w' hF hB hgot
        refine ⟨hwant, wp_false ?_ hwp⟩
        rintro a2 w2 ⟨v, row, rfl, hR, hg, hrow, hblk⟩
        have hdl : d < a'.tmps.size := by
          have := List.all_eq_true.1 hI o (List.mem_of_getElem? ho)
          rw [hd] at this
          rw [hF.size]
          simpa using this
        have hother : ∀ d', d' ≠ d → (a'.put (some d) v).tmps[d']? = a'.tmps[d']? := fun d' hne => by simp [Act.put, Array.getElem?_setIfInBounds_ne (Ne.symm hne)]
        have hself : (a'.put (some d) v).tmps[d]? = some v := by simp [Act.put, hdl]
        have hrange : ∀ s, (i, s) ∈ E → ∀ b, (a'.tmps[s]?).bind blkOf = some b → W0.heap.size ≤ b ∧ b < w'.heap.size := fun s hs b hb => by
          obtain ⟨h1, h2⟩ := hSe s hs
          obtain ⟨u, e1, _, e3⟩ := hV s h1
          rw [e1] at hb
          exact e3 h2 b hb
        have hBw : Below W0.heap.size w' w2 := grown_mono hg hB.size (fun b hb => by
          obtain ⟨s, hs, hb'⟩ := hrow b hb
          exact (hrange s hs b hb').1)
        have hold : ∀ d', LivG h E G (listed.setIfInBounds i true) d' → d' ≠ d → LivG h E G listed d' := fun d' hL hne => by
          obtain ⟨h0, h4⟩ := hL
          refine ⟨?_, fun q hq he => ?_⟩
          · rcases h0 with ⟨j, o', h1, h2, h3⟩ | hg
            · refine .inl ⟨j, o', h1, ?_, h3⟩
              rw [hson j] at h2
              split at h2
              · next hji => subst hji; rw [ho] at h1; cases h1; rw [hd] at h3; exact absurd (Option.some.inj h3).symm hne
              · exact h2
            · exact .inr hg
          · have := h4 q hq he
            rw [hson q.1] at this
            split at this
            · cases this
            · exact this
        have hne_s : ∀ s d', (i, s) ∈ E → LivG h E G (listed.setIfInBounds i true) d' → s ≠ d' := fun s d' hs hL he => by
          have := hL.2 (i, s) hs he
          rw [hson i, if_pos rfl] at this
          cases this
        refine ⟨⟨by rw [size_put]; exact hF.size, hF.defers, fun d' h' => ?_⟩, hB.trans hBw, fun d' hL => ?_, fun d1 d2 hL1 hL2 hO1 hO2 hne b hb1 hb2 => ?_, fun q hq hql => ?_⟩
        · rw [hother d' (fun e2 => h' i o ho (by rw [hd, e2]))]
          exact hF.out d' h'
        · by_cases hdd : d' = d
          · subst hdd
            refine ⟨v, hself, hR, fun hO b hb => ?_⟩
            rcases hblk hO b hb with ⟨h1, h2⟩ | ⟨s, hs, hb'⟩
            · exact ⟨Nat.le_trans hB.size h1, h2⟩
            · have := hrange s hs b hb'
              exact ⟨this.1, Nat.lt_of_lt_of_le this.2 hg.size⟩
          · have hL' := hold d' hL hdd
            obtain ⟨u, e1, e2, e3⟩ := hV d' hL'
            refine ⟨u, by rw [hother d' hdd]; exact e1, ?_, fun hO b hb => ⟨(e3 hO b hb).1, Nat.lt_of_lt_of_le (e3 hO b hb).2 hg.size⟩⟩
            cases hO : O.contains d' with
            | false => exact hst1 d' u w' w2 hO e2 hB hBw
            | true =>
              refine hst2 d' u w' w2 row hO e2 hg ?_ (fun b hb => (e3 hO b hb).2)
              cases hb : blkOf u with
              | none => exact .inl rfl
              | some b =>
                refine .inr fun hr => ?_
                obtain ⟨s, hs, hb'⟩ := hrow b hr.symm
                obtain ⟨h1, h2⟩ := hSe s hs
                exact hD s d' h1 hL' h2 hO (hne_s s d' hs hL) b hb' (by rw [e1]; exact hb)
        · by_cases h1 : d1 = d
          · subst h1
            have h2 : d2 ≠ d1 := Ne.symm hne
            have hL2' := hold d2 hL2 h2
            rw [hother d2 h2] at hb2
            rw [hself] at hb1
            rcases hblk hO1 b hb1 with ⟨h3, _⟩ | ⟨s, hs, hb'⟩
            · obtain ⟨u, e1, _, e3⟩ := hV d2 hL2'
              rw [e1] at hb2
              have := (e3 hO2 b hb2).2
              omega
            · obtain ⟨h4, h5⟩ := hSe s hs
              exact hD s d2 h4 hL2' h5 hO2 (hne_s s d2 hs hL2) b hb' hb2
          · have hL1' := hold d1 hL1 h1
            rw [hother d1 h1] at hb1
            by_cases h2 : d2 = d
            · subst h2
              rw [hself] at hb2
              rcases hblk hO2 b hb2 with ⟨h3, _⟩ | ⟨s, hs, hb'⟩
              · obtain ⟨u, e1, _, e3⟩ := hV d1 hL1'
                rw [e1] at hb1
                have := (e3 hO1 b hb1).2
                omega
              · obtain ⟨h4, h5⟩ := hSe s hs
                exact hD s d1 h4 hL1' h5 hO1 (hne_s s d1 hs hL1) b hb' hb1
            · rw [hother d2 h2] at hb2
              exact hD d1 d2 hL1' (hold d2 hL2 h2) hO1 hO2 hne b hb1 hb2
        · obtain ⟨hqO, hqE, oq, hoq, hwq, hqn⟩ := hSw' q hq
          have hqi : q.1 ≠ i := fun e2 => by
            rw [e2, ho] at hoq
            cases hoq
            rw [hd] at hqn
            cases hqn
          rw [hson, if_neg hqi] at hql
          obtain ⟨hL, u, e1, e2⟩ := hSt q hq hql
          have hqd : q.2.1 ≠ d := fun e3 => by
            rcases hL.1 with ⟨j, o', h1, h2, h3⟩ | hg
            · have hij : i ≠ j := fun e4 => by rw [e4, h2] at hun'; cases hun'
              exact dst_ne hA ho h1 hij hd (by rw [h3, e3])
            · exact hGn q.2.1 hg i o ho (by rw [hd, e3])
          refine ⟨hkeep _ hL (hnt _ hqE), u, by rw [hother _ hqd]; exact e1, ?_⟩
          obtain ⟨u', e1', _, e3'⟩ := hV q.2.1 hL
          rw [e1] at e1'
          cases e1'
          refine hst3 q hq u w' w2 row e2 hg ?_ (fun b hb => (e3' hqO b hb).2)
          cases hb : blkOf u with
          | none => exact .inl rfl
          | some b =>
            refine .inr fun hr => ?_
            obtain ⟨s, hs, hb'⟩ := hrow b hr.symm
            obtain ⟨h1, h2⟩ := hSe s hs
            exact hD s q.2.1 h1 hL h2 hqO (fun e5 => hqE (List.mem_map.2 ⟨(i, s), hs, e5⟩)) b hb' (by rw [e1]; exact hb)
      · obtain ⟨hsO, hsE, os, hos, hws, _⟩ := hSw' _ hms
        have hos' : os = o := by rw [ho] at hos; exact (Option.some.inj hos).symm
        subst hos'
        have hLs : LivG h E G listed s := ⟨.inl (hlist s hws), fun q hq he => (hnt s hsE q hq he).elim⟩
        obtain ⟨vs, es1, es2, es3⟩ := hV s hLs
        obtain ⟨hwant, hwp⟩ := hrun a' w' hF hB hgot.toE
        refine ⟨hwant, wp_false ?_ hwp⟩
        rintro a2 w2 ⟨rfl, hrest⟩
        obtain ⟨hR, hp, hg⟩ := hrest vs es1
        have hBw : Below W0.heap.size w' w2 := grown_mono hg hB.size (fun b hb => (es3 hsO b hb).1)
        have hold : ∀ d', LivG h E G (listed.setIfInBounds i true) d' → LivG h E G listed d' := fun d' hL => by
          obtain ⟨h0, h4⟩ := hL
          refine ⟨?_, fun q hq he => ?_⟩
          · rcases h0 with ⟨j, o', h1, h2, h3⟩ | hg
            · refine .inl ⟨j, o', h1, ?_, h3⟩
              rw [hson j] at h2
              split at h2
              · next hji => subst hji; rw [ho] at h1; cases h1; rw [hd] at h3; cases h3
              · exact h2
            · exact .inr hg
          · have := h4 q hq he
            rw [hson q.1] at this
            split at this
            · cases this
            · exact this
        have hapart : ∀ d' u, LivG h E G listed d' → O.contains d' = true → d' ≠ s → a2.tmps[d']? = some u → blkOf u = none ∨ blkOf u ≠ blkOf vs := fun d' u hL hO hne hu => by
          cases hb : blkOf u with
          | none => exact .inl rfl
          | some b => exact .inr fun hr => hD s d' hLs hL hsO hO (Ne.symm hne) b (by rw [es1]; exact hr.symm) (by rw [hu]; exact hb)
        refine ⟨hF, hB.trans hBw, fun d' hL => ?_, fun d1 d2 hL1 hL2 hO1 hO2 hne b hb1 hb2 => hD d1 d2 (hold d1 hL1) (hold d2 hL2) hO1 hO2 hne b hb1 hb2, fun q hq hql => ?_⟩
        · by_cases hdd : d' = s
          · subst hdd
            exact ⟨vs, es1, hR, fun hO b hb => ⟨(es3 hO b hb).1, Nat.lt_of_lt_of_le (es3 hO b hb).2 hg.size⟩⟩
          · have hL' := hold d' hL
            obtain ⟨u, e1, e2, e3⟩ := hV d' hL'
            refine ⟨u, e1, ?_, fun hO b hb => ⟨(e3 hO b hb).1, Nat.lt_of_lt_of_le (e3 hO b hb).2 hg.size⟩⟩
            cases hO : O.contains d' with
            | false => exact hst1 d' u w' w2 hO e2 hB hBw
            | true => exact hst2 d' u w' w2 _ hO e2 hg (hapart d' u hL' hO hdd e1) (fun b hb => (e3 hO b hb).2)
        · obtain ⟨hqO, hqE, oq, hoq, hwq, hqn⟩ := hSw' q hq
          by_cases hqi : q.1 = i
          · have := apart_gen (fun q : Nat × Nat × (Value → World → Prop) => q.1) St hSi q hq (i, s, p) hms hqi
            subst this
            exact ⟨hkeep _ hLs (hnt _ hsE), vs, es1, hp⟩
          · rw [hson, if_neg hqi] at hql
            obtain ⟨hL, u, e1, e2⟩ := hSt q hq hql
            refine ⟨hkeep _ hL (hnt _ hqE), u, e1, ?_⟩
            have hqs : q.2.1 ≠ s := fun e3 => hqi (by
              have := apart_gen (fun q : Nat × Nat × (Value → World → Prop) => q.2.1) St hSn q hq (i, s, p) hms e3
              rw [this])
            obtain ⟨u', e1', _, e3'⟩ := hV q.2.1 hL
            rw [e1] at e1'
            cases e1'
            exact hst3 q hq u w' w2 _ e2 hg (hapart q.2.1 u hL hqO hqs e1) (fun b hb => (e3' hqO b hb).2))
    (by
      intro a' w' hI'
      obtain ⟨hF, hB, hV, hD, hSt⟩ := hI'
      have hliv : ∀ d ∈ ds, d ∉ E.map (·.2) → LivG h E G (Array.replicate h.length true) d := fun d hd hn => by
        rw [← hds] at hd
        obtain ⟨o, ho, hd'⟩ := List.mem_filterMap.1 hd
        obtain ⟨i, hi, he⟩ := List.getElem_of_mem ho
        exact ⟨.inl ⟨i, o, by rw [List.getElem?_eq_getElem hi, he], by simp [hi], hd'⟩, fun q hq he => absurd (List.mem_map.2 ⟨q, hq, he⟩) hn⟩
      have hsome : ∀ d ∈ ds, ∃ v, a'.tmps[d]? = some v := fun d hd => by
        rw [← hds] at hd
        obtain ⟨o, ho, hd'⟩ := List.mem_filterMap.1 hd
        have := List.all_eq_true.1 hI o ho
        rw [hd'] at this
        exact ⟨_, Array.getElem?_eq_getElem (by rw [hF.size]; simpa using this)⟩
      have hfr := hfin (fun d => (a'.tmps[d]?).getD undef) w' (fun d hd hn => by obtain ⟨v, h1, h2⟩ := hV d (hliv d hd hn); simp only [h1, Option.getD_some]; exact h2)
        (fun d hd d' hd' hn hn' hO hO' hne b hb hb' => by
          obtain ⟨v, h1, _⟩ := hV d (hliv d hd hn)
          obtain ⟨v', h1', _⟩ := hV d' (hliv d' hd' hn')
          simp only [h1, h1', Option.getD_some] at hb hb'
          exact hD d d' (hliv d hd hn) (hliv d' hd' hn') hO hO' hne b (by rw [h1]; exact hb) (by rw [h1']; exact hb'))
        (fun q hq => by
          obtain ⟨_, _, oq, hoq, _⟩ := hSw' q hq
          have hlt := (List.getElem?_eq_some_iff.1 hoq).1
          obtain ⟨_, v, h1, h2⟩ := hSt q hq (by simp [hlt])
          simp only [h1, Option.getD_some]
          exact h2) hB
      have ea : a' = putR a (ds.map fun d => (d, (a'.tmps[d]?).getD undef)) := by
        refine act_eq (Array.ext_getElem? fun d => ?_) (by rw [putR_defers]; exact hF.defers)
        by_cases hdl : d < a.tmps.size
        · rw [putR_get (fun d => (a'.tmps[d]?).getD undef) d ds a hdl]
          by_cases hd : d ∈ ds
          · rw [if_pos hd]
            obtain ⟨v, h1⟩ := hsome d hd
            simp [h1]
          · rw [if_neg hd]
            refine hF.out d fun i o ho hd' => hd ?_
            rw [← hds]
            exact List.mem_filterMap.2 ⟨o, List.mem_of_getElem? ho, hd'⟩
        · rw [Array.getElem?_eq_none (by rw [hF.size]; omega), Array.getElem?_eq_none (by rw [putR_size]; omega)]
      rw [← ea] at hfr
      show wpList P (h ++ l.drop n).toArray Q (l.drop n) a' w'
      rw [e]
      exact hfr)
    h.length (Array.replicate h.length false) a { w with drawn := w.drawn + 1 } (by simp) (by simp [open_])
    (by
      have hno : ∀ k, (Array.replicate h.length false).getD k false = true → False := fun k hk => by
        rw [Array.getD_eq_getD_getElem?, Array.getElem?_replicate] at hk
        split at hk <;> simp at hk
      have hgv : ∀ d, LivG h E G (Array.replicate h.length false) d → d ∈ G := fun d hL => by
        rcases hL.1 with ⟨i, o, _, hon, _⟩ | hg
        · exact (hno i hon).elim
        · exact hg
      have hgr : w.grownBy { w with drawn := w.drawn + 1 } none := ⟨rfl, rfl, rfl, Nat.le_refl _, fun _ _ _ => rfl⟩
      refine ⟨⟨rfl, rfl, fun _ _ => rfl⟩, hw.drew, fun d hL => ?_, fun d d' hL hL' _ _ hne => hG2 d (hgv d hL) d' (hgv d' hL') hne, fun q _ hql => (hno q.1 hql).elim⟩
      obtain ⟨v, h1, h2, h3⟩ := hG1 d (hgv d hL)
      have hO : O.contains d = true := List.all_eq_true.1 hGO d (hgv d hL)
      refine ⟨v, h1, hst2 d v w _ none hO h2 hgr ?_ (fun b hb => (h3 b hb).2), fun _ => h3⟩
      cases blkOf v with
      | none => exact .inl rfl
      | some b => exact .inr (by simp))
  have h3 := lift_under (Q := Q) hE hG hT (by rw [e]; exact hS) h.length (Array.replicate h.length false) a _ (by simp) (by simp [open_]) (closed_none _) main
  rw [e] at h3
  have e1 : l.toArray.size = h.length + (l.drop n).length := by rw [← List.length_append, e]; simp
  rw [e1, show Array.replicate (h.length + (l.drop n).length) false = Array.replicate h.length false ++ Array.replicate (l.drop n).length false by simp]
  exact h3

theorem region_ownGL {P : Program} {Q : Exit → Act → World → Prop} {id : Nat} {a : Act} {w : World} (W0 : World) (n : Nat) {l : List Oper} (vals : List (Nat × Value)) (L : List (Nat × (Value → World → Prop))) (O : List Nat) (E : List (Nat × Nat)) (St : Stores) (LG : List (Nat × (Value → World → Prop))) (hm : P.follows .mixedOrders = true)
    (hE : edgesIn (l.take n) = true) (hG : guardsIn (l.take n) = true) (hA : dstsApart (l.take n) 0 = true) (hI : dstsIn (l.take n) a.tmps.size = true) (hT : tailUnder (l.take n) (l.drop n) = true)
    (hS : Region.seqB .any l.toArray (l.drop n).length (l.take n).length (Array.replicate (l.take n).length true ++ Array.replicate (l.drop n).length false) = true)
    (hv : (vals.all fun p => (dstsOf (l.take n)).contains p.1) = true) (hsp : ((L.map (·.1)).all fun d => (dstsOf (l.take n)).contains d) = true) (hO : (O.all fun d => (L.map (·.1)).contains d || (LG.map (·.1)).contains d) = true)
    (hEw : (E.all fun q => O.contains q.2 && match (l.take n)[q.1]? with | some o => waitsFor (l.take n) o q.2 || (LG.map (·.1)).contains q.2 | none => false) = true) (hEn : apartB (E.map (·.2)) = true)
    (hSw : (St.all fun q => O.contains q.2.1 && !((E.map (·.2)).contains q.2.1) && match (l.take n)[q.1]? with | some o => waitsFor (l.take n) o q.2.1 && o.dst.isNone | none => false) = true) (hSn : apartB (St.map (·.2.1)) = true) (hSi : apartB (St.map (·.1)) = true)
    (hGd : ((LG.map (·.1)).all fun d => (l.take n).all fun o => o.dst != some d) = true) (hGO : ((LG.map (·.1)).all fun d => O.contains d) = true)
    (hG1 : ∀ q ∈ LG, ∃ v, a.tmps[q.1]? = some v ∧ q.2 v w ∧ ∀ b, blkOf v = some b → W0.heap.size ≤ b ∧ b < w.heap.size) (hG2 : ∀ d ∈ LG.map (·.1), ∀ d' ∈ LG.map (·.1), d ≠ d' → ∀ b, (a.tmps[d]?).bind blkOf = some b → (a.tmps[d']?).bind blkOf ≠ some b) (hGu : apartB ((L ++ LG).map (·.1)) = true)
    (hst1 : ∀ q ∈ L ++ LG, O.contains q.1 = false → ∀ (v : Value) (w w' : World), q.2 v w → Below W0.heap.size W0 w → Below W0.heap.size w w' → q.2 v w')
    (hst2 : ∀ q ∈ L ++ LG, O.contains q.1 = true → ∀ (v : Value) (w w' : World) (row : Option Nat), q.2 v w → w.grownBy w' row → (blkOf v = none ∨ blkOf v ≠ row) → (∀ b, blkOf v = some b → b < w.heap.size) → q.2 v w')
    (hst3 : ∀ q ∈ St, ∀ (v : Value) (w w' : World) (row : Option Nat), q.2.2 v w → w.grownBy w' row → (blkOf v = none ∨ blkOf v ≠ row) → (∀ b, blkOf v = some b → b < w.heap.size) → q.2.2 v w') (hw : Below W0.heap.size W0 w)
    (hok : Full (l.take n) a (putR a vals) (specOf (L ++ LG)) ((L ++ LG).map (·.1)) → OwnAllG P (l.take n) a W0 (relR (putR a vals) (specOf (L ++ LG))) O E St (LG.map (·.1)) 0 (l.take n))
    (hfin : ∀ (f : Nat → Value) w', (∀ d p, specOf L d = some p → (E.map (·.2)).contains d = false → p (f d) w' ∧ (O.contains d = true → ∀ b, blkOf (f d) = some b → W0.heap.size ≤ b ∧ b < w'.heap.size)) →
      (∀ d d', d ∈ dstsOf (l.take n) → d' ∈ dstsOf (l.take n) → O.contains d = true → O.contains d' = true → (E.map (·.2)).contains d = false → (E.map (·.2)).contains d' = false → d ≠ d' → ∀ b, blkOf (f d) = some b → blkOf (f d') ≠ some b) → (∀ q ∈ St, q.2.2 (f q.2.1) w') → Below W0.heap.size W0 w' →
      wpList P l.toArray Q (l.drop n) (putR (putR a vals) ((L.map (·.1)).map fun d => (d, f d))) w') : (Code.region id l.toArray true).wp P Q a w := by
  have hfull : Full (l.take n) a (putR a vals) (specOf (L ++ LG)) ((L ++ LG).map (·.1)) := full_put vals hv (specOf_none (L ++ LG))
  have hOL : ∀ d, O.contains d = true → d ∈ (L ++ LG).map (·.1) := fun d hd => by
    have := List.all_eq_true.1 hO d (List.contains_iff_mem.1 hd)
    simp only [Bool.or_eq_true, List.contains_iff_mem] at this
    rw [List.map_append]
    exact List.mem_append.2 this
  have hGn : ∀ d ∈ LG.map (·.1), d ∉ dstsOf (l.take n) := fun d hd hm' => by
    obtain ⟨o, ho, hdo⟩ := List.mem_filterMap.1 hm'
    have := List.all_eq_true.1 (List.all_eq_true.1 hGd d hd) o ho
    rw [hdo] at this
    simp at this
  have hEO : ∀ d, d ∈ E.map (·.2) → d ∈ dstsOf (l.take n) → d ∈ L.map (·.1) := fun d hd hdd => by
    obtain ⟨q, hq, rfl⟩ := List.mem_map.1 hd
    have := List.all_eq_true.1 hEw q hq
    simp only [Bool.and_eq_true] at this
    have h2 := hOL _ this.1
    rw [List.map_append] at h2
    rcases List.mem_append.1 h2 with h3 | h3
    · exact h3
    · exact absurd hdd (hGn _ h3)
  have hin : ∀ d, d ∈ L.map (·.1) → d ∈ dstsOf (l.take n) := fun d hd => List.contains_iff_mem.1 (List.all_eq_true.1 hsp d hd)
  have hnc : ∀ d, (E.map (·.2)).contains d = false → d ∉ E.map (·.2) := fun d h hm => by rw [List.contains_iff_mem.2 hm] at h; cases h
  have hsL : ∀ d p, specOf L d = some p → specOf (L ++ LG) d = some p := fun d p h => by
    unfold specOf at *
    rw [List.lookup_append, h]
    rfl
  refine region_ownG W0 n (relR (putR a vals) (specOf (L ++ LG))) O E St (LG.map (·.1)) _ hm hE hG hA hI hT hS hEw hEn hSw hSn hSi hGd hGO rfl ?_ hG2 ?_ ?_ hst3 hw (hok hfull) ?_
  · intro d hd
    obtain ⟨q, hq, rfl⟩ := List.mem_map.1 hd
    obtain ⟨v, h1, h2, h3⟩ := hG1 q hq
    refine ⟨v, h1, ?_, h3⟩
    unfold relR
    cases hs : specOf (L ++ LG) q.1 with
    | none =>
      obtain ⟨p, hp⟩ := specOf_some (L ++ LG) q (List.mem_append.2 (.inr hq))
      rw [hs] at hp
      cases hp
    | some p =>
      obtain ⟨q', hq', e1, rfl⟩ := specOf_mem' (L ++ LG) q.1 p hs
      have := apart_gen (fun q : Nat × (Value → World → Prop) => q.1) (L ++ LG) hGu q' hq' q (List.mem_append.2 (.inr hq)) e1
      rw [this]
      exact h2
  · intro d v w w' hd h1 h2 h3
    unfold relR at *
    cases hs : specOf (L ++ LG) d with
    | none => rw [hs] at h1; exact h1
    | some p =>
      rw [hs] at h1
      obtain ⟨q, hq, rfl, rfl⟩ := specOf_mem' (L ++ LG) d p hs
      exact hst1 q hq hd v w w' h1 h2 h3
  · intro d v w w' row hd h1 h2 h3 h4
    unfold relR at *
    cases hs : specOf (L ++ LG) d with
    | none => rw [hs] at h1; exact h1
    | some p =>
      rw [hs] at h1
      obtain ⟨q, hq, rfl, rfl⟩ := specOf_mem' (L ++ LG) d p hs
      exact hst2 q hq hd v w w' row h1 h2 h3 h4
  · intro f w' hf hD hSq hb
    have hnone : ∀ d, d ∈ dstsOf (l.take n) → d ∉ L.map (·.1) → d ∉ (L ++ LG).map (·.1) := fun d h1 h2 h3 => by
      rw [List.map_append] at h3
      rcases List.mem_append.1 h3 with h4 | h4
      · exact h2 h4
      · exact hGn d h4 h1
    have e : putR a ((dstsOf (l.take n)).map fun d => (d, f d)) = putR (putR a vals) ((L.map (·.1)).map fun d => (d, f d)) := by
      refine act_eq (Array.ext_getElem? fun d => ?_) (by rw [putR_defers, putR_defers, putR_defers])
      rw [putR_get', putR_get', putR_size]
      by_cases hd : d < a.tmps.size
      · rw [if_pos hd, if_pos hd]
        by_cases h1 : d ∈ dstsOf (l.take n)
        · rw [if_pos h1]
          by_cases h2 : d ∈ L.map (·.1)
          · rw [if_pos h2]
          · rw [if_neg h2]
            have := (hf d h1 (fun h3 => h2 (hEO d h3 h1))).1
            unfold relR at this
            rw [hfull.spec d (hnone d h1 h2)] at this
            exact this.symm
        · rw [if_neg h1, if_neg (fun h2 => h1 (hin d h2))]
          refine (hfull.out d fun i o ho hdo => h1 ?_).symm
          exact List.mem_filterMap.2 ⟨o, List.mem_of_getElem? ho, hdo⟩
      · rw [if_neg hd, if_neg hd]
    rw [e]
    have hd2 : ∀ d p, specOf L d = some p → d ∈ dstsOf (l.take n) := fun d p hp => by
      by_cases hd : d ∈ L.map (·.1)
      · exact hin d hd
      · rw [specOf_none L d hd] at hp
        cases hp
    refine hfin f w' (fun d p hp hn => ?_) (fun d d' h1 h2 h3 h4 h5 h6 h7 => hD d h1 d' h2 (hnc d h5) (hnc d' h6) h3 h4 h7) hSq hb
    have := hf d (hd2 d p hp) (hnc d hn)
    unfold relR at this
    rw [hsL d p hp] at this
    exact this

section
variable {P : Program} {h : List Oper} {A0 A : Act} {W0 : World} {S : Nat → Option (Value → World → Prop)} {O : List Nat} {E : List (Nat × Nat)} {G : List Nat} {i : Nat} {o : Oper}
/-- A slot that was there ahead is taken over as it is. -/
theorem og_take (hg : o.guard = none) (d s : Nat) (hd : o.dst = some d) (ho : o.op = .move (.tmp s)) (p : Value → World → Prop) (hp : S d = some p) (hps : S s = some p) (hG : s ∈ G) (hE : (E.all fun q => q.2 != s || q.1 == i) = true) (hm : (i, s) ∈ E) : OwnOkG P h A0 W0 (relR A S) O E G i o :=
  ⟨d, hd, fun a w hF hB hgot => by
    obtain ⟨u, e1, e2, e3⟩ := hgot s (.inr hG) hE
    unfold relR at e2
    rw [hps] at e2
    have ev : a.eval (.tmp s) = u := by simp [Act.eval, e1]
    refine ⟨by simp [Region.wanted, hg], ?_⟩
    unfold Oper.wp execOp
    simp only [ho, ev]
    simp only [Sem.run_pure, Oper.upon]
    rw [hd]
    exact ⟨u, none, rfl, rel_spec p hp e2, grown_none (Below.refl _ _), fun b hb => (by cases hb), fun _ b hb => .inr ⟨s, hm, by rw [e1]; exact hb⟩⟩⟩
end
end Go.Proofs.YthnkipicehppmaaDoor.sh
