/-
  General pieces, joined: SHS SHG.
-/
import Derived.Test.YtjkdonjcngmjeaaDoorG16
/-
  Regions that draw their order, as in SH, with stores among them that wait for no more than they need: each into a block that a slot owns.
-/
namespace Go.Proofs.YtjkdonjcngmjeaaDoor.sh
open Go Go.RowKit
set_option linter.unusedVariables false
set_option linter.unusedSimpArgs false

/-- Stores: the operation's index, the slot whose block it writes, and what holds behind it. -/
abbrev Stores := List (Nat × Nat × (Value → World → Prop))
/-- A store into a block that a slot owns. -/
def StoreOk (P : Program) (h : List Oper) (A0 : Act) (W0 : World) (R : Nat → Value → World → Prop) (O : List Nat) (E : List (Nat × Nat)) (St : Stores) (i : Nat) (o : Oper) : Prop := o.dst = none ∧ ∃ s p, (i, s, p) ∈ St ∧ ∀ a w, Fr h A0 a → Below W0.heap.size W0 w → GotE h E R O W0.heap.size i a w o →
  Region.wanted o (yielded h.toArray a.tmps) = true ∧ o.wp P a w (fun a' w' => a' = a ∧ ∀ v, a.tmps[s]? = some v → R s v w' ∧ p v w' ∧ w.grownBy w' (blkOf v)) (fun _ _ _ => False)
def OwnAllS (P : Program) (h : List Oper) (A0 : Act) (W0 : World) (R : Nat → Value → World → Prop) (O : List Nat) (E : List (Nat × Nat)) (St : Stores) : Nat → List Oper → Prop
  | _, [] => True
  | i, o :: r => (OwnOk P h A0 W0 R O E i o ∨ StoreOk P h A0 W0 R O E St i o) ∧ OwnAllS P h A0 W0 R O E St (i + 1) r
theorem ownAllS_get {P : Program} {h : List Oper} {A0 : Act} {W0 : World} {R : Nat → Value → World → Prop} {O : List Nat} {E : List (Nat × Nat)} {St : Stores} : ∀ (r : List Oper) (k : Nat), OwnAllS P h A0 W0 R O E St k r → ∀ i o, r[i]? = some o → OwnOk P h A0 W0 R O E (k + i) o ∨ StoreOk P h A0 W0 R O E St (k + i) o
  | [], _, _, i, o, ho => by simp at ho
  | x :: r, k, hr, 0, o, ho => by simp at ho; subst ho; exact hr.1
  | x :: r, k, hr, i + 1, o, ho => by
    have := ownAllS_get r (k + 1) hr.2 i o (by simpa using ho)
    rwa [show k + 1 + i = k + (i + 1) from by omega] at this
theorem apart_gen {α : Type} (f : α → Nat) : ∀ (E : List α), apartB (E.map f) = true → ∀ q ∈ E, ∀ q' ∈ E, f q = f q' → q = q'
  | [], _, q, hq, _, _, _ => by cases hq
  | x :: r, h, q, hq, q', hq', he => by
    simp only [List.map_cons, apartB, Bool.and_eq_true, Bool.not_eq_true'] at h
    have hn : ∀ y ∈ r, f y ≠ f x := fun y hy e => by
      have : (r.map f).contains (f x) = true := List.contains_iff_mem.2 (List.mem_map.2 ⟨y, hy, e⟩)
      rw [h.1] at this
      cases this
    rcases List.mem_cons.1 hq with h1 | h1 <;> rcases List.mem_cons.1 hq' with h2 | h2
    · rw [h1, h2]
    · exact absurd (by rw [← he, h1]) (hn q' h2)
    · exact absurd (by rw [he, h2]) (hn q h1)
    · exact apart_gen f r h.2 q h1 q' h2 he

theorem region_ownS {P : Program} {Q : Exit → Act → World → Prop} {id : Nat} {a : Act} {w : World} (W0 : World) (n : Nat) {l : List Oper} (R : Nat → Value → World → Prop) (O : List Nat) (E : List (Nat × Nat)) (St : Stores) (ds : List Nat) (hm : P.follows .mixedOrders = true)
    (hE : edgesIn (l.take n) = true) (hG : guardsIn (l.take n) = true) (hA : dstsApart (l.take n) 0 = true) (hI : dstsIn (l.take n) a.tmps.size = true) (hT : tailUnder (l.take n) (l.drop n) = true)
    (hS : Region.seqB .any l.toArray (l.drop n).length (l.take n).length (Array.replicate (l.take n).length true ++ Array.replicate (l.drop n).length false) = true)
    (hEw : (E.all fun q => O.contains q.2 && match (l.take n)[q.1]? with | some o => waitsFor (l.take n) o q.2 | none => false) = true) (hEn : apartB (E.map (·.2)) = true)
    (hSw : (St.all fun q => O.contains q.2.1 && !((E.map (·.2)).contains q.2.1) && match (l.take n)[q.1]? with | some o => waitsFor (l.take n) o q.2.1 && o.dst.isNone | none => false) = true) (hSn : apartB (St.map (·.2.1)) = true) (hSi : apartB (St.map (·.1)) = true)
    (hds : dstsOf (l.take n) = ds)
    (hst1 : ∀ d v w w', O.contains d = false → R d v w → Below W0.heap.size W0 w → Below W0.heap.size w w' → R d v w')
    (hst2 : ∀ d v w w' row, O.contains d = true → R d v w → w.grownBy w' row → (blkOf v = none ∨ blkOf v ≠ row) → (∀ b, blkOf v = some b → b < w.heap.size) → R d v w')
    (hst3 : ∀ q ∈ St, ∀ (v : Value) (w w' : World) (row : Option Nat), q.2.2 v w → w.grownBy w' row → (blkOf v = none ∨ blkOf v ≠ row) → (∀ b, blkOf v = some b → b < w.heap.size) → q.2.2 v w') (hw : Below W0.heap.size W0 w)
    (hok : OwnAllS P (l.take n) a W0 R O E St 0 (l.take n))
    (hfin : ∀ (f : Nat → Value) w', (∀ d ∈ ds, d ∉ E.map (·.2) → R d (f d) w' ∧ (O.contains d = true → ∀ b, blkOf (f d) = some b → W0.heap.size ≤ b ∧ b < w'.heap.size)) →
      (∀ d ∈ ds, ∀ d' ∈ ds, d ∉ E.map (·.2) → d' ∉ E.map (·.2) → O.contains d = true → O.contains d' = true → d ≠ d' → ∀ b, blkOf (f d) = some b → blkOf (f d') ≠ some b) → (∀ q ∈ St, q.2.2 (f q.2.1) w') → Below W0.heap.size W0 w' →
      wpList P l.toArray Q (l.drop n) (putR a (ds.map fun d => (d, f d))) w') : (Code.region id l.toArray true).wp P Q a w := by
  have e : l.take n ++ l.drop n = l := List.take_append_drop n l
  refine wp_region_any hm ?_
  generalize hh : l.take n = h at *
  have hEw' : ∀ q ∈ E, O.contains q.2 = true ∧ ∃ o, h[q.1]? = some o ∧ waitsFor h o q.2 = true := fun q hq => by
    have := List.all_eq_true.1 hEw q hq
    simp only [Bool.and_eq_true] at this
    refine ⟨this.1, ?_⟩
    cases ho : h[q.1]? with
    | none => simp [ho] at this
    | some o => exact ⟨o, rfl, by simpa [ho] using this.2⟩
  have hSw' : ∀ q ∈ St, O.contains q.2.1 = true ∧ q.2.1 ∉ E.map (·.2) ∧ ∃ o, h[q.1]? = some o ∧ waitsFor h o q.2.1 = true ∧ o.dst = none := fun q hq => by
    have := List.all_eq_true.1 hSw q hq
    simp only [Bool.and_eq_true, Bool.not_eq_true'] at this
    refine ⟨this.1.1, fun hm => (by have h2 := this.1.2; rw [List.contains_iff_mem.2 hm] at h2; cases h2), ?_⟩
    cases ho : h[q.1]? with
    | none => simp [ho] at this
    | some o =>
      have h3 := this.2
      simp only [ho, Bool.and_eq_true, Option.isNone_iff_eq_none] at h3
      exact ⟨o, rfl, h3⟩
  have hnt : ∀ s, s ∉ E.map (·.2) → ∀ q ∈ E, q.2 = s → False := fun s hs q hq he => hs (List.mem_map.2 ⟨q, hq, he⟩)
  have main := wpAny_inv (P := P) (l := h) (Q := headPost P (h ++ l.drop n).toArray Q (l.drop n))
    (fun listed a' w' => Fr h a a' ∧ Below W0.heap.size W0 w' ∧ (∀ d, Liv h E listed d → ∃ v, a'.tmps[d]? = some v ∧ R d v w' ∧ (O.contains d = true → ∀ b, blkOf v = some b → W0.heap.size ≤ b ∧ b < w'.heap.size)) ∧
      (∀ d d', Liv h E listed d → Liv h E listed d' → O.contains d = true → O.contains d' = true → d ≠ d' → ∀ b, (a'.tmps[d]?).bind blkOf = some b → (a'.tmps[d']?).bind blkOf ≠ some b) ∧
      ∀ q ∈ St, listed.getD q.1 false = true → Liv h E listed q.2.1 ∧ ∃ v, a'.tmps[q.2.1]? = some v ∧ q.2.2 v w') hE
    (by
      intro listed a' w' i o hls hI' ho hun hall
      obtain ⟨hF, hB, hV, hD, hSt⟩ := hI'
      have hil : i < listed.size := by rw [hls]; exact (List.getElem?_eq_some_iff.1 ho).1
      have hun' : listed.getD i false = false := by simpa [hil] using hun
      have hson : ∀ k, (listed.setIfInBounds i true).getD k false = if k = i then true else listed.getD k false := fun k => by
        by_cases hk : k = i
        · subst hk; simp [hil]
        · rw [if_neg hk, getD_set_ne false (Ne.symm hk)]
      have hlist : ∀ s, waitsFor h o s = true → ∃ (j : Nat) (o' : Oper), h[j]? = some o' ∧ listed.getD j false = true ∧ o'.dst = some s := fun s hs => by
        obtain ⟨x, hx, h1⟩ := Array.any_eq_true'.1 hs
        simp only [Bool.and_eq_true] at h1
        cases ho' : h[x.on]? with
        | none => simp [ho'] at h1
        | some o' => exact ⟨x.on, o', ho', hall x hx h1.1, by simpa [ho'] using h1.2⟩
      have hgot : GotE h E R O W0.heap.size i a' w' o := fun s hs hq => hV s ⟨hlist s hs, fun q hq' he => by
        have := List.all_eq_true.1 hq q hq'
        simp only [he, bne_self_eq_false, Bool.false_or, beq_iff_eq] at this
        rw [this]
        exact hun'⟩
      have hSe : ∀ s, (i, s) ∈ E → Liv h E listed s ∧ O.contains s = true := fun s hs => by
        obtain ⟨h1, o', h2, h3⟩ := hEw' _ hs
        rw [ho] at h2
        cases h2
        refine ⟨⟨hlist s h3, fun q hq he => ?_⟩, h1⟩
        have := apart_eq E hEn q hq (i, s) hs he
        rw [this]
        exact hun'
      have hkeep : ∀ d', Liv h E listed d' → (∀ q ∈ E, q.2 = d' → False) → Liv h E (listed.setIfInBounds i true) d' := fun d' hL hne => by
        obtain ⟨⟨j, o', h1, h2, h3⟩, h4⟩ := hL
        refine ⟨⟨j, o', h1, ?_, h3⟩, fun q hq he => (hne q hq he).elim⟩
        rw [hson j]
        split
        · rfl
        · exact h2
      rcases (by have := ownAllS_get h 0 hok i o ho; rwa [Nat.zero_add] at this : OwnOk P h a W0 R O E i o ∨ StoreOk P h a W0 R O E St i o) with ⟨d, hd, hrun⟩ | ⟨hd, s, p, hms, hrun⟩
      · obtain ⟨hwant, hwp⟩ := hrun a' w' hF hB hgot
        refine ⟨hwant, wp_false ?_ hwp⟩
        rintro a2 w2 ⟨v, row, rfl, hR, hg, hrow, hblk⟩
        have hdl : d < a'.tmps.size := by
          have := List.all_eq_true.1 hI o (List.mem_of_getElem? ho)
          rw [hd] at this
          rw [hF.size]
          simpa using this
        have hother : ∀ d', d' ≠ d → (a'.put (some d) v).tmps[d']? = a'.tmps[d']? := fun d' hne => by simp [Act.put, Array.getElem?_setIfInBounds_ne (Ne.symm hne)]
        have hself : (a'.put (some d) v).tmps[d]? = some v := by simp [Act.put, hdl]
        have hrange : ∀ s, (i, s) ∈ E → ∀ b, (a'.tmps[s]?).bind blkOf = some b → W0.heap.size ≤ b ∧ b < w'.heap.size := fun s hs b hb => by
          obtain ⟨h1, h2⟩ := hSe s hs
          obtain ⟨u, e1, _, e3⟩ := hV s h1
          rw [e1] at hb
          exact e3 h2 b hb
        have hBw : Below W0.heap.size w' w2 := grown_mono hg hB.size (fun b hb => by
          obtain ⟨s, hs, hb'⟩ := hrow b hb
          exact (hrange s hs b hb').1)
        have hold : ∀ d', Liv h E (listed.setIfInBounds i true) d' → d' ≠ d → Liv h E listed d' := fun d' hL hne => by
          obtain ⟨⟨j, o', h1, h2, h3⟩, h4⟩ := hL
          refine ⟨⟨j, o', h1, ?_, h3⟩, fun q hq he => ?_⟩
          · rw [hson j] at h2
            split at h2
            · next hji => subst hji; rw [ho] at h1; cases h1; rw [hd] at h3; exact absurd (Option.some.inj h3).symm hne
            · exact h2
          · have := h4 q hq he
            rw [hson q.1] at this
            split at this
            · cases this
            · exact this
        have hne_s : ∀ s d', (i, s) ∈ E → Liv h E (listed.setIfInBounds i true) d' → s ≠ d' := fun s d' hs hL he => by
          have := hL.2 (i, s) hs he
          rw [hson i, if_pos rfl] at this
          cases this
        refine ⟨⟨by rw [size_put]; exact hF.size, hF.defers, fun d' h' => ?_⟩, hB.trans hBw, fun d' hL => ?_, fun d1 d2 hL1 hL2 hO1 hO2 hne b hb1 hb2 => ?_, fun q hq hql => ?_⟩
        · rw [hother d' (fun e2 => h' i o ho (by rw [hd, e2]))]
          exact hF.out d' h'
        · by_cases hdd : d' = d
          · subst hdd
            refine ⟨v, hself, hR, fun hO b hb => ?_⟩
            rcases hblk hO b hb with ⟨h1, h2⟩ | ⟨s, hs, hb'⟩
            · exact ⟨Nat.le_trans hB.size h1, h2⟩
            · have := hrange s hs b hb'
              exact ⟨this.1, Nat.lt_of_lt_of_le this.2 hg.size⟩
          · have hL' := hold d' hL hdd
            obtain ⟨u, e1, e2, e3⟩ := hV d' hL'
            refine ⟨u, by rw [hother d' hdd]; exact e1, ?_, fun hO b hb => ⟨(e3 hO b hb).1, Nat.lt_of_lt_of_le (e3 hO b hb).2 hg.size⟩⟩
            cases hO : O.contains d' with
            | false => exact hst1 d' u w' w2 hO e2 hB hBw
            | true =>
              refine hst2 d' u w' w2 row hO e2 hg ?_ (fun b hb => (e3 hO b hb).2)
              cases hb : blkOf u with
              | none => exact .inl rfl
              | some b =>
                refine .inr fun hr => ?_
                obtain ⟨s, hs, hb'⟩ := hrow b hr.symm
                obtain ⟨h1, h2⟩ := hSe s hs
                exact hD s d' h1 hL' h2 hO (hne_s s d' hs hL) b hb' (by rw [e1]; exact hb)
        · by_cases h1 : d1 = d
          · subst h1
            have h2 : d2 ≠ d1 := Ne.symm hne
            have hL2' := hold d2 hL2 h2
            rw [hother d2 h2] at hb2
            rw [hself] at hb1
            rcases hblk hO1 b hb1 with ⟨h3, _⟩ | ⟨s, hs, hb'⟩
            · obtain ⟨u, e1, _, e3⟩ := hV d2 hL2'
              rw [e1] at hb2
              have := (e3 hO2 b hb2).2
              omega
            · obtain ⟨h4, h5⟩ := hSe s hs
              exact hD s d2 h4 hL2' h5 hO2 (hne_s s d2 hs hL2) b hb' hb2
          · have hL1' := hold d1 hL1 h1
            rw [hother d1 h1] at hb1
            by_cases h2 : d2 = d
            · subst h2
              rw [hself] at hb2
              rcases hblk hO2 b hb2 with ⟨h3, _⟩ | ⟨s, hs, hb'⟩
              · obtain ⟨u, e1, _, e3⟩ := hV d1 hL1'
                rw [e1] at hb1
                have := (e3 hO1 b hb1).2
                omega
              · obtain ⟨h4, h5⟩ := hSe s hs
                exact hD s d1 h4 hL1' h5 hO1 (hne_s s d1 hs hL1) b hb' hb1
            · rw [hother d2 h2] at hb2
              exact hD d1 d2 hL1' (hold d2 hL2 h2) hO1 hO2 hne b hb1 hb2
        · obtain ⟨hqO, hqE, oq, hoq, hwq, hqn⟩ := hSw' q hq
          have hqi : q.1 ≠ i := fun e2 => by
            rw [e2, ho] at hoq
            cases hoq
            rw [hd] at hqn
            cases hqn
          rw [hson, if_neg hqi] at hql
          obtain ⟨hL, u, e1, e2⟩ := hSt q hq hql
          have hqd : q.2.1 ≠ d := fun e3 => by
            obtain ⟨⟨j, o', h1, h2, h3⟩, _⟩ := hL
            have hij : i ≠ j := fun e4 => by rw [e4, h2] at hun'; cases hun'
            exact dst_ne hA ho h1 hij hd (by rw [h3, e3])
          refine ⟨hkeep _ hL (hnt _ hqE), u, by rw [hother _ hqd]; exact e1, ?_⟩
          obtain ⟨u', e1', _, e3'⟩ := hV q.2.1 hL
          rw [e1] at e1'
          cases e1'
          refine hst3 q hq u w' w2 row e2 hg ?_ (fun b hb => (e3' hqO b hb).2)
          cases hb : blkOf u with
          | none => exact .inl rfl
          | some b =>
            refine .inr fun hr => ?_
            obtain ⟨s, hs, hb'⟩ := hrow b hr.symm
            obtain ⟨h1, h2⟩ := hSe s hs
            exact hD s q.2.1 h1 hL h2 hqO (fun e5 => hqE (List.mem_map.2 ⟨(i, s), hs, e5⟩)) b hb' (by rw [e1]; exact hb)
      · obtain ⟨hsO, hsE, os, hos, hws, _⟩ := hSw' _ hms
        have hos' : os = o := by rw [ho] at hos; exact (Option.some.inj hos).symm
        subst hos'
        have hLs : Liv h E listed s := ⟨hlist s hws, fun q hq he => (hnt s hsE q hq he).elim⟩
        obtain ⟨vs, es1, es2, es3⟩ := hV s hLs
        obtain ⟨hwant, hwp⟩ := hrun a' w' hF hB hgot
        refine ⟨hwant, wp_false ?_ hwp⟩
        rintro a2 w2 ⟨rfl, hrest⟩
        obtain ⟨hR, hp, hg⟩ := hrest vs es1
        have hBw : Below W0.heap.size w' w2 := grown_mono hg hB.size (fun b hb => (es3 hsO b hb).1)
        have hold : ∀ d', Liv h E (listed.setIfInBounds i true) d' → Liv h E listed d' := fun d' hL => by
          obtain ⟨⟨j, o', h1, h2, h3⟩, h4⟩ := hL
          refine ⟨⟨j, o', h1, ?_, h3⟩, fun q hq he => ?_⟩
          · rw [hson j] at h2
            split at h2
            · next hji => subst hji; rw [ho] at h1; cases h1; rw [hd] at h3; cases h3
            · exact h2
          · have := h4 q hq he
            rw [hson q.1] at this
            split at this
            · cases this
            · exact this
        have hapart : ∀ d' u, Liv h E listed d' → O.contains d' = true → d' ≠ s → a2.tmps[d']? = some u → blkOf u = none ∨ blkOf u ≠ blkOf vs := fun d' u hL hO hne hu => by
          cases hb : blkOf u with
          | none => exact .inl rfl
          | some b => exact .inr fun hr => hD s d' hLs hL hsO hO (Ne.symm hne) b (by rw [es1]; exact hr.symm) (by rw [hu]; exact hb)
        refine ⟨hF, hB.trans hBw, fun d' hL => ?_, fun d1 d2 hL1 hL2 hO1 hO2 hne b hb1 hb2 => hD d1 d2 (hold d1 hL1) (hold d2 hL2) hO1 hO2 hne b hb1 hb2, fun q hq hql => ?_⟩
        · by_cases hdd : d' = s
          · subst hdd
            exact ⟨vs, es1, hR, fun hO b hb => ⟨(es3 hO b hb).1, Nat.lt_of_lt_of_le (es3 hO b hb).2 hg.size⟩⟩
          · have hL' := hold d' hL
            obtain ⟨u, e1, e2, e3⟩ := hV d' hL'
            refine ⟨u, e1, ?_, fun hO b hb => ⟨(e3 hO b hb).1, Nat.lt_of_lt_of_le (e3 hO b hb).2 hg.size⟩⟩
            cases hO : O.contains d' with
            | false => exact hst1 d' u w' w2 hO e2 hB hBw
            | true => exact hst2 d' u w' w2 _ hO e2 hg (hapart d' u hL' hO hdd e1) (fun b hb => (e3 hO b hb).2)
        · obtain ⟨hqO, hqE, oq, hoq, hwq, hqn⟩ := hSw' q hq
          by_cases hqi : q.1 = i
          · have := apart_gen (fun q : Nat × Nat × (Value → World → Prop) => q.1) St hSi q hq (i, s, p) hms hqi
            subst this
            exact ⟨hkeep _ hLs (hnt _ hsE), vs, es1, hp⟩
          · rw [hson, if_neg hqi] at hql
            obtain ⟨hL, u, e1, e2⟩ := hSt q hq hql
            refine ⟨hkeep _ hL (hnt _ hqE), u, e1, ?_⟩
            have hqs : q.2.1 ≠ s := fun e3 => hqi (by
              have := apart_gen (fun q : Nat × Nat × (Value → World → Prop) => q.2.1) St hSn q hq (i, s, p) hms e3
              rw [this])
            obtain ⟨u', e1', _, e3'⟩ := hV q.2.1 hL
            rw [e1] at e1'
            cases e1'
            exact hst3 q hq u w' w2 _ e2 hg (hapart q.2.1 u hL hqO hqs e1) (fun b hb => (e3' hqO b hb).2))
    (by
      intro a' w' hI'
      obtain ⟨hF, hB, hV, hD, hSt⟩ := hI'
      have hliv : ∀ d ∈ ds, d ∉ E.map (·.2) → Liv h E (Array.replicate h.length true) d := fun d hd hn => by
        rw [← hds] at hd
        obtain ⟨o, ho, hd'⟩ := List.mem_filterMap.1 hd
        obtain ⟨i, hi, he⟩ := List.getElem_of_mem ho
        exact ⟨⟨i, o, by rw [List.getElem?_eq_getElem hi, he], by simp [hi], hd'⟩, fun q hq he => absurd (List.mem_map.2 ⟨q, hq, he⟩) hn⟩
      have hsome : ∀ d ∈ ds, ∃ v, a'.tmps[d]? = some v := fun d hd => by
        rw [← hds] at hd
        obtain ⟨o, ho, hd'⟩ := List.mem_filterMap.1 hd
        have := List.all_eq_true.1 hI o ho
        rw [hd'] at this
        exact ⟨_, Array.getElem?_eq_getElem (by rw [hF.size]; simpa using this)⟩
      have hfr := hfin (fun d => (a'.tmps[d]?).getD undef) w' (fun d hd hn => by obtain ⟨v, h1, h2⟩ := hV d (hliv d hd hn); simp only [h1, Option.getD_some]; exact h2)
        (fun d hd d' hd' hn hn' hO hO' hne b hb hb' => by
          obtain ⟨v, h1, _⟩ := hV d (hliv d hd hn)
          obtain ⟨v', h1', _⟩ := hV d' (hliv d' hd' hn')
          simp only [h1, h1', Option.getD_some] at hb hb'
          exact hD d d' (hliv d hd hn) (hliv d' hd' hn') hO hO' hne b (by rw [h1]; exact hb) (by rw [h1']; exact hb'))
        (fun q hq => by
          obtain ⟨_, _, oq, hoq, _⟩ := hSw' q hq
          have hlt := (List.getElem?_eq_some_iff.1 hoq).1
          obtain ⟨_, v, h1, h2⟩ := hSt q hq (by simp [hlt])
          simp only [h1, Option.getD_some]
          exact h2) hB
      have ea : a' = putR a (ds.map fun d => (d, (a'.tmps[d]?).getD undef)) := by
        refine act_eq (Array.ext_getElem? fun d => ?_) (by rw [putR_defers]; exact hF.defers)
        by_cases hdl : d < a.tmps.size
        · rw [putR_get (fun d => (a'.tmps[d]?).getD undef) d ds a hdl]
          by_cases hd : d ∈ ds
          · rw [if_pos hd]
            obtain ⟨v, h1⟩ := hsome d hd
            simp [h1]
          · rw [if_neg hd]
            refine hF.out d fun i o ho hd' => hd ?_
            rw [← hds]
            exact List.mem_filterMap.2 ⟨o, List.mem_of_getElem? ho, hd'⟩
        · rw [Array.getElem?_eq_none (by rw [hF.size]; omega), Array.getElem?_eq_none (by rw [putR_size]; omega)]
      rw [← ea] at hfr
      show wpList P (h ++ l.drop n).toArray Q (l.drop n) a' w'
      rw [e]
      exact hfr)
    h.length (Array.replicate h.length false) a { w with drawn := w.drawn + 1 } (by simp) (by simp [open_])
    (by
      have hno : ∀ k, (Array.replicate h.length false).getD k false = true → False := fun k hk => by
        rw [Array.getD_eq_getD_getElem?, Array.getElem?_replicate] at hk
        split at hk <;> simp at hk
      exact ⟨⟨rfl, rfl, fun _ _ => rfl⟩, hw.drew, fun d hL => (by obtain ⟨⟨i, o, _, hon, _⟩, _⟩ := hL; exact (hno i hon).elim), fun d d' hL => (by obtain ⟨⟨i, o, _, hon, _⟩, _⟩ := hL; exact (hno i hon).elim), fun q _ hql => (hno q.1 hql).elim⟩)
  have h3 := lift_under (Q := Q) hE hG hT (by rw [e]; exact hS) h.length (Array.replicate h.length false) a _ (by simp) (by simp [open_]) (closed_none _) main
  rw [e] at h3
  have e1 : l.toArray.size = h.length + (l.drop n).length := by rw [← List.length_append, e]; simp
  rw [e1, show Array.replicate (h.length + (l.drop n).length) false = Array.replicate h.length false ++ Array.replicate (l.drop n).length false by simp]
  exact h3

theorem region_ownSL {P : Program} {Q : Exit → Act → World → Prop} {id : Nat} {a : Act} {w : World} (W0 : World) (n : Nat) {l : List Oper} (vals : List (Nat × Value)) (L : List (Nat × (Value → World → Prop))) (O : List Nat) (E : List (Nat × Nat)) (St : Stores) (hm : P.follows .mixedOrders = true)
    (hE : edgesIn (l.take n) = true) (hG : guardsIn (l.take n) = true) (hA : dstsApart (l.take n) 0 = true) (hI : dstsIn (l.take n) a.tmps.size = true) (hT : tailUnder (l.take n) (l.drop n) = true)
    (hS : Region.seqB .any l.toArray (l.drop n).length (l.take n).length (Array.replicate (l.take n).length true ++ Array.replicate (l.drop n).length false) = true)
    (hv : (vals.all fun p => (dstsOf (l.take n)).contains p.1) = true) (hsp : ((L.map (·.1)).all fun d => (dstsOf (l.take n)).contains d) = true) (hO : (O.all fun d => (L.map (·.1)).contains d) = true)
    (hEw : (E.all fun q => O.contains q.2 && match (l.take n)[q.1]? with | some o => waitsFor (l.take n) o q.2 | none => false) = true) (hEn : apartB (E.map (·.2)) = true)
    (hSw : (St.all fun q => O.contains q.2.1 && !((E.map (·.2)).contains q.2.1) && match (l.take n)[q.1]? with | some o => waitsFor (l.take n) o q.2.1 && o.dst.isNone | none => false) = true) (hSn : apartB (St.map (·.2.1)) = true) (hSi : apartB (St.map (·.1)) = true)
    (hst1 : ∀ q ∈ L, O.contains q.1 = false → ∀ (v : Value) (w w' : World), q.2 v w → Below W0.heap.size W0 w → Below W0.heap.size w w' → q.2 v w')
    (hst2 : ∀ q ∈ L, O.contains q.1 = true → ∀ (v : Value) (w w' : World) (row : Option Nat), q.2 v w → w.grownBy w' row → (blkOf v = none ∨ blkOf v ≠ row) → (∀ b, blkOf v = some b → b < w.heap.size) → q.2 v w')
    (hst3 : ∀ q ∈ St, ∀ (v : Value) (w w' : World) (row : Option Nat), q.2.2 v w → w.grownBy w' row → (blkOf v = none ∨ blkOf v ≠ row) → (∀ b, blkOf v = some b → b < w.heap.size) → q.2.2 v w') (hw : Below W0.heap.size W0 w)
    (hok : Full (l.take n) a (putR a vals) (specOf L) (L.map (·.1)) → OwnAllS P (l.take n) a W0 (relR (putR a vals) (specOf L)) O E St 0 (l.take n))
    (hfin : ∀ (f : Nat → Value) w', (∀ d p, specOf L d = some p → (E.map (·.2)).contains d = false → p (f d) w' ∧ (O.contains d = true → ∀ b, blkOf (f d) = some b → W0.heap.size ≤ b ∧ b < w'.heap.size)) →
      (∀ d d', O.contains d = true → O.contains d' = true → (E.map (·.2)).contains d = false → (E.map (·.2)).contains d' = false → d ≠ d' → ∀ b, blkOf (f d) = some b → blkOf (f d') ≠ some b) → (∀ q ∈ St, q.2.2 (f q.2.1) w') → Below W0.heap.size W0 w' →
      wpList P l.toArray Q (l.drop n) (putR (putR a vals) ((L.map (·.1)).map fun d => (d, f d))) w') : (Code.region id l.toArray true).wp P Q a w := by
  have hfull : Full (l.take n) a (putR a vals) (specOf L) (L.map (·.1)) := full_put vals hv (specOf_none L)
  have hOL : ∀ d, O.contains d = true → d ∈ L.map (·.1) := fun d hd => List.contains_iff_mem.1 (List.all_eq_true.1 hO d (List.contains_iff_mem.1 hd))
  have hEO : ∀ d, d ∈ E.map (·.2) → d ∈ L.map (·.1) := fun d hd => by
    obtain ⟨q, hq, rfl⟩ := List.mem_map.1 hd
    have := List.all_eq_true.1 hEw q hq
    simp only [Bool.and_eq_true] at this
    exact hOL _ this.1
  have hin : ∀ d, d ∈ L.map (·.1) → d ∈ dstsOf (l.take n) := fun d hd => List.contains_iff_mem.1 (List.all_eq_true.1 hsp d hd)
  have hnc : ∀ d, (E.map (·.2)).contains d = false → d ∉ E.map (·.2) := fun d h hm => by rw [List.contains_iff_mem.2 hm] at h; cases h
  refine region_ownS W0 n (relR (putR a vals) (specOf L)) O E St _ hm hE hG hA hI hT hS hEw hEn hSw hSn hSi rfl ?_ ?_ hst3 hw (hok hfull) ?_
  · intro d v w w' hd h1 h2 h3
    unfold relR at *
    cases hs : specOf L d with
    | none => rw [hs] at h1; exact h1
    | some p =>
      rw [hs] at h1
      obtain ⟨q, hq, rfl, rfl⟩ := specOf_mem' L d p hs
      exact hst1 q hq hd v w w' h1 h2 h3
  · intro d v w w' row hd h1 h2 h3 h4
    unfold relR at *
    cases hs : specOf L d with
    | none => rw [hs] at h1; exact h1
    | some p =>
      rw [hs] at h1
      obtain ⟨q, hq, rfl, rfl⟩ := specOf_mem' L d p hs
      exact hst2 q hq hd v w w' row h1 h2 h3 h4
  · intro f w' hf hD hSq hb
    have e : putR a ((dstsOf (l.take n)).map fun d => (d, f d)) = putR (putR a vals) ((L.map (·.1)).map fun d => (d, f d)) := by
      refine act_eq (Array.ext_getElem? fun d => ?_) (by rw [putR_defers, putR_defers, putR_defers])
      rw [putR_get', putR_get', putR_size]
      by_cases hd : d < a.tmps.size
      · rw [if_pos hd, if_pos hd]
        by_cases h1 : d ∈ dstsOf (l.take n)
        · rw [if_pos h1]
          by_cases h2 : d ∈ L.map (·.1)
          · rw [if_pos h2]
          · rw [if_neg h2]
            have := (hf d h1 (fun h3 => h2 (hEO d h3))).1
            unfold relR at this
            rw [hfull.spec d h2] at this
            exact this.symm
        · rw [if_neg h1, if_neg (fun h2 => h1 (hin d h2))]
          refine (hfull.out d fun i o ho hdo => h1 ?_).symm
          exact List.mem_filterMap.2 ⟨o, List.mem_of_getElem? ho, hdo⟩
      · rw [if_neg hd, if_neg hd]
    rw [e]
    refine hfin f w' (fun d p hp hn => ?_) (fun d d' h1 h2 h3 h4 h5 => hD d (hin d (hOL d h1)) d' (hin d' (hOL d' h2)) (hnc d h3) (hnc d' h4) h1 h2 h5) hSq hb
    by_cases hd : d ∈ L.map (·.1)
    · have := hf d (hin d hd) (hnc d hn)
      unfold relR at this
      rw [hp] at this
      exact this
    · rw [specOf_none L d hd] at hp
      cases hp

/-- A pointer to a block of its own, of so many cells. -/
def PtrSz (t : TypeId) (m : Nat) : Value → World → Prop := fun v w => ∃ g C, v = .pointer (some ⟨g, 0, none⟩) ∧ C.size = m ∧ Blk w g t C
theorem PtrSz.keeps {t : TypeId} {m : Nat} {v : Value} {w w' : World} {row : Option Nat} (h : PtrSz t m v w) (hg : w.grownBy w' row) (hne : blkOf v = none ∨ blkOf v ≠ row) : PtrSz t m v w' := by
  obtain ⟨g, C, rfl, h1, h2⟩ := h
  refine ⟨g, C, rfl, h1, ?_⟩
  rcases hne with hne | hne
  · cases hne
  · exact (hg.block g h2.lt (fun e => hne (by rw [← e]; rfl))).trans h2
section
variable {h : List Oper} {A0 A : Act} {W0 : World} {S : Nat → Option (Value → World → Prop)} {sp O : List Nat} {E : List (Nat × Nat)} {St : Stores} {i : Nat} {o : Oper}
/-- A whole block is written, behind a slot that owns it. -/
theorem ow_storeP (hA : Full h A0 A S sp) (hw : Wants h A0 A S O E W0.heap.size i o) (ty t : TypeId) (s y m : Nat) (C : Array Value) (hd : o.dst = none) (ho : o.op = .store ty (.tmp s) (.tmp y)) (hmem : (i, s, PtrAt t C) ∈ St) (hws : waitsFor h o s = true) (hEs : (E.all fun q => q.2 != s || q.1 == i) = true) (hps : S s = some (PtrSz t m)) (hwy : waitsFor h o y = true) (hsy : sp.contains y = false) (hEy : (E.all fun q => q.2 != y || q.1 == i) = true) (hy : A.tmps[y]? = some (.agg C)) (hsz : C.size = m) (hi : (Tryd.prog.info? ty).map (·.size) = some C.size) (h1 : C.all (·.oneCell') = true) : StoreOk Tryd.prog h A0 W0 (relR A S) O E St i o :=
  ⟨hd, s, _, hmem, fun a w hF hB hgot => ⟨hw a w hF hgot, by
    obtain ⟨h2, h3, _⟩ := gotE_spec hgot _ hws hEs hps
    have ey := gotE_det hA hgot hwy hsy hEy hy
    obtain ⟨g, C0, e1, e2, e3⟩ := h2
    refine wp_store_row ty (.tmp s) (.tmp y) ho g C e1 ey t C0 e3 hi (by rw [e2, hsz]) h1 ?_
    rw [hd]
    refine ⟨rfl, fun v hv => ?_⟩
    rw [h3] at hv
    cases hv
    rw [e1]
    have hb : Blk (w.setRow g C) g t C := setRow_heap _ _ _ _ _ _ e3
    exact ⟨rel_spec _ hps ⟨g, C, rfl, hsz, hb⟩, ⟨g, rfl, hb⟩, ⟨rfl, rfl, rfl, by simp, fun k _ hk => setRow_other _ _ _ _ (fun e => hk (by rw [e]; rfl))⟩⟩⟩⟩
end
end Go.Proofs.YtjkdonjcngmjeaaDoor.sh
/-
  Regions that draw their order, as in SHS, where slices that were there ahead of them are taken over, too.
-/
namespace Go.Proofs.YtjkdonjcngmjeaaDoor.sh
open Go Go.RowKit
set_option linter.unusedVariables false
set_option linter.unusedSimpArgs false

section
variable {P : Program} {h : List Oper} {A0 A : Act} {W0 : World} {S : Nat → Option (Value → World → Prop)} {O : List Nat} {E : List (Nat × Nat)} {G : List Nat} {i : Nat} {o : Oper}
end
end Go.Proofs.YtjkdonjcngmjeaaDoor.sh
