/-
  A region that draws its order and makes one block besides: its first operations only read, or call what makes memory alone; then comes an operation that makes a block, whenever it likes; the last ones wait for all of these.
-/
import Derived.Test.YthnkipicehppmaaDoorSetA
import Derived.Below
namespace Go.Proofs.YthnkipicehppmaaDoor
open Go Go.RowKit
set_option linter.unusedVariables false
set_option linter.unusedSimpArgs false

section
variable {P : Program} {Q : Exit → Act → World → Prop} {h t : List Oper} {al : Oper} {A : Act}

/-- A slot that nobody is to write any more holds at the end what it holds now. -/
theorem final_slot {C : World → Prop} {d : Nat} : ∀ (f : Nat) (listed : Array Bool) (a : Act), wpAnyQ P .any h.toArray C (fun a' => a' = A) f listed a →
    (∀ j o, h[j]? = some o → listed.getD j true = false → o.dst ≠ some d) → A.tmps[d]? = a.tmps[d]?
  | 0, listed, a, H, _ => by rw [← H.2]
  | f + 1, listed, a, H, hd => by
    cases hr : Region.ready .any h.toArray listed with
    | nil => rw [← H.1 hr]
    | cons i rs =>
      have hi : i ∈ Region.ready .any h.toArray listed := by rw [hr]; exact List.mem_cons_self
      obtain ⟨hun, o, ho, _⟩ := mem_ready.1 hi
      have h1 := H.2 i hi
      obtain ⟨v, _, hK⟩ := yieldsIn_of_qOp ho h1
      have ih := final_slot f _ _ hK (fun j o' ho' hl => by
        by_cases hij : i = j
        · subst hij
          have hs : i < listed.size := by
            rcases Nat.lt_or_ge i listed.size with h' | h'
            · exact h'
            · simp [Array.getElem?_eq_none h'] at hun
          simp [hs] at hl
        · rw [getD_set_ne true hij] at hl
          exact hd j o' ho' hl)
      rw [ih]
      have hne := hd i o (by simpa using ho) hun
      cases hq : o.dst with
      | none => simp [Act.put, hq]
      | some d' =>
        have : d' ≠ d := fun e => hne (by rw [hq, e])
        simp [Act.put, hq, Array.getElem?_setIfInBounds_ne this]

def dstsApart (h : List Oper) (n : Nat) : Bool := h.zipIdx.all fun (o, i) => h.zipIdx.all fun (o', j) => decide (i = j) || (match o.dst, o'.dst with | some d, some d' => decide (d ≠ d') | _, _ => true)
def dstsIn (h : List Oper) (n : Nat) : Bool := h.all fun o => match o.dst with | some d => decide (d < n) | none => true

theorem dst_ne (hb : dstsApart h 0 = true) {i j : Nat} {o o' : Oper} (hi : h[i]? = some o) (hj : h[j]? = some o') (hij : i ≠ j) {d : Nat} (hd : o.dst = some d) : o'.dst ≠ some d := by
  have h1 := List.all_eq_true.1 hb (o, i) (by rw [List.mem_zipIdx_iff_getElem?]; exact hi)
  have h2 := List.all_eq_true.1 h1 (o', j) (by rw [List.mem_zipIdx_iff_getElem?]; exact hj)
  intro h3
  simp [hij, hd, h3] at h2

/-- The values that an operation yields under two classes are one: what is in its slot at the end. -/
theorem same_value {C C' : World → Prop} {f i : Nat} {listed : Array Bool} {a : Act} {o : Oper} {v v' : Value} (hA : dstsApart h 0 = true) (hI : dstsIn h a.tmps.size = true) (ho : h[i]? = some o)
    (H : wpAnyQ P .any h.toArray C (fun a' => a' = A) f (listed.setIfInBounds i true) (a.put o.dst v)) (H' : wpAnyQ P .any h.toArray C' (fun a' => a' = A) f (listed.setIfInBounds i true) (a.put o.dst v'))
    (hs : i < listed.size) : a.put o.dst v = a.put o.dst v' := by
  cases hq : o.dst with
  | none => rfl
  | some d =>
    have hnot : ∀ j o', h[j]? = some o' → (listed.setIfInBounds i true).getD j true = false → o'.dst ≠ some d := fun j o' ho' hl => by
      by_cases hij : i = j
      · subst hij; simp [hs] at hl
      · exact dst_ne hA ho ho' hij hq
    have e1 := final_slot _ _ _ H hnot
    have e2 := final_slot _ _ _ H' hnot
    have hd : d < a.tmps.size := by
      have := List.all_eq_true.1 hI o (List.mem_of_getElem? ho)
      rw [hq] at this
      simpa using this
    rw [e1] at e2
    simp [Act.put, hq, hd] at e2
    rw [e2]

/-- What the region makes, seen from the operation: a block behind all others, a pointer to it. -/
def Makes (P : Program) (al : Oper) (o : Obj) : Prop := ∀ (a : Act) (w : World), (execOp a.eval al).run P w = .ok (.value (.pointer (some ⟨w.heap.size, 0, none⟩))) (w.alloc o)

theorem wanted_headF (hg : guardsIn h = true) {o : Oper} (ho : o ∈ h) (r : List Oper) (tmps : Array Value) : Region.wanted o (yielded (h ++ r).toArray tmps) = Region.wanted o (yielded h.toArray tmps) := wanted_head hg ho tmps

/-- An operation of the head, carried out in a world of the class, beside a slot that it does not look at. -/
theorem step_head {W0 w : World} {f i : Nat} {listed : Array Bool} {a : Act} {o : Oper} (da : Option Tmp) (ptr : Value) {r : List Oper} (hG : guardsIn h = true) (hA : dstsApart h 0 = true) (hI : dstsIn h a.tmps.size = true) (hsel : Region.noSelect h.toArray = true)
    (hap : ∀ x ∈ h, ∀ d, da = some d → d ∉ x.looksAt h.toArray ∧ x.dst ≠ some d)
    (HB : ∀ B, Below W0.heap.size W0 B → wpAnyQ P .any h.toArray (fun w' => Below B.heap.size B w') (fun a' => a' = A) (f + 1) listed a) (hw : Below W0.heap.size W0 w)
    (ho : h[i]? = some o) (hr : i ∈ Region.ready .any h.toArray listed) (hs : i < listed.size) {K : Act → World → Prop}
    (hK : ∀ v w', Below w.heap.size w w' → (∀ B, Below W0.heap.size W0 B → wpAnyQ P .any h.toArray (fun w' => Below B.heap.size B w') (fun a' => a' = A) f (listed.setIfInBounds i true) (a.put o.dst v)) → K ((a.put o.dst v).put da ptr) w') :
    if Region.wanted o (yielded (h ++ r).toArray (a.put da ptr).tmps) then o.wp P (a.put da ptr) w K Q ∨ (o.asks P (a.put da ptr) w ∧ LetsOut Q) else K ((a.put da ptr).put o.dst undef) w := by
  have hoh : h.toArray[i]? = some o := by simpa using ho
  have hm : o ∈ h := List.mem_of_getElem? ho
  have h1 := (HB w hw).2 i hr
  obtain ⟨v, hy, hnext⟩ := yieldsIn_of_qOp hoh h1
  have hall : ∀ B, Below W0.heap.size W0 B → wpAnyQ P .any h.toArray (fun w' => Below B.heap.size B w') (fun a' => a' = A) f (listed.setIfInBounds i true) (a.put o.dst v) := by
    intro B hBb
    obtain ⟨v', _, hnext'⟩ := yieldsIn_of_qOp hoh ((HB B hBb).2 i hr)
    rw [same_value hA hI ho hnext hnext' hs]
    exact hnext'
  have hlook : ∀ d, da = some d → d ∉ o.looksAt h.toArray := fun d hd => (hap o hm d hd).1
  rw [wanted_headF hG hm, wanted_put o a da ptr hlook]
  have hcomm : ∀ u, (a.put da ptr).put o.dst u = (a.put o.dst u).put da ptr := fun u => (Act.put_comm a u ptr (fun d hd hd' => (hap o hm d hd').2 hd)).symm
  rcases hy with ⟨hwt, hv⟩ | ⟨hwt, rfl⟩
  · rw [if_pos hwt]
    left
    have h3 := hv w (Below.refl _ _)
    unfold Oper.quietAt at h3
    unfold Oper.wp
    rw [execOp_put (ops := h.toArray) o (fun cs b => Region.noSelect_spec hsel i o cs b hoh) a da ptr hlook]
    generalize (execOp a.eval o).run P w = res at *
    cases res with
    | ok n w' =>
      cases n <;> simp only [Oper.quietUpon] at h3 <;> simp only [Oper.upon]
      case value u =>
        obtain ⟨e1, e2⟩ := h3
        rw [e1, e2, hcomm]
        exact hK v w (Below.refl _ _) hall
      case skip =>
        obtain ⟨e1, e2⟩ := h3
        rw [e1, ← e2, hcomm]
        exact hK v w (Below.refl _ _) hall
      case enter fn args =>
        obtain ⟨e1, hc⟩ := h3
        rw [e1]
        refine hc.mono fun e w'' hh => ?_
        obtain ⟨rfl, hb⟩ := hh
        show K _ _
        rw [hcomm]
        exact hK v w'' hb hall
    | halt x w' => simp only [Oper.quietUpon] at h3
  · rw [if_neg (by rw [hwt]; exact Bool.false_ne_true), hcomm]
    exact hK undef w (Below.refl _ _) hall

theorem size_put (a : Act) (d : Option Tmp) (v : Value) : (a.put d v).tmps.size = a.tmps.size := by
  cases d <;> simp [Act.put]

theorem gdp {listed : Array Bool} {m j : Nat} (b d : Bool) (hj : j < listed.size) : (listed.push b ++ Array.replicate m false).getD j d = listed.getD j d := by
  rw [getD_app d (by simp; omega)]
  have : ¬ j = listed.size := by omega
  simp [Array.getElem?_push, this]
theorem gdn {listed : Array Bool} {m : Nat} (b d : Bool) : (listed.push b ++ Array.replicate m false).getD listed.size d = b := by
  rw [getD_app d (by simp)]
  simp
theorem setp {listed : Array Bool} {m i : Nat} (b : Bool) (hi : i < listed.size) : (listed.push b ++ Array.replicate m false).setIfInBounds i true = (listed.setIfInBounds i true).push b ++ Array.replicate m false := by
  rw [set_app (by simp; omega)]
  congr 1
  apply Array.ext_getElem?
  intro k
  rw [Array.getElem?_setIfInBounds, Array.getElem?_push, Array.getElem?_push, Array.getElem?_setIfInBounds]
  have h1 : (listed.setIfInBounds i true).size = listed.size := by simp
  rw [h1]
  by_cases hik : i = k
  · subst hik
    rw [if_pos rfl, if_pos (by simp; omega), if_neg (by omega), if_pos rfl, if_pos hi]
  · rw [if_neg hik]
    by_cases hk : k = listed.size
    · rw [if_pos hk, if_pos hk]
    · rw [if_neg hk, if_neg hk, if_neg hik]
theorem setn {listed : Array Bool} {m : Nat} : (listed.push false ++ Array.replicate m false).setIfInBounds listed.size true = listed.push true ++ Array.replicate m false := by
  rw [set_app (by simp)]
  congr 1
  apply Array.ext_getElem?
  intro k
  rw [Array.getElem?_setIfInBounds, Array.getElem?_push, Array.getElem?_push]
  by_cases hk : listed.size = k
  · subst hk
    rw [if_pos rfl, if_pos (by simp), if_pos rfl]
  · rw [if_neg hk, if_neg (fun e => hk e.symm), if_neg (fun e => hk e.symm)]

/-- The region's list: the head, what makes the block, the tail. -/
theorem phase2 {W0 : World} {da : Option Tmp} {ptr : Value} {g : Nat} {ob : Obj} (hE : edgesIn h = true) (hG : guardsIn h = true) (hA : dstsApart h 0 = true) (hsel : Region.noSelect h.toArray = true)
    (hap : ∀ x ∈ h, ∀ d, da = some d → d ∉ x.looksAt h.toArray ∧ x.dst ≠ some d) (hT : tailWaits h t = true)
    (hS : Region.seqB .any (h ++ al :: t).toArray t.length (h.length + 1) ((Array.replicate h.length true).push true ++ Array.replicate t.length false) = true)
    (tail : ∀ w, Below W0.heap.size W0 w → w.heap[g]? = some ob → wpList P (h ++ al :: t).toArray Q t (A.put da ptr) w) :
    ∀ (f : Nat) (listed : Array Bool) (a : Act) (w : World), listed.size = h.length → open_ listed = f → dstsIn h a.tmps.size = true →
      (∀ B, Below W0.heap.size W0 B → wpAnyQ P .any h.toArray (fun w' => Below B.heap.size B w') (fun a' => a' = A) f listed a) → Below W0.heap.size W0 w → w.heap[g]? = some ob →
      wpAny P .any (h ++ al :: t).toArray Q (f + t.length) (listed.push true ++ Array.replicate t.length false) (a.put da ptr) w := by
  intro f
  induction f with
  | zero =>
    intro listed a w hs ho hI HB hw hg
    have e := all_true ho
    rw [hs] at e
    have hAa : a = A := (HB w hw).2
    rw [Nat.zero_add, e, hAa]
    exact wpAny_of_seq t (h.length + 1) _ _ w (fun j => by
      rw [List.getElem?_toArray, List.getElem?_append_right (by omega), show h.length + 1 + j - h.length = j + 1 by omega, List.getElem?_cons_succ]) hS (tail w hw hg)
  | succ f ih =>
    intro listed a w hs ho hI HB hw hg
    obtain ⟨i0, hi0, hlow⟩ := least_open (listed := listed) (by omega)
    have hi0s : i0 < listed.size := by
      rcases Nat.lt_or_ge i0 listed.size with h' | h'
      · exact h'
      · simp [Array.getElem?_eq_none h'] at hi0
    have gd : ∀ j d, j < listed.size → (listed.push true ++ Array.replicate t.length false).getD j d = listed.getD j d := fun j d hj => gdp true d hj
    rw [show f + 1 + t.length = (f + t.length) + 1 by omega]
    refine ⟨fun h0 => ?_, fun i hi => ?_⟩
    · have : i0 ∈ Region.ready .any (h ++ al :: t).toArray (listed.push true ++ Array.replicate t.length false) := by
        rw [mem_ready]
        have hih : i0 < h.length := by omega
        refine ⟨by rw [gd _ _ hi0s]; exact hi0, h[i0], by simp [List.getElem?_append_left hih], fun e he hb => ?_⟩
        have := edge_lt hE (List.getElem?_eq_getElem hih) he hb
        rw [gd _ _ (by omega)]
        exact hlow _ this
      rw [h0] at this
      cases this
    · obtain ⟨hun, o, hoo, hall⟩ := mem_ready.1 hi
      have hih : i < h.length := by
        rcases Nat.lt_or_ge i h.length with h' | h'
        · exact h'
        · exfalso
          rcases Nat.lt_or_ge h.length i with h'' | h''
          · have hot : o ∈ t := by
              rw [List.getElem?_toArray, List.getElem?_append_right h', show i - h.length = (i - h.length - 1) + 1 by omega, List.getElem?_cons_succ] at hoo
              exact List.mem_of_getElem? hoo
            have h1 := List.all_eq_true.1 (List.all_eq_true.1 hT o hot) i0 (List.mem_range.2 (by omega))
            obtain ⟨e, he, hbe⟩ := Array.any_eq_true'.1 h1
            simp only [Bool.and_eq_true, beq_iff_eq] at hbe
            have h2 := hall e he hbe.1
            rw [hbe.2, gd _ _ hi0s] at h2
            simp [hi0s] at hi0 h2
            rw [hi0] at h2
            cases h2
          · have : i = h.length := by omega
            subst this
            have hh : (listed.push true ++ Array.replicate t.length false).getD h.length true = true := by rw [← hs]; exact gdn true true
            rw [hh] at hun
            cases hun
      have hoh : h[i]? = some o := by simpa [List.getElem?_append_left hih] using hoo
      have hun' : listed.getD i true = false := by rw [gd _ _ (by omega)] at hun; exact hun
      have hr : i ∈ Region.ready .any h.toArray listed := by
        rw [mem_ready]
        refine ⟨hun', o, by simpa using hoh, fun e he hb => ?_⟩
        have hlt := edge_lt hE hoh he hb
        have := hall e he hb
        rwa [gd _ _ (by omega)] at this
      have hset : (listed.push true ++ Array.replicate t.length false).setIfInBounds i true = (listed.setIfInBounds i true).push true ++ Array.replicate t.length false := setp true (by omega)
      unfold wpOp
      simp only [hoo]
      refine step_head da ptr hG hA hI hsel hap HB hw hoh hr (by omega) ?_
      intro v w' hb hnext
      rw [hset]
      have hgl : g < w.heap.size := by
        rcases Nat.lt_or_ge g w.heap.size with h' | h'
        · exact h'
        · rw [Array.getElem?_eq_none h'] at hg; cases hg
      exact ih _ _ _ (by simpa using hs) (by have := open_set hun'; omega) (by rw [size_put]; exact hI) hnext (hw.trans (hb.mono hw.size)) (by rw [hb.block g hgl]; exact hg)

theorem phase1_step {W0 : World} {da : Option Tmp} {ob : Obj} (hE : edgesIn h = true) (hG : guardsIn h = true) (hA : dstsApart h 0 = true) (hsel : Region.noSelect h.toArray = true)
    (hda : al.dst = da) (hgd : al.guard = none) (hfree : al.after = #[]) (hmk : Makes P al ob)
    (hap : ∀ x ∈ h, ∀ d, da = some d → d ∉ x.looksAt h.toArray ∧ x.dst ≠ some d) (hT : tailWaits (h ++ [al]) t = true)
    (hT' : tailWaits h t = true)
    (hS : Region.seqB .any (h ++ al :: t).toArray t.length (h.length + 1) ((Array.replicate h.length true).push true ++ Array.replicate t.length false) = true)
    (tail : ∀ g w, W0.heap.size ≤ g → Below W0.heap.size W0 w → w.heap[g]? = some ob → wpList P (h ++ al :: t).toArray Q t (A.put da (.pointer (some ⟨g, 0, none⟩))) w)
    (f : Nat) (ih : ∀ (hf : 0 < f) (listed : Array Bool) (a : Act) (w : World), listed.size = h.length → open_ listed = f - 1 → dstsIn h a.tmps.size = true →
      (∀ B, Below W0.heap.size W0 B → wpAnyQ P .any h.toArray (fun w' => Below B.heap.size B w') (fun a' => a' = A) (f - 1) listed a) → Below W0.heap.size W0 w →
      wpAny P .any (h ++ al :: t).toArray Q (f - 1 + t.length + 1) (listed.push false ++ Array.replicate t.length false) a w) :
    ∀ (listed : Array Bool) (a : Act) (w : World), listed.size = h.length → open_ listed = f → dstsIn h a.tmps.size = true →
      (∀ B, Below W0.heap.size W0 B → wpAnyQ P .any h.toArray (fun w' => Below B.heap.size B w') (fun a' => a' = A) f listed a) → Below W0.heap.size W0 w →
      wpAny P .any (h ++ al :: t).toArray Q (f + t.length + 1) (listed.push false ++ Array.replicate t.length false) a w := by
  intro listed a w hs ho hI HB hw
  have hal : (h ++ al :: t).toArray[h.length]? = some al := by
    rw [List.getElem?_toArray, List.getElem?_append_right (Nat.le_refl _), Nat.sub_self]; rfl
  have hgn : (listed.push false ++ Array.replicate t.length false).getD h.length false = false := by rw [← hs]; exact gdn false false
  have hgn' : (listed.push false ++ Array.replicate t.length false).getD h.length true = false := by rw [← hs]; exact gdn false true
  refine ⟨fun h0 => ?_, fun i hi => ?_⟩
  · have : h.length ∈ Region.ready .any (h ++ al :: t).toArray (listed.push false ++ Array.replicate t.length false) := by
      rw [mem_ready]
      exact ⟨hgn', al, hal, fun e he => by rw [hfree] at he; simp at he⟩
    rw [h0] at this
    cases this
  · obtain ⟨hun, o, hoo, hall⟩ := mem_ready.1 hi
    rcases Nat.lt_or_ge i h.length with hih | hge
    · have hoh : h[i]? = some o := by simpa [List.getElem?_append_left hih] using hoo
      have hun' : listed.getD i true = false := by rw [gdp false true (by omega)] at hun; exact hun
      have hpos : 0 < f := by
        have := open_set hun'
        omega
      obtain ⟨k, rfl⟩ : ∃ k, f = k + 1 := ⟨f - 1, by omega⟩
      have hr : i ∈ Region.ready .any h.toArray listed := by
        rw [mem_ready]
        refine ⟨hun', o, by simpa using hoh, fun e he hb => ?_⟩
        have hlt := edge_lt hE hoh he hb
        have := hall e he hb
        rwa [gdp false false (by omega)] at this
      unfold wpOp
      simp only [hoo]
      have hst := step_head (Q := Q) (K := wpAny P .any (h ++ al :: t).toArray Q (k + 1 + t.length) ((listed.push false ++ Array.replicate t.length false).setIfInBounds i true)) none undef (r := al :: t) hG hA hI hsel (fun x _ d hd => by cases hd) HB hw hoh hr (by omega) (fun v w' hb hnext => by
        rw [setp false (by omega)]
        have := ih hpos (listed.setIfInBounds i true) (a.put o.dst v) w' (by simpa using hs) (by have := open_set hun'; omega) (by rw [size_put]; exact hI) hnext (hw.trans (hb.mono hw.size))
        rwa [show k + 1 - 1 + t.length + 1 = k + 1 + t.length by omega] at this)
      exact hst
    · have hin : i = h.length := by
        rcases Nat.lt_or_ge h.length i with h'' | h''
        · exfalso
          have hot : o ∈ t := by
            rw [List.getElem?_toArray, List.getElem?_append_right hge, show i - h.length = (i - h.length - 1) + 1 by omega, List.getElem?_cons_succ] at hoo
            exact List.mem_of_getElem? hoo
          have h1 := List.all_eq_true.1 (List.all_eq_true.1 hT o hot) h.length (List.mem_range.2 (by simp))
          obtain ⟨e, he, hbe⟩ := Array.any_eq_true'.1 h1
          simp only [Bool.and_eq_true, beq_iff_eq] at hbe
          have h2 := hall e he hbe.1
          rw [hbe.2, hgn] at h2
          cases h2
        · omega
      subst hin
      have hoa : o = al := Option.some.inj (hoo.symm.trans hal)
      subst hoa
      unfold wpOp
      simp only [hal]
      have hwt : Region.wanted o (yielded (h ++ o :: t).toArray a.tmps) = true := by unfold Region.wanted; rw [hgd]
      rw [if_pos hwt]
      left
      unfold Oper.wp
      rw [hmk a w]
      show wpAny P .any (h ++ o :: t).toArray Q (f + t.length) _ (a.put o.dst _) (w.alloc ob)
      have e : (listed.push false ++ Array.replicate t.length false).setIfInBounds h.length true = listed.push true ++ Array.replicate t.length false := by rw [← hs]; exact setn
      rw [e, hda]
      exact phase2 hE hG hA hsel hap hT' hS (fun w' hw' hg' => tail w.heap.size w' hw.size hw' hg') f listed a (w.alloc ob) hs ho hI HB (hw.trans ⟨rfl, rfl, rfl, by simp, fun k hk => Below.heap_alloc _ _ _ (by have := hw.size; omega)⟩) (by show (w.heap.push ob)[w.heap.size]? = _; simp)

theorem phase1 {W0 : World} {da : Option Tmp} {ob : Obj} (hE : edgesIn h = true) (hG : guardsIn h = true) (hA : dstsApart h 0 = true) (hsel : Region.noSelect h.toArray = true)
    (hda : al.dst = da) (hgd : al.guard = none) (hfree : al.after = #[]) (hmk : Makes P al ob)
    (hap : ∀ x ∈ h, ∀ d, da = some d → d ∉ x.looksAt h.toArray ∧ x.dst ≠ some d) (hT : tailWaits (h ++ [al]) t = true)
    (hT' : tailWaits h t = true)
    (hS : Region.seqB .any (h ++ al :: t).toArray t.length (h.length + 1) ((Array.replicate h.length true).push true ++ Array.replicate t.length false) = true)
    (tail : ∀ g w, W0.heap.size ≤ g → Below W0.heap.size W0 w → w.heap[g]? = some ob → wpList P (h ++ al :: t).toArray Q t (A.put da (.pointer (some ⟨g, 0, none⟩))) w) :
    ∀ (f : Nat) (listed : Array Bool) (a : Act) (w : World), listed.size = h.length → open_ listed = f → dstsIn h a.tmps.size = true →
      (∀ B, Below W0.heap.size W0 B → wpAnyQ P .any h.toArray (fun w' => Below B.heap.size B w') (fun a' => a' = A) f listed a) → Below W0.heap.size W0 w →
      wpAny P .any (h ++ al :: t).toArray Q (f + t.length + 1) (listed.push false ++ Array.replicate t.length false) a w := by
  intro f
  induction f with
  | zero => exact phase1_step hE hG hA hsel hda hgd hfree hmk hap hT hT' hS tail 0 (fun h0 => by omega)
  | succ f ih => exact phase1_step hE hG hA hsel hda hgd hfree hmk hap hT hT' hS tail (f + 1) (fun _ => ih)

def slotFree (h : List Oper) (al : Oper) : Bool := h.all fun x => match al.dst with | some d => !(x.looksAt h.toArray).contains d && x.dst != some d | none => true

/-- One walk of the head in the order of the text, the block, then the tail, serves every order. The first n operations are the head, the next one makes the block. -/
theorem wp_region_quiet_alloc {id : Nat} {a : Act} {w W0 : World} {ob : Obj} (n : Nat) {l : List Oper} (al : Oper) (hl : l[n]? = some al) (A : Act) (hm : P.follows .mixedOrders = true) (hB : Region.lexB .any (l.take n).toArray = true)
    (hE : edgesIn (l.take n) = true) (hG : guardsIn (l.take n) = true) (hA : dstsApart (l.take n) 0 = true) (hI : dstsIn (l.take n) a.tmps.size = true) (hsl : slotFree (l.take n) al = true) (hgd : al.guard = none) (hfree : al.after = #[]) (hmk : Makes P al ob)
    (hT : tailWaits (l.take n ++ [al]) (l.drop (n + 1)) = true) (hT' : tailWaits (l.take n) (l.drop (n + 1)) = true)
    (hS : Region.seqB .any l.toArray (l.drop (n + 1)).length ((l.take n).length + 1) ((Array.replicate (l.take n).length true).push true ++ Array.replicate (l.drop (n + 1)).length false) = true)
    (hw : Below W0.heap.size W0 w)
    (H : ∀ B, Below W0.heap.size W0 B → wpQuiet P (l.take n).toArray (fun w' => Below B.heap.size B w') (fun a' => a' = A) (l.take n) a)
    (tail : ∀ g w, W0.heap.size ≤ g → Below W0.heap.size W0 w → w.heap[g]? = some ob → wpList P l.toArray Q (l.drop (n + 1)) (A.put al.dst (.pointer (some ⟨g, 0, none⟩))) w) : (Code.region id l.toArray true).wp P Q a w := by
  have hn : n < l.length := (List.getElem?_eq_some_iff.1 hl).1
  have e : l.take n ++ al :: l.drop (n + 1) = l := by
    have e1 : al = l[n] := by rw [List.getElem?_eq_getElem hn] at hl; exact (Option.some.inj hl).symm
    rw [e1, ← List.drop_eq_getElem_cons hn, List.take_append_drop]
  refine wp_region_any hm ?_
  have hB' := hB
  simp only [Region.lexB, Bool.and_eq_true] at hB'
  have HB : ∀ B, Below W0.heap.size W0 B → wpAnyQ P .any (l.take n).toArray (fun w' => Below B.heap.size B w') (fun a' => a' = A) (l.take n).length (Array.replicate (l.take n).length false) a := fun B hb =>
    wpAnyQ_lex (P := P) (md := .any) hB'.1 (l.take n) 0 (Array.replicate (l.take n).length false) a (by simp) (by simpa using hB'.2) (H B hb)
  have hlen : (l.take n).length = n := by simp; omega
  have h3 := phase1 (P := P) (Q := Q) (h := l.take n) (t := l.drop (n + 1)) (al := al) (A := A) (W0 := W0) (ob := ob) hE hG hA hB'.1 rfl hgd hfree hmk (fun x hx d hd => by
    have h1 := List.all_eq_true.1 hsl x hx
    rw [hd] at h1
    simpa using h1) hT hT' (by rw [e]; exact hS) (by rw [e]; exact tail) (l.take n).length (Array.replicate (l.take n).length false) a { w with drawn := w.drawn + 1 } (by simp) (by simp [open_]) hI HB (hw.trans ⟨rfl, rfl, rfl, Nat.le_refl _, fun _ _ => rfl⟩)
  rw [e] at h3
  have e1 : (Array.replicate (l.take n).length false).push false ++ Array.replicate (l.drop (n + 1)).length false = Array.replicate l.toArray.size false := by
    rw [Array.push_eq_append]
    have : (#[false] : Array Bool) = Array.replicate 1 false := rfl
    rw [this, Array.replicate_append_replicate, Array.replicate_append_replicate]
    congr 1
    simp
    omega
  have e2 : (l.take n).length + (l.drop (n + 1)).length + 1 = l.toArray.size := by simp; omega
  rw [e1, e2] at h3
  exact h3

/-- The same, what the head leaves found on the way. -/
theorem wp_region_quiet_made {id : Nat} {a : Act} {w W0 : World} {ob : Obj} (n : Nat) {l : List Oper} (al : Oper) (hl : l[n]? = some al) (hm : P.follows .mixedOrders = true) (hB : Region.lexB .any (l.take n).toArray = true)
    (hE : edgesIn (l.take n) = true) (hG : guardsIn (l.take n) = true) (hA : dstsApart (l.take n) 0 = true) (hI : dstsIn (l.take n) a.tmps.size = true) (hsl : slotFree (l.take n) al = true) (hgd : al.guard = none) (hfree : al.after = #[]) (hmk : Makes P al ob)
    (hT : tailWaits (l.take n ++ [al]) (l.drop (n + 1)) = true) (hT' : tailWaits (l.take n) (l.drop (n + 1)) = true)
    (hS : Region.seqB .any l.toArray (l.drop (n + 1)).length ((l.take n).length + 1) ((Array.replicate (l.take n).length true).push true ++ Array.replicate (l.drop (n + 1)).length false) = true)
    (hw : Below W0.heap.size W0 w)
    (H : ∃ A, (∀ B, Below W0.heap.size W0 B → wpQuiet P (l.take n).toArray (fun w' => Below B.heap.size B w') (fun a' => a' = A) (l.take n) a) ∧
      (∀ g w, W0.heap.size ≤ g → Below W0.heap.size W0 w → w.heap[g]? = some ob → wpList P l.toArray Q (l.drop (n + 1)) (A.put al.dst (.pointer (some ⟨g, 0, none⟩))) w)) : (Code.region id l.toArray true).wp P Q a w := by
  obtain ⟨A, h1, h2⟩ := H
  exact wp_region_quiet_alloc n al hl A hm hB hE hG hA hI hsl hgd hfree hmk hT hT' hS hw h1 h2
end
end Go.Proofs.YthnkipicehppmaaDoor
