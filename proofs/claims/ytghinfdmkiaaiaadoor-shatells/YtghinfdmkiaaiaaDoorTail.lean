/-
  A region that draws its order, whose first operations only read, or call what makes memory alone, and whose last ones each wait for all of those: one walk, in the order of the text, serves every order. Conditions: the Bools that are named in it.
-/
import Derived.Deep.Quiet
import Derived.StillTail
import Derived.Tactics
namespace Go.Proofs.YtghinfdmkiaaiaaDoor
open Go
set_option linter.unusedVariables false
set_option linter.unusedSimpArgs false

/-- The post of the head: behind it the tail is walked. -/
def headPost (P : Program) (F : Array Oper) (Q : Exit → Act → World → Prop) (t : List Oper) : Exit → Act → World → Prop
  | .normal, a, w => wpList P F Q t a w
  | e, a, w => Q e a w

theorem upon_headPost {P : Program} {F : Array Oper} {Q : Exit → Act → World → Prop} {t : List Oper} {o : Oper} {a : Act} {w : World} {K K' : Act → World → Prop} (hK : ∀ a w, K a w → K' a w)
    (h : o.wp P a w K (headPost P F Q t)) : o.wp P a w K' Q := by
  unfold Oper.wp at *
  generalize (execOp a.eval o).run P w = r at *
  cases r with
  | ok x w' =>
    cases x with
    | value v => exact hK _ _ h
    | skip => exact hK _ _ h
    | defer d => exact hK _ _ h
    | enter f args =>
      refine Calls.mono h ?_
      intro e w'' hr
      cases e with
      | returned v => exact hK _ _ hr
      | panicked c => exact hr
      | outgrown => exact hr
    | row r args => exact Rows.mono h fun v w'' hr => hK _ _ hr
    | _ => exact h
  | halt x w' =>
    cases x <;> exact h

def edgesIn (h : List Oper) : Bool := h.zipIdx.all fun (o, i) => o.after.all fun e => !Region.binds .any e || decide (e.on < i)
def guardsIn (h : List Oper) : Bool := h.all fun o => match o.guard with | none => true | some (j, _) => decide (j < h.length)
def tailWaits (h t : List Oper) : Bool := t.all fun o => (List.range h.length).all fun j => o.after.any fun e => Region.binds .any e && e.on == j

section
variable {P : Program} {Q : Exit → Act → World → Prop} {h t : List Oper}

theorem edge_lt (hb : edgesIn h = true) {i : Nat} {o : Oper} (ho : h[i]? = some o) {e : Edge} (he : e ∈ o.after) (hbind : Region.binds .any e = true) : e.on < i := by
  have hm : (o, i) ∈ h.zipIdx := by rw [List.mem_zipIdx_iff_getElem?]; exact ho
  have h1 := List.all_eq_true.1 hb _ hm
  have h2 := Array.all_eq_true_iff_forall_mem.1 h1 e he
  simpa [hbind] using h2

theorem wanted_head (hg : guardsIn h = true) {o : Oper} (ho : o ∈ h) (tmps : Array Value) : Region.wanted o (yielded (h ++ t).toArray tmps) = Region.wanted o (yielded h.toArray tmps) := by
  have h1 := List.all_eq_true.1 hg _ ho
  unfold Region.wanted
  cases hq : o.guard with
  | none => rfl
  | some jb =>
    obtain ⟨j, b⟩ := jb
    rw [hq] at h1
    have hj : j < h.length := by simpa using h1
    have e : (h ++ t).toArray[j]? = h.toArray[j]? := by simp [List.getElem?_append_left hj]
    simp only [yielded, e]

theorem getD_app {listed : Array Bool} {m j : Nat} (d : Bool) (hj : j < listed.size) : (listed ++ Array.replicate m false).getD j d = listed.getD j d := by
  simp [Array.getElem?_append_left hj]

theorem set_app {listed : Array Bool} {m i : Nat} (hi : i < listed.size) : (listed ++ Array.replicate m false).setIfInBounds i true = listed.setIfInBounds i true ++ Array.replicate m false := by
  apply Array.ext_getElem?
  intro k
  by_cases hk : k < listed.size
  · have e1 : (listed ++ Array.replicate m false)[k]? = listed[k]? := Array.getElem?_append_left hk
    have e2 : (listed.setIfInBounds i true ++ Array.replicate m false)[k]? = (listed.setIfInBounds i true)[k]? := Array.getElem?_append_left (by simpa using hk)
    rw [e2, Array.getElem?_setIfInBounds, Array.getElem?_setIfInBounds, e1]
    by_cases hik : i = k
    · subst hik
      rw [if_pos rfl, if_pos rfl, if_pos hk, if_pos (by simp; omega)]
    · rw [if_neg hik, if_neg hik]
  · have e1 : (listed ++ Array.replicate m false)[k]? = (Array.replicate m false)[k - listed.size]? := Array.getElem?_append_right (by omega)
    have e2 : (listed.setIfInBounds i true ++ Array.replicate m false)[k]? = (Array.replicate m false)[k - listed.size]? := by
      rw [Array.getElem?_append_right (by simp; omega)]
      simp
    rw [e2, Array.getElem?_setIfInBounds, if_neg (by omega), e1]

/-- How many are not listed yet. -/
def open_ (listed : Array Bool) : Nat := listed.toList.count false

theorem all_true {listed : Array Bool} (h0 : open_ listed = 0) : listed = Array.replicate listed.size true := by
  apply Array.ext_getElem?
  intro k
  by_cases hk : k < listed.size
  · rw [Array.getElem?_eq_getElem hk, Array.getElem?_replicate, if_pos hk]
    have : ∀ b ∈ listed.toList, b ≠ false := by
      intro b hb hf
      subst hf
      have := List.count_pos_iff.2 hb
      unfold open_ at h0
      omega
    have h1 := this listed[k] (by simp)
    cases hq : listed[k] with
    | true => rfl
    | false => exact absurd hq h1
  · rw [Array.getElem?_eq_none (by omega), Array.getElem?_replicate, if_neg hk]

theorem open_set {listed : Array Bool} {i : Nat} (hi : listed.getD i true = false) : open_ (listed.setIfInBounds i true) + 1 = open_ listed := by
  have hlt : i < listed.size := by
    rcases Nat.lt_or_ge i listed.size with h' | h'
    · exact h'
    · simp [Array.getElem?_eq_none h'] at hi
  have hv : listed.toList[i]'(by simpa using hlt) = false := by simpa [hlt] using hi
  unfold open_
  rw [Array.toList_setIfInBounds]
  have hc := List.count_set (a := true) (b := false) (l := listed.toList) (i := i) (by simpa using hlt)
  have hp : 0 < listed.toList.count false := List.count_pos_iff.2 (by rw [← hv]; exact List.getElem_mem _)
  rw [hc, if_pos (by rw [hv]; rfl), if_neg (by decide)]
  omega

theorem exists_first {p : Nat → Prop} (hp : ∃ n, p n) : ∃ n, p n ∧ ∀ m, m < n → ¬ p m := by
  obtain ⟨n, hn⟩ := hp
  induction n using Nat.strongRecOn with
  | _ n ih =>
    by_cases hm : ∃ m, m < n ∧ p m
    · obtain ⟨m, hlt, hpm⟩ := hm
      exact ih m hlt hpm
    · exact ⟨n, hn, fun m hlt hpm => hm ⟨m, hlt, hpm⟩⟩

/-- The first one that is not listed. -/
theorem least_open {listed : Array Bool} (h0 : open_ listed ≠ 0) : ∃ i, listed.getD i true = false ∧ ∀ j, j < i → listed.getD j false = true := by
  have : ∃ i, listed.getD i true = false := by
    have hp : 0 < listed.toList.count false := by unfold open_ at h0; omega
    obtain ⟨i, hi, hv⟩ := List.getElem_of_mem (List.count_pos_iff.1 hp)
    exact ⟨i, by simp at hi; simpa [hi] using hv⟩
  obtain ⟨i, hi, hmin⟩ := exists_first this
  refine ⟨i, hi, fun j hj => ?_⟩
  have hne := hmin j hj
  have hlt : i < listed.size := by
    rcases Nat.lt_or_ge i listed.size with h' | h'
    · exact h'
    · simp [Array.getElem?_eq_none h'] at hi
  have hjl : j < listed.size := by omega
  simp [hjl] at hne ⊢
  exact hne

theorem lift_any (hE : edgesIn h = true) (hG : guardsIn h = true) (hT : tailWaits h t = true)
    (hS : Region.seqB .any (h ++ t).toArray t.length h.length (Array.replicate h.length true ++ Array.replicate t.length false) = true) :
    ∀ (f : Nat) (listed : Array Bool) (a : Act) (w : World), listed.size = h.length → open_ listed = f →
      wpAny P .any h.toArray (headPost P (h ++ t).toArray Q t) f listed a w → wpAny P .any (h ++ t).toArray Q (f + t.length) (listed ++ Array.replicate t.length false) a w := by
  intro f
  induction f with
  | zero =>
    intro listed a w hs ho H
    have e := all_true ho
    rw [hs] at e
    rw [Nat.zero_add, e]
    exact wpAny_of_seq t h.length _ a w (fun j => by rw [List.getElem?_toArray, List.getElem?_append_right (by omega), Nat.add_sub_cancel_left]) hS H.2
  | succ f ih =>
    intro listed a w hs ho H
    obtain ⟨i0, hi0, hlow⟩ := least_open (listed := listed) (by omega)
    have hi0s : i0 < listed.size := by
      rcases Nat.lt_or_ge i0 listed.size with h' | h'
      · exact h'
      · simp [Array.getElem?_eq_none h'] at hi0
    rw [show f + 1 + t.length = (f + t.length) + 1 by omega]
    refine ⟨fun h0 => ?_, fun i hi => ?_⟩
    · have : i0 ∈ Region.ready .any (h ++ t).toArray (listed ++ Array.replicate t.length false) := by
        rw [mem_ready]
        have hih : i0 < h.length := by omega
        refine ⟨by rw [getD_app true hi0s]; exact hi0, h[i0], by simp [List.getElem?_append_left hih], fun e he hb => ?_⟩
        have := edge_lt hE (List.getElem?_eq_getElem hih) he hb
        rw [getD_app false (by omega)]
        exact hlow _ this
      rw [h0] at this
      cases this
    · obtain ⟨hun, o, hoo, hall⟩ := mem_ready.1 hi
      have hih : i < h.length := by
        rcases Nat.lt_or_ge i h.length with h' | h'
        · exact h'
        · exfalso
          have hot : o ∈ t := by
            simp [List.getElem?_append_right h'] at hoo
            exact List.mem_of_getElem? hoo
          have h1 := List.all_eq_true.1 (List.all_eq_true.1 hT o hot) i0 (List.mem_range.2 (by omega))
          obtain ⟨e, he, hbe⟩ := Array.any_eq_true'.1 h1
          simp only [Bool.and_eq_true, beq_iff_eq] at hbe
          have h2 := hall e he hbe.1
          rw [hbe.2, getD_app false hi0s] at h2
          simp [hi0s] at hi0 h2
          rw [hi0] at h2
          cases h2
      have hoh : h[i]? = some o := by simpa [List.getElem?_append_left hih] using hoo
      have hun' : listed.getD i true = false := by rw [getD_app true (by omega)] at hun; exact hun
      have hr : i ∈ Region.ready .any h.toArray listed := by
        rw [mem_ready]
        refine ⟨hun', o, by simpa using hoh, fun e he hb => ?_⟩
        have hlt := edge_lt hE hoh he hb
        have := hall e he hb
        rwa [getD_app false (by omega)] at this
      have H1 := H.2 i hr
      have hK : ∀ a' w', wpAny P .any h.toArray (headPost P (h ++ t).toArray Q t) f (listed.setIfInBounds i true) a' w' → wpAny P .any (h ++ t).toArray Q (f + t.length) ((listed ++ Array.replicate t.length false).setIfInBounds i true) a' w' := by
        intro a' w' hh
        rw [set_app (by omega)]
        exact ih _ a' w' (by simpa using hs) (by have := open_set hun'; omega) hh
      unfold wpOp at H1 ⊢
      have ho' : h.toArray[i]? = some o := by simpa using hoh
      simp only [hoo, ho'] at H1 ⊢
      rw [wanted_head hG (List.mem_of_getElem? hoh)]
      split
      · rename_i hw
        simp only [hw, if_true] at H1
        rcases H1 with H1 | ⟨h1, h2⟩
        · exact .inl (upon_headPost hK H1)
        · exact .inr ⟨h1, h2⟩
      · rename_i hw
        simp only [hw] at H1
        exact hK _ _ H1

/-- One walk of the head in the order of the text, then the tail, serves every order. -/
theorem wp_region_quiet_tail {id : Nat} {C : World → Prop} {a : Act} {w : World} (h t : List Oper) (hm : P.follows .mixedOrders = true) (hB : Region.lexB .any h.toArray = true)
    (hE : edgesIn h = true) (hG : guardsIn h = true) (hT : tailWaits h t = true)
    (hS : Region.seqB .any (h ++ t).toArray t.length h.length (Array.replicate h.length true ++ Array.replicate t.length false) = true)
    (hC : C { w with drawn := w.drawn + 1 })
    (H : wpQuiet P h.toArray C (fun a' => ∀ w', C w' → wpList P (h ++ t).toArray Q t a' w') h a) : (Code.region id (h ++ t).toArray true).wp P Q a w := by
  refine wp_region_any hm ?_
  simp only [Region.lexB, Bool.and_eq_true] at hB
  have h1 := wpAnyQ_lex (P := P) (C := C) (md := .any) hB.1 h 0 (Array.replicate h.length false) a (by simp) (by simpa using hB.2) H
  have h2 := wpAny_of_quiet (Q' := headPost P (h ++ t).toArray Q t) (fun _ w' hw' hh => hh w' hw') _ _ _ _ hC h1
  have h3 := lift_any (Q := Q) hE hG hT hS h.length (Array.replicate h.length false) a _ (by simp) (by simp [open_]) h2
  have e1 : (h ++ t).toArray.size = h.length + t.length := by simp
  rw [e1, show Array.replicate (h.length + t.length) false = Array.replicate h.length false ++ Array.replicate t.length false by simp]
  exact h3

/-- The same for a region that is written out, its first n operations the head. -/
theorem wp_region_quiet_cut {id : Nat} {C : World → Prop} {a : Act} {w : World} (n : Nat) {l : List Oper} (hm : P.follows .mixedOrders = true) (hB : Region.lexB .any (l.take n).toArray = true)
    (hE : edgesIn (l.take n) = true) (hG : guardsIn (l.take n) = true) (hT : tailWaits (l.take n) (l.drop n) = true)
    (hS : Region.seqB .any l.toArray (l.drop n).length (l.take n).length (Array.replicate (l.take n).length true ++ Array.replicate (l.drop n).length false) = true)
    (hC : C { w with drawn := w.drawn + 1 })
    (H : wpQuiet P (l.take n).toArray C (fun a' => ∀ w', C w' → wpList P l.toArray Q (l.drop n) a' w') (l.take n) a) : (Code.region id l.toArray true).wp P Q a w := by
  have e : l.take n ++ l.drop n = l := List.take_append_drop n l
  have := wp_region_quiet_tail (id := id) (C := C) (Q := Q) (P := P) (a := a) (w := w) (l.take n) (l.drop n) hm hB hE hG hT (by rw [e]; exact hS) hC (by rw [e]; exact H)
  rwa [e] at this
end
end Go.Proofs.YtghinfdmkiaaiaaDoor
