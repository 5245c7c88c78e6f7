/-
  A region that draws its order: its first operations only read, or call what makes memory alone; then come such as wait, one through another, for all of these, and are forced among themselves; the last one (a constant is moved) waits for nothing and nobody waits for it.
-/
import Derived.Test.YthnkipicehppmaaDoorAlloc
namespace Go.Proofs.YthnkipicehppmaaDoor
open Go Go.RowKit
set_option linter.unusedVariables false
set_option linter.unusedSimpArgs false

section
variable {P : Program} {Q : Exit → Act → World → Prop} {l h t : List Oper} {m : Oper} {v : Value}

/-- The post without the free operation: a normal end alone, its slot filled. -/
def freePost (Q : Exit → Act → World → Prop) (d : Option Tmp) (v : Value) : Exit → Act → World → Prop
  | .normal, a, w => Q .normal (a.put d v) w
  | _, _, _ => False

theorem free_noOut {d : Option Tmp} : ¬ LetsOut (freePost Q d v) := fun ⟨_, _, h⟩ => h

theorem free_step {da md : Option Tmp} {u : Value} {K K' : Act → World → Prop} {i : Nat} {o : Oper} {a : Act} {w : World} (r : List Oper) (hG : guardsIn l = true) (hsel : Region.noSelect l.toArray = true)
    (hap : ∀ d, da = some d → d ∉ o.looksAt l.toArray ∧ o.dst ≠ some d) (ho : l[i]? = some o) (hK : ∀ a' w', K' a' w' → K (a'.put da u) w')
    (H : wpOp P l.toArray (freePost Q md v) i K' a w) : wpOp P (l ++ r).toArray Q i K (a.put da u) w := by
  have hil : i < l.length := (List.getElem?_eq_some_iff.1 ho).1
  have ho1 : l.toArray[i]? = some o := by simpa using ho
  have ho2 : (l ++ r).toArray[i]? = some o := by rw [List.getElem?_toArray, List.getElem?_append_left hil]; exact ho
  have hlook : ∀ d, da = some d → d ∉ o.looksAt l.toArray := fun d hd => (hap d hd).1
  have hcomm : ∀ (a : Act) x, (a.put da u).put o.dst x = (a.put o.dst x).put da u := fun a x => (Act.put_comm a x u (fun d hd hd' => (hap d hd').2 hd)).symm
  unfold wpOp at H ⊢
  simp only [ho1, ho2] at H ⊢
  rw [wanted_head hG (List.mem_of_getElem? ho), wanted_put o a da u hlook]
  split
  · rename_i hw
    simp only [hw, if_true] at H
    rcases H with H | ⟨_, h2⟩
    · left
      unfold Oper.wp at H ⊢
      rw [execOp_put (ops := l.toArray) o (fun cs b => Region.noSelect_spec hsel i o cs b ho1) a da u hlook]
      generalize (execOp a.eval o).run P w = res at *
      cases res with
      | ok n w' =>
        cases n with
        | value x => show K _ _; rw [hcomm]; exact hK _ _ H
        | skip => show K _ _; rw [hcomm]; exact hK _ _ H
        | defer d =>
          show K _ _
          have e : ({ a.put da u with defers := d :: (a.put da u).defers } : Act) = ({ a with defers := d :: a.defers } : Act).put da u := by cases da <;> rfl
          rw [e, hcomm]
          exact hK _ _ H
        | enter f args =>
          refine Calls.mono H ?_
          intro e w'' hr
          cases e with
          | returned x => show K _ _; rw [hcomm]; exact hK _ _ hr
          | panicked c => exact hr.elim
          | outgrown => exact (free_noOut hr).elim
        | row r args => exact Rows.mono H fun x w'' hr => by rw [hcomm]; exact hK _ _ hr
        | _ => exact H
      | halt x w' =>
        cases x <;> exact H.elim
    · exact (free_noOut h2).elim
  · rename_i hw
    simp only [hw] at H
    rw [hcomm]
    exact hK _ _ H

theorem gp {listed : Array Bool} {j : Nat} (b d : Bool) (hj : j < listed.size) : (listed.push b).getD j d = listed.getD j d := by
  have := gdp (m := 0) (listed := listed) b d hj
  simpa using this
theorem gn {listed : Array Bool} (b d : Bool) : (listed.push b).getD listed.size d = b := by
  simp
theorem sp {listed : Array Bool} {i : Nat} (b : Bool) (hi : i < listed.size) : (listed.push b).setIfInBounds i true = (listed.setIfInBounds i true).push b := by
  have := setp (m := 0) (listed := listed) b hi
  simpa using this
theorem sn {listed : Array Bool} : (listed.push false).setIfInBounds listed.size true = listed.push true := by
  have := setn (m := 0) (listed := listed)
  simpa using this

theorem ready_in {listed : Array Bool} {b : Bool} {i : Nat} (hE : edgesIn l = true) (hs : listed.size = l.length) (hil : i < l.length) :
    i ∈ Region.ready .any (l ++ [m]).toArray (listed.push b) ↔ i ∈ Region.ready .any l.toArray listed := by
  rw [mem_ready, mem_ready]
  have e : (l ++ [m]).toArray[i]? = l.toArray[i]? := by simp [List.getElem?_append_left hil]
  rw [e, gp b true (by omega)]
  refine and_congr_right fun _ => exists_congr fun o => and_congr_right fun ho => forall_congr' fun e => forall_congr' fun he => forall_congr' fun hb => ?_
  have := edge_lt hE (by simpa using ho) he hb
  rw [gp b false (by omega)]

theorem ready_lt {listed : Array Bool} {ops : Array Oper} {i : Nat} (h : i ∈ Region.ready .any ops listed) : i < ops.size := by
  obtain ⟨_, o, ho, _⟩ := mem_ready.1 h
  exact (Array.getElem?_eq_some_iff.1 ho).1

theorem free2 (hE : edgesIn l = true) (hG : guardsIn l = true) (hsel : Region.noSelect l.toArray = true) (hap : ∀ x ∈ l, ∀ d, m.dst = some d → d ∉ x.looksAt l.toArray ∧ x.dst ≠ some d) :
    ∀ (f : Nat) (listed : Array Bool) (a : Act) (w : World), listed.size = l.length → wpAny P .any l.toArray (freePost Q m.dst v) f listed a w →
      wpAny P .any (l ++ [m]).toArray Q f (listed.push true) (a.put m.dst v) w := by
  intro f
  have hr : ∀ (listed : Array Bool) i, listed.size = l.length → i ∈ Region.ready .any (l ++ [m]).toArray (listed.push true) → i < l.length ∧ i ∈ Region.ready .any l.toArray listed := by
    intro listed i hs hi
    have h1 := ready_lt hi
    have hil : i < l.length := by
      rcases Nat.lt_or_ge i l.length with h' | h'
      · exact h'
      · have : i = listed.size := by simp at h1; omega
        have h2 := (mem_ready.1 hi).1
        rw [this, gn] at h2
        cases h2
    exact ⟨hil, (ready_in hE hs hil).1 hi⟩
  induction f with
  | zero =>
    intro listed a w hs H
    refine ⟨?_, H.2⟩
    cases hq : Region.ready .any (l ++ [m]).toArray (listed.push true) with
    | nil => rfl
    | cons i rs =>
      have := (hr listed i hs (by rw [hq]; exact List.mem_cons_self)).2
      rw [H.1] at this
      cases this
  | succ f ih =>
    intro listed a w hs H
    refine ⟨fun h0 => H.1 ?_, fun i hi => ?_⟩
    · cases hq : Region.ready .any l.toArray listed with
      | nil => rfl
      | cons i rs =>
        have h1 : i ∈ Region.ready .any l.toArray listed := by rw [hq]; exact List.mem_cons_self
        have h2 := (ready_in (m := m) (b := true) hE hs (by simpa using ready_lt h1)).2 h1
        rw [h0] at h2
        cases h2
    · obtain ⟨hil, hi'⟩ := hr listed i hs hi
      refine free_step [m] hG hsel (hap l[i] (List.getElem_mem _)) (List.getElem?_eq_getElem hil) ?_ (H.2 i hi')
      intro a' w' hh
      rw [sp true (by omega)]
      exact ih _ a' w' (by simpa using hs) hh

theorem free1 (hE : edgesIn l = true) (hG : guardsIn l = true) (hsel : Region.noSelect l.toArray = true) (hap : ∀ x ∈ l, ∀ d, m.dst = some d → d ∉ x.looksAt l.toArray ∧ x.dst ≠ some d)
    (hgd : m.guard = none) (hfree : m.after = #[]) (hmk : ∀ (a : Act) (w : World), (execOp a.eval m).run P w = .ok (.value v) w) :
    ∀ (f : Nat) (listed : Array Bool) (a : Act) (w : World), listed.size = l.length → wpAny P .any l.toArray (freePost Q m.dst v) f listed a w →
      wpAny P .any (l ++ [m]).toArray Q (f + 1) (listed.push false) a w := by
  have key : ∀ (f : Nat), (∀ (g : Nat), f = g + 1 → ∀ (listed : Array Bool) (a : Act) (w : World), listed.size = l.length → wpAny P .any l.toArray (freePost Q m.dst v) g listed a w → wpAny P .any (l ++ [m]).toArray Q (g + 1) (listed.push false) a w) →
      ∀ (listed : Array Bool) (a : Act) (w : World), listed.size = l.length → wpAny P .any l.toArray (freePost Q m.dst v) f listed a w → wpAny P .any (l ++ [m]).toArray Q (f + 1) (listed.push false) a w := by
    intro f ih listed a w hs H
    have hm : (l ++ [m]).toArray[l.length]? = some m := by simp
    refine ⟨fun h0 => ?_, fun i hi => ?_⟩
    · have : l.length ∈ Region.ready .any (l ++ [m]).toArray (listed.push false) := by
        rw [mem_ready]
        exact ⟨by rw [← hs]; exact gn false true, m, hm, fun e he => by rw [hfree] at he; simp at he⟩
      rw [h0] at this
      cases this
    · rcases Nat.lt_or_ge i l.length with hil | hge
      · have hi' := (ready_in hE hs hil).1 hi
        cases f with
        | zero => rw [H.1] at hi'; cases hi'
        | succ g =>
          have := free_step (Q := Q) (da := none) (u := undef) (K := wpAny P .any (l ++ [m]).toArray Q (g + 1) ((listed.push false).setIfInBounds i true)) [m] hG hsel (fun d hd => by cases hd) (List.getElem?_eq_getElem hil) (fun a' w' hh => by
            rw [sp false (by omega)]
            exact ih g rfl _ a' w' (by simpa using hs) hh) (H.2 i hi')
          exact this
      · have hin : i = l.length := by have := ready_lt hi; simp at this; omega
        subst hin
        unfold wpOp
        simp only [hm]
        have hwt : Region.wanted m (yielded (l ++ [m]).toArray a.tmps) = true := by unfold Region.wanted; rw [hgd]
        rw [if_pos hwt]
        left
        unfold Oper.wp
        rw [hmk a w]
        show wpAny P .any (l ++ [m]).toArray Q f ((listed.push false).setIfInBounds l.length true) (a.put m.dst v) w
        rw [← hs, sn]
        exact free2 hE hG hsel hap f listed a w hs H
  intro f
  induction f with
  | zero => exact key 0 (fun g hg => by omega)
  | succ f ih => exact key (f + 1) (fun g hg => by obtain rfl : f = g := by omega
                                                   exact ih)

/-- What the named ones wait for, one through another. -/
def under (h : List Oper) : Nat → List Nat → List Nat
  | 0, s => s
  | f + 1, s => s ++ under h f (s.flatMap fun i => match h[i]? with | some o => (o.after.toList.filter (Region.binds .any)).map (·.on) | none => [])

def Closed (h : List Oper) (listed : Array Bool) : Prop := ∀ i o, h[i]? = some o → listed.getD i false = true → ∀ e ∈ o.after, Region.binds .any e = true → listed.getD e.on false = true

theorem under_listed {listed : Array Bool} (hc : Closed h listed) : ∀ (f : Nat) (s : List Nat), (∀ j ∈ s, listed.getD j false = true) → ∀ j ∈ under h f s, listed.getD j false = true
  | 0, s, hs, j, hj => hs j hj
  | f + 1, s, hs, j, hj => by
    rcases List.mem_append.1 hj with h1 | h1
    · exact hs j h1
    · refine under_listed hc f _ ?_ j h1
      intro k hk
      obtain ⟨i, hi, hk'⟩ := List.mem_flatMap.1 hk
      cases ho : h[i]? with
      | none => simp [ho] at hk'
      | some o =>
        simp only [ho] at hk'
        obtain ⟨e, he, rfl⟩ := List.mem_map.1 hk'
        obtain ⟨he1, he2⟩ := List.mem_filter.1 he
        exact hc i o ho (hs i hi) e (by simpa using he1) he2

theorem closed_set {listed : Array Bool} {i : Nat} {o : Oper} (hc : Closed h listed) (ho : h[i]? = some o) (hall : ∀ e ∈ o.after, Region.binds .any e = true → listed.getD e.on false = true) : Closed h (listed.setIfInBounds i true) := by
  intro j o' ho' hl e he hb
  by_cases hij : i = j
  · subst hij
    rw [ho] at ho'
    obtain rfl := Option.some.inj ho'
    exact getD_set_true (hall e he hb)
  · rw [getD_set_ne false hij] at hl
    exact getD_set_true (hc j o' ho' hl e he hb)

/-- Each of the tail waits for another of the tail, or, one through another, for all of the head. -/
def tailUnder (h t : List Oper) : Bool := t.all fun o => (o.after.any fun e => Region.binds .any e && decide (h.length ≤ e.on)) ||
  (List.range h.length).all fun j => (under h h.length ((o.after.toList.filter (Region.binds .any)).map (·.on))).contains j

theorem app_ge {listed : Array Bool} {n j : Nat} (hj : listed.size ≤ j) : (listed ++ Array.replicate n false).getD j false = false := by
  rw [Array.getD_eq_getD_getElem?, Array.getElem?_append_right hj, Array.getElem?_replicate]
  split <;> rfl

theorem lift_under (hE : edgesIn h = true) (hG : guardsIn h = true) (hT : tailUnder h t = true)
    (hS : Region.seqB .any (h ++ t).toArray t.length h.length (Array.replicate h.length true ++ Array.replicate t.length false) = true) :
    ∀ (f : Nat) (listed : Array Bool) (a : Act) (w : World), listed.size = h.length → open_ listed = f → Closed h listed →
      wpAny P .any h.toArray (headPost P (h ++ t).toArray Q t) f listed a w → wpAny P .any (h ++ t).toArray Q (f + t.length) (listed ++ Array.replicate t.length false) a w := by
  intro f
  induction f with
  | zero =>
    intro listed a w hs ho hc H
    have e := all_true ho
    rw [hs] at e
    rw [Nat.zero_add, e]
    exact wpAny_of_seq t h.length _ a w (fun j => by rw [List.getElem?_toArray, List.getElem?_append_right (by omega), Nat.add_sub_cancel_left]) hS H.2
  | succ f ih =>
    intro listed a w hs ho hc H
    obtain ⟨i0, hi0, hlow⟩ := least_open (listed := listed) (by omega)
    have hi0s : i0 < listed.size := by
      rcases Nat.lt_or_ge i0 listed.size with h' | h'
      · exact h'
      · simp [Array.getElem?_eq_none h'] at hi0
    rw [show f + 1 + t.length = (f + t.length) + 1 by omega]
    refine ⟨fun h0 => ?_, fun i hi => ?_⟩
    · have : i0 ∈ Region.ready .any (h ++ t).toArray (listed ++ Array.replicate t.length false) := by
        rw [mem_ready]
        have hih : i0 < h.length := by omega
        refine ⟨by rw [getD_app true hi0s]; exact hi0, h[i0], by simp [List.getElem?_append_left hih], fun e he hb => ?_⟩
        have := edge_lt hE (List.getElem?_eq_getElem hih) he hb
        rw [getD_app false (by omega)]
        exact hlow _ this
      rw [h0] at this
      cases this
    · obtain ⟨hun, o, hoo, hall⟩ := mem_ready.1 hi
      have hih : i < h.length := by
        rcases Nat.lt_or_ge i h.length with h' | h'
        · exact h'
        · exfalso
          have hot : o ∈ t := by
            simp [List.getElem?_append_right h'] at hoo
            exact List.mem_of_getElem? hoo
          have hseed : ∀ e ∈ o.after, Region.binds .any e = true → e.on < listed.size ∧ listed.getD e.on false = true := by
            intro e he hb
            have h2 := hall e he hb
            rcases Nat.lt_or_ge e.on listed.size with h3 | h3
            · exact ⟨h3, by rwa [getD_app false h3] at h2⟩
            · rw [app_ge h3] at h2; cases h2
          have h1 := List.all_eq_true.1 hT o hot
          rcases Bool.or_eq_true_iff.1 h1 with h1 | h1
          · obtain ⟨e, he, hbe⟩ := Array.any_eq_true'.1 h1
            simp only [Bool.and_eq_true, decide_eq_true_eq] at hbe
            have := (hseed e he hbe.1).1
            omega
          · have h2 := List.all_eq_true.1 h1 i0 (List.mem_range.2 (by omega))
            have h3 := under_listed hc h.length ((o.after.toList.filter (Region.binds .any)).map (·.on)) (fun j hj => by
              obtain ⟨e, he, rfl⟩ := List.mem_map.1 hj
              obtain ⟨he1, he2⟩ := List.mem_filter.1 he
              exact (hseed e (by simpa using he1) he2).2) i0 (by simpa using h2)
            simp [hi0s] at hi0 h3
            rw [hi0] at h3
            cases h3
      have hoh : h[i]? = some o := by simpa [List.getElem?_append_left hih] using hoo
      have hun' : listed.getD i true = false := by rw [getD_app true (by omega)] at hun; exact hun
      have hall' : ∀ e ∈ o.after, Region.binds .any e = true → listed.getD e.on false = true := fun e he hb => by
        have hlt := edge_lt hE hoh he hb
        have := hall e he hb
        rwa [getD_app false (by omega)] at this
      have hr : i ∈ Region.ready .any h.toArray listed := by
        rw [mem_ready]
        exact ⟨hun', o, by simpa using hoh, hall'⟩
      have H1 := H.2 i hr
      have hK : ∀ a' w', wpAny P .any h.toArray (headPost P (h ++ t).toArray Q t) f (listed.setIfInBounds i true) a' w' → wpAny P .any (h ++ t).toArray Q (f + t.length) ((listed ++ Array.replicate t.length false).setIfInBounds i true) a' w' := by
        intro a' w' hh
        rw [set_app (by omega)]
        exact ih _ a' w' (by simpa using hs) (by have := open_set hun'; omega) (closed_set hc hoh hall') hh
      unfold wpOp at H1 ⊢
      have ho' : h.toArray[i]? = some o := by simpa using hoh
      simp only [hoo, ho'] at H1 ⊢
      rw [wanted_head hG (List.mem_of_getElem? hoh)]
      split
      · rename_i hw
        simp only [hw, if_true] at H1
        rcases H1 with H1 | ⟨h1, h2⟩
        · exact .inl (upon_headPost hK H1)
        · exact .inr ⟨h1, h2⟩
      · rename_i hw
        simp only [hw] at H1
        exact hK _ _ H1

/-- The first n operations are the head, the next k the tail, the last one is free. One walk serves every order. -/
theorem wp_region_quiet_free {id : Nat} {C : World → Prop} {a : Act} {w : World} (n k : Nat) {l : List Oper} (m : Oper) (v : Value) (hl : l = l.take n ++ (l.drop n).take k ++ [m]) (hm : P.follows .mixedOrders = true) (hB : Region.lexB .any (l.take n).toArray = true)
    (hE : edgesIn (l.take n) = true) (hG : guardsIn (l.take n) = true) (hT : tailUnder (l.take n) ((l.drop n).take k) = true)
    (hS : Region.seqB .any (l.take n ++ (l.drop n).take k).toArray ((l.drop n).take k).length (l.take n).length (Array.replicate (l.take n).length true ++ Array.replicate ((l.drop n).take k).length false) = true)
    (hE2 : edgesIn (l.take n ++ (l.drop n).take k) = true) (hG2 : guardsIn (l.take n ++ (l.drop n).take k) = true) (hsel : Region.noSelect (l.take n ++ (l.drop n).take k).toArray = true) (hsl : slotFree (l.take n ++ (l.drop n).take k) m = true)
    (hgd : m.guard = none) (hfree : m.after = #[]) (hmk : ∀ (a : Act) (w : World), (execOp a.eval m).run P w = .ok (.value v) w)
    (hC : C { w with drawn := w.drawn + 1 })
    (H : wpQuiet P (l.take n).toArray C (fun a' => ∀ w', C w' → wpList P (l.take n ++ (l.drop n).take k).toArray (freePost Q m.dst v) ((l.drop n).take k) a' w') (l.take n) a) : (Code.region id l.toArray true).wp P Q a w := by
  refine wp_region_any hm ?_
  generalize l.take n = h at *
  generalize (l.drop n).take k = t at *
  subst hl
  simp only [Region.lexB, Bool.and_eq_true] at hB
  have h1 := wpAnyQ_lex (P := P) (C := C) (md := .any) hB.1 h 0 (Array.replicate h.length false) a (by simp) (by simpa using hB.2) H
  have h2 := wpAny_of_quiet (Q' := headPost P (h ++ t).toArray (freePost Q m.dst v) t) (fun _ w' hw' hh => hh w' hw') _ _ _ _ hC h1
  have h3 := lift_under (Q := freePost Q m.dst v) hE hG hT hS h.length (Array.replicate h.length false) a _ (by simp) (by simp [open_]) (fun i o ho hl => by
    have : i < h.length := (List.getElem?_eq_some_iff.1 ho).1
    simp [this] at hl) h2
  have h4 := free1 (Q := Q) (m := m) hE2 hG2 hsel (fun x hx d hd => by
    have h1 := List.all_eq_true.1 hsl x hx
    rw [hd] at h1
    simpa using h1) hgd hfree hmk _ _ a _ (by simp) h3
  have e1 : (h ++ t ++ [m]).toArray.size = h.length + t.length + 1 := by simp; omega
  rw [e1]
  have e2 : (Array.replicate h.length false ++ Array.replicate t.length false).push false = Array.replicate (h.length + t.length + 1) false := by
    rw [Array.push_eq_append]
    have : (#[false] : Array Bool) = Array.replicate 1 false := rfl
    rw [this, Array.replicate_append_replicate, Array.replicate_append_replicate]
  rw [e2] at h4
  exact h4
end
end Go.Proofs.YthnkipicehppmaaDoor
