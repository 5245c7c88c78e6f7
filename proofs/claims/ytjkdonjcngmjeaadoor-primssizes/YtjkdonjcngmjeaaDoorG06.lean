/-
  General pieces, joined: Any Free Part.
-/
import Derived.Test.YtjkdonjcngmjeaaDoorG05
import Derived.Test.YtjkdonjcngmjeaaDoorG01
import Derived.Great.BuildSlice
import Derived.Laws.Rows
import Derived.Deep.LoopGhost
/-
  A region that draws its order, in which operations only read or call what makes memory alone, some make a block for a number, and some store a number into such a block: what holds behind it, whatever the order.
-/
namespace Go.Proofs.YtjkdonjcngmjeaaDoor
open Go Go.RowKit
set_option linter.unusedVariables false
set_option linter.unusedSimpArgs false

/-- An invariant of what is listed, the frame and the world carries any order. -/
theorem wpAny_inv {P : Program} {Q : Exit → Act → World → Prop} {l : List Oper} (I : Array Bool → Act → World → Prop) (hE : edgesIn l = true)
    (hstep : ∀ listed a w i o, listed.size = l.length → I listed a w → l[i]? = some o → listed.getD i true = false → (∀ e ∈ o.after, Region.binds .any e = true → listed.getD e.on false = true) →
      Region.wanted o (yielded l.toArray a.tmps) = true ∧ o.wp P a w (fun a' w' => I (listed.setIfInBounds i true) a' w') Q)
    (hdone : ∀ a w, I (Array.replicate l.length true) a w → Q .normal a w) :
    ∀ (fuel : Nat) (listed : Array Bool) (a : Act) (w : World), listed.size = l.length → open_ listed = fuel → I listed a w → wpAny P .any l.toArray Q fuel listed a w
  | 0, listed, a, w, hs, ho, hI => by
    have ha := all_true ho
    rw [hs] at ha
    refine ⟨?_, hdone a w (by rw [← ha]; exact hI)⟩
    rw [List.eq_nil_iff_forall_not_mem]
    intro j hj
    obtain ⟨h1, o, h2, _⟩ := mem_ready.1 hj
    have hl : j < l.length := by
      have := (Array.getElem?_eq_some_iff.1 h2).1
      simpa using this
    rw [ha] at h1
    simp [hl] at h1
  | f + 1, listed, a, w, hs, ho, hI => by
    refine ⟨fun hr => ?_, fun i hi => ?_⟩
    · obtain ⟨i, h1, h2⟩ := least_open (listed := listed) (by omega)
      have hil : i < l.length := by
        rcases Nat.lt_or_ge i l.length with h' | h'
        · exact h'
        · have : listed.size ≤ i := by omega
          simp [Array.getElem?_eq_none this] at h1
      have hm : i ∈ Region.ready .any l.toArray listed := mem_ready.2 ⟨h1, l[i], by simp [hil], fun e he hb => h2 _ (edge_lt hE (List.getElem?_eq_getElem hil) he hb)⟩
      rw [hr] at hm
      cases hm
    · obtain ⟨h1, o, h2, h3⟩ := mem_ready.1 hi
      have h2' : l[i]? = some o := by simpa using h2
      obtain ⟨hw, hwp⟩ := hstep listed a w i o hs hI h2' h1 h3
      unfold wpOp
      simp only [h2, hw, if_true]
      left
      refine Oper.wp_mono (fun a' w' h => ?_) hwp
      exact wpAny_inv I hE hstep hdone f _ a' w' (by simpa using hs) (by have := open_set h1; omega) h

inductive Kd where
  | q
  | new
  | put (j n : Nat)

structure Framed (l : List Oper) (kd : Nat → Kd) (A a : Act) (g : Nat → Nat) (on : Nat → Bool) : Prop where
  size : a.tmps.size = A.tmps.size
  defers : a.defers = A.defers
  out : ∀ d, (∀ (i : Nat) (o : Oper), l[i]? = some o → o.dst ≠ some d) → a.tmps[d]? = A.tmps[d]?
  val : ∀ (i : Nat) (o : Oper) (d : Nat), l[i]? = some o → on i = true → kd i = .q → o.dst = some d → a.tmps[d]? = A.tmps[d]?
  ptr : ∀ (i : Nat) (o : Oper) (d : Nat), l[i]? = some o → on i = true → kd i = .new → o.dst = some d → a.tmps[d]? = some (.pointer (some ⟨g i, 0, none⟩))

structure Held (kd : Nat → Kd) (W0 w : World) (g : Nat → Nat) (on : Nat → Bool) : Prop where
  below : Below W0.heap.size W0 w
  room : ∀ i, on i = true → kd i = .new → W0.heap.size ≤ g i ∧ Room w (g i)
  inj : ∀ i j, on i = true → on j = true → kd i = .new → kd j = .new → i ≠ j → g i ≠ g j
  got : ∀ i j n, on i = true → kd i = .put j n → on j = true ∧ kd j = .new ∧ At w (g j) n

/-- What is asked of each operation, at the frame as it is behind the region (but for the blocks' slots). -/
def OpOk (l : List Oper) (kd : Nat → Kd) (A : Act) (W0 : World) (i : Nat) (o : Oper) : Prop :=
  match kd i with
  | .q => (∃ d v, o.dst = some d ∧ A.tmps[d]? = some v ∧ ∀ w, Below W0.heap.size W0 w → o.quietAt Tryd.prog A (fun w' => Below w.heap.size w w') w v)
  | .new => (∃ d, o.dst = some d) ∧ ∃ cs : Array Value, cs.size = 32 ∧ Makes Tryd.prog o (.cells cs 22 (0, 0))
  | .put j n => ∃ dx dy, o.dst = none ∧ o.op = .store 22 (.tmp dx) (.tmp dy) ∧ A.tmps[dy]? = some (.agg (numA n)) ∧
      (∃ e ∈ o.after, Region.binds .any e = true ∧ e.on = j ∧ kd j = .new ∧ ∃ oj, l[j]? = some oj ∧ oj.dst = some dx) ∧
      (∃ e ∈ o.after, Region.binds .any e = true ∧ kd e.on = .q ∧ ∃ oy, l[e.on]? = some oy ∧ oy.dst = some dy)

def isQ (k : Kd) : Bool := match k with | .q => true | _ => false
theorem isQ_eq {k : Kd} (h : isQ k = true) : k = .q := by cases k <;> simp [isQ] at h ⊢

def looksB (l : List Oper) (kd : Nat → Kd) : Bool := l.zipIdx.all fun (o, i) => !isQ (kd i) || o.op.operands.all fun x => match x with
  | .tmp d => (l.all fun o' => o'.dst != some d) || o.after.any fun e => Region.binds .any e && isQ (kd e.on) && (match l[e.on]? with | some o' => o'.dst == some d | none => false)
  | _ => true

theorem looks_spec {l : List Oper} {kd : Nat → Kd} (h : looksB l kd = true) {i : Nat} {o : Oper} (ho : l[i]? = some o) (hk : kd i = .q) {d : Nat} (hx : Operand.tmp d ∈ o.op.operands) :
    (∀ (i : Nat) (o : Oper), l[i]? = some o → o.dst ≠ some d) ∨ ∃ e ∈ o.after, Region.binds .any e = true ∧ kd e.on = .q ∧ ∃ o', l[e.on]? = some o' ∧ o'.dst = some d := by
  have h1 := List.all_eq_true.1 h (o, i) (by rw [List.mem_zipIdx_iff_getElem?]; exact ho)
  simp only [hk, isQ, Bool.not_true, Bool.false_or] at h1
  have h2 := Array.all_eq_true_iff_forall_mem.1 h1 _ hx
  simp only [Bool.or_eq_true] at h2
  rcases h2 with h2 | h2
  · left
    intro j o' ho' hd
    have := List.all_eq_true.1 h2 o' (List.mem_of_getElem? ho')
    simp [hd] at this
  · right
    obtain ⟨e, he, h3⟩ := Array.any_eq_true'.1 h2
    simp only [Bool.and_eq_true] at h3
    obtain ⟨⟨h4, h5⟩, h6⟩ := h3
    cases ho2 : l[e.on]? with
    | none => simp [ho2] at h6
    | some o' => exact ⟨e, he, h4, isQ_eq h5, o', ho2, by simpa [ho2] using h6⟩

theorem on_set {listed : Array Bool} {i k : Nat} (hi : i < listed.size) : (listed.setIfInBounds i true).getD k false = if k = i then true else listed.getD k false := by
  by_cases h : k = i
  · subst h; simp [hi]
  · rw [if_neg h, getD_set_ne false (Ne.symm h)]

theorem region_any {id : Nat} {l : List Oper} {a : Act} {w W0 : World} {Q : Exit → Act → World → Prop} (kd : Nat → Kd) (A : Act)
    (hm : Tryd.prog.follows .mixedOrders = true) (hE : edgesIn l = true) (hG : (l.all fun o => o.guard.isNone) = true) (hsel : Region.noSelect l.toArray = true) (hA : dstsApart l 0 = true) (hL : looksB l kd = true)
    (hone : ∀ i i' j n n', kd i = .put j n → kd i' = .put j n' → i = i') (hI : dstsIn l a.tmps.size = true)
    (hsz : a.tmps.size = A.tmps.size) (hdf : a.defers = A.defers) (hout : ∀ d, (∀ (i : Nat) (o : Oper), l[i]? = some o → o.dst ≠ some d) → a.tmps[d]? = A.tmps[d]?)
    (hw : Below W0.heap.size W0 w) (hok : ∀ (i : Nat) (o : Oper), l[i]? = some o → OpOk l kd A W0 i o)
    (hfin : ∀ g a' w', Framed l kd A a' g (fun i => decide (i < l.length)) → Held kd W0 w' g (fun i => decide (i < l.length)) → Q .normal a' w') : (Code.region id l.toArray true).wp Tryd.prog Q a w := by
  refine wp_region_any hm ?_
  have hsize : l.toArray.size = l.length := by simp
  have hI0 := hI
  generalize hszz : a.tmps.size = N0 at hI0
  rw [hsz] at hszz
  rw [hsize]
  refine wpAny_inv (fun listed a w => ∃ g, Framed l kd A a g (fun i => listed.getD i false) ∧ Held kd W0 w g (fun i => listed.getD i false)) hE ?_ ?_ l.length _ a _ (by simp) (by simp [open_]) ?_
  · intro listed a w i o hls hI ho hun hall
    obtain ⟨g, hF, hH⟩ := hI
    have hil : i < listed.size := by rw [hls]; exact (List.getElem?_eq_some_iff.1 ho).1
    have hgo : o.guard = none := by
      have := List.all_eq_true.1 hG o (List.mem_of_getElem? ho)
      simpa using this
    refine ⟨by simp [Region.wanted, hgo], ?_⟩
    have hson : ∀ k, (listed.setIfInBounds i true).getD k false = if k = i then true else listed.getD k false := fun k => on_set hil
    have hioff : listed.getD i false = false := by simpa [hil] using hun
    have hne : ∀ (k : Nat) (o' : Oper) (d : Nat), l[k]? = some o' → k ≠ i → o.dst = some d → o'.dst ≠ some d := fun k o' d hk hki hd => dst_ne hA ho hk (Ne.symm hki) hd
    have hk := hok i o ho
    unfold OpOk at hk
    cases hkd : kd i with
    | q =>
      rw [hkd] at hk
      obtain ⟨d, v, hd, hv, hq⟩ := hk
      have hev : ∀ x ∈ o.op.operands, a.eval x = A.eval x := by
        intro x hx
        cases x with
        | tmp t =>
          have : a.tmps[t]? = A.tmps[t]? := by
            rcases looks_spec hL ho hkd hx with h1 | ⟨e, he, hb, hke, o', ho', hd'⟩
            · exact hF.out t h1
            · exact hF.val e.on o' t ho' (hall e he hb) hke hd'
          simp [Act.eval, this]
        | const v => rfl
        | global v => rfl
        | func v => rfl
      have hex := execOp_congr o (fun cs b => Region.noSelect_spec hsel i o cs b (by simpa using ho)) hev
      have h3 := hq w hH.below
      have key : ∀ w', Below w.heap.size w w' → ∃ g, Framed l kd A (a.put o.dst v) g (fun k => (listed.setIfInBounds i true).getD k false) ∧ Held kd W0 w' g (fun k => (listed.setIfInBounds i true).getD k false) := by
        intro w' hb
        have hdl : d < a.tmps.size := by
          rw [hF.size]
          exact (Array.getElem?_eq_some_iff.1 hv).1
        have hsame : (a.put o.dst v).tmps[d]? = A.tmps[d]? := by rw [hd]; simp [Act.put, hdl, hv]
        have hother : ∀ d', d' ≠ d → (a.put o.dst v).tmps[d']? = a.tmps[d']? := fun d' h => by rw [hd]; simp [Act.put, Array.getElem?_setIfInBounds_ne (Ne.symm h)]
        refine ⟨g, ⟨by rw [size_put]; exact hF.size, by rw [hd]; exact hF.defers, fun d' h => ?_, fun k o' d' hk hon hkk hdd => ?_, fun k o' d' hk hon hkk hdd => ?_⟩, ⟨hH.below.trans (hb.mono hH.below.size), fun k hon hkk => ?_, fun k j ho1 ho2 h1 h2 h3 => ?_, fun k j n hon hkk => ?_⟩⟩
        · have : d' ≠ d := fun e => h i o ho (by rw [hd, e])
          rw [hother d' this]; exact hF.out d' h
        · by_cases e : d' = d
          · rw [e]; exact hsame
          · rw [hother d' e]
            have hki : k ≠ i := fun e2 => by
              subst e2
              rw [ho] at hk
              cases hk
              rw [hd] at hdd
              exact e (Option.some.inj hdd).symm
            rw [hson k, if_neg hki] at hon
            exact hF.val k o' d' hk hon hkk hdd
        · have hki : k ≠ i := fun e2 => by subst e2; rw [hkd] at hkk; cases hkk
          have e : d' ≠ d := fun e => hne k o' d hk hki hd (by rw [hdd, e])
          rw [hother d' e]
          rw [hson k, if_neg hki] at hon
          exact hF.ptr k o' d' hk hon hkk hdd
        · have hki : k ≠ i := fun e2 => by subst e2; rw [hkd] at hkk; cases hkk
          rw [hson k, if_neg hki] at hon
          obtain ⟨h1, h2⟩ := hH.room k hon hkk
          exact ⟨h1, h2.under hb⟩
        · have hki : k ≠ i := fun e2 => by subst e2; rw [hkd] at h1; cases h1
          have hji : j ≠ i := fun e2 => by subst e2; rw [hkd] at h2; cases h2
          rw [hson k, if_neg hki] at ho1
          rw [hson j, if_neg hji] at ho2
          exact hH.inj k j ho1 ho2 h1 h2 h3
        · have hki : k ≠ i := fun e2 => by subst e2; rw [hkd] at hkk; cases hkk
          rw [hson k, if_neg hki] at hon
          obtain ⟨h1, h2, h4⟩ := hH.got k j n hon hkk
          refine ⟨?_, h2, h4.under hb⟩
          rw [hson j]; split
          · rfl
          · exact h1
      unfold Oper.quietAt at h3
      unfold Oper.wp
      rw [hex]
      generalize (execOp A.eval o).run Tryd.prog w = res at *
      cases res with
      | ok n w' =>
        cases n <;> simp only [Oper.quietUpon] at h3 <;> simp only [Oper.upon]
        case value u =>
          obtain ⟨e1, e2⟩ := h3
          rw [e1, e2]
          exact key w (Below.refl _ _)
        case skip =>
          obtain ⟨e1, e2⟩ := h3
          rw [e1, ← e2]
          exact key w (Below.refl _ _)
        case enter f args =>
          obtain ⟨e1, hc⟩ := h3
          rw [e1]
          refine hc.mono fun e w'' hh => ?_
          obtain ⟨rfl, hb⟩ := hh
          exact key w'' hb
      | halt x w' => simp only [Oper.quietUpon] at h3
    | new =>
      rw [hkd] at hk
      obtain ⟨⟨d, hd⟩, cs, hcs, hmk⟩ := hk
      unfold Oper.wp
      rw [hmk a w]
      simp only [Oper.upon]
      have hnew : Room (w.alloc (.cells cs 22 (0, 0))) w.heap.size := ⟨cs, hcs, heap_new _ _⟩
      have hb : Below w.heap.size w (w.alloc (.cells cs 22 (0, 0))) := (Below.refl _ _).alloc (Nat.le_refl _) _
      by_cases hdl : d < a.tmps.size
      · have hsame : (a.put o.dst (.pointer (some ⟨w.heap.size, 0, none⟩))).tmps[d]? = some (.pointer (some ⟨w.heap.size, 0, none⟩)) := by rw [hd]; simp [Act.put, hdl]
        have hother : ∀ d', d' ≠ d → (a.put o.dst (.pointer (some ⟨w.heap.size, 0, none⟩))).tmps[d']? = a.tmps[d']? := fun d' h => by rw [hd]; simp [Act.put, Array.getElem?_setIfInBounds_ne (Ne.symm h)]
        refine ⟨fun k => if k = i then w.heap.size else g k, ⟨by rw [size_put]; exact hF.size, by rw [hd]; exact hF.defers, fun d' h => ?_, fun k o' d' hk hon hkk hdd => ?_, fun k o' d' hk hon hkk hdd => ?_⟩, ⟨hH.below.trans (hb.mono hH.below.size), fun k hon hkk => ?_, fun k j ho1 ho2 h1 h2 h3 => ?_, fun k j n hon hkk => ?_⟩⟩
        · have : d' ≠ d := fun e => h i o ho (by rw [hd, e])
          rw [hother d' this]; exact hF.out d' h
        · have hki : k ≠ i := fun e2 => by subst e2; rw [hkd] at hkk; cases hkk
          have e : d' ≠ d := fun e => hne k o' d hk hki hd (by rw [hdd, e])
          rw [hother d' e]
          rw [hson k, if_neg hki] at hon
          exact hF.val k o' d' hk hon hkk hdd
        · by_cases hki : k = i
          · subst hki
            rw [ho] at hk
            cases hk
            rw [hd] at hdd
            cases hdd
            rw [if_pos rfl]; exact hsame
          · have e : d' ≠ d := fun e => hne k o' d hk hki hd (by rw [hdd, e])
            rw [hother d' e, if_neg hki]
            rw [hson k, if_neg hki] at hon
            exact hF.ptr k o' d' hk hon hkk hdd
        · by_cases hki : k = i
          · rw [if_pos hki]; exact ⟨hH.below.size, hnew⟩
          · rw [if_neg hki]
            rw [hson k, if_neg hki] at hon
            obtain ⟨h1, h2⟩ := hH.room k hon hkk
            exact ⟨h1, h2.under hb⟩
        · have hlt : ∀ m, m ≠ i → listed.getD m false = true → kd m = .new → g m < w.heap.size := fun m hm hon hkm => (hH.room m hon hkm).2.lt
          by_cases hki : k = i
          · have hji : j ≠ i := fun e => h3 (by rw [hki, e])
            rw [hson j, if_neg hji] at ho2
            rw [if_pos hki, if_neg hji]
            have := hlt j hji ho2 h2
            omega
          · rw [hson k, if_neg hki] at ho1
            by_cases hji : j = i
            · rw [if_neg hki, if_pos hji]
              have := hlt k hki ho1 h1
              omega
            · rw [hson j, if_neg hji] at ho2
              rw [if_neg hki, if_neg hji]
              exact hH.inj k j ho1 ho2 h1 h2 h3
        · have hki : k ≠ i := fun e2 => by subst e2; rw [hkd] at hkk; cases hkk
          rw [hson k, if_neg hki] at hon
          obtain ⟨h1, h2, h4⟩ := hH.got k j n hon hkk
          have hji : j ≠ i := fun e => by subst e; rw [hioff] at h1; cases h1
          refine ⟨by rw [hson j, if_neg hji]; exact h1, h2, ?_⟩
          rw [if_neg hji]; exact h4.under hb
      · exfalso
        rw [hF.size, hszz] at hdl
        have := List.all_eq_true.1 hI0 o (List.mem_of_getElem? ho)
        rw [hd] at this
        exact hdl (by simpa using this)
    | put j n =>
      rw [hkd] at hk
      obtain ⟨dx, dy, hd, hop, hv, ⟨e1, he1, hb1, hj, hkj, oj, hoj, hdj⟩, ⟨e2, he2, hb2, hk2, oy, hoy, hdy⟩⟩ := hk
      have honj : listed.getD j false = true := by rw [← hj]; exact hall e1 he1 hb1
      have hx : a.eval (.tmp dx) = .pointer (some ⟨g j, 0, none⟩) := by
        have := hF.ptr j oj dx hoj honj hkj hdj
        simp [Act.eval, this]
      have hy : a.eval (.tmp dy) = .agg (numA n) := by
        have := hF.val e2.on oy dy hoy (hall e2 he2 hb2) hk2 hdy
        simp [Act.eval, this, hv]
      obtain ⟨hgj, cs, hcs, hc⟩ := hH.room j honj hkj
      have hP : Put w (w.setRow (g j) (numA n)) (g j) := ⟨⟨rfl, rfl, rfl, by simp, fun k _ hk => setRow_other _ _ _ _ (fun e => hk (by rw [e]))⟩, by simp⟩
      have hAt : At (w.setRow (g j) (numA n)) (g j) n := setRow_heap _ _ _ _ _ _ hc
      refine wp_store_row 22 (.tmp dx) (.tmp dy) hop (g j) (numA n) hx hy 22 cs hc (by rw [numA_size]; kernel_rfl) (by rw [numA_size, hcs]) (numA_one n) ?_
      rw [hd]
      refine ⟨g, ⟨hF.size, hF.defers, hF.out, fun k o' d' hk hon hkk hdd => ?_, fun k o' d' hk hon hkk hdd => ?_⟩, ⟨hH.below.trans (hP.below hgj), fun k hon hkk => ?_, fun k m ho1 ho2 h1 h2 h3 => ?_, fun k m n' hon hkk => ?_⟩⟩
      · have hki : k ≠ i := fun e => by subst e; rw [hkd] at hkk; cases hkk
        rw [hson k, if_neg hki] at hon
        exact hF.val k o' d' hk hon hkk hdd
      · have hki : k ≠ i := fun e => by subst e; rw [hkd] at hkk; cases hkk
        rw [hson k, if_neg hki] at hon
        exact hF.ptr k o' d' hk hon hkk hdd
      · have hki : k ≠ i := fun e => by subst e; rw [hkd] at hkk; cases hkk
        rw [hson k, if_neg hki] at hon
        obtain ⟨h1, h2⟩ := hH.room k hon hkk
        refine ⟨h1, ?_⟩
        by_cases hkj2 : k = j
        · rw [hkj2]; exact hAt.room
        · exact hP.room h2 (hH.inj k j hon honj hkk hkj hkj2)
      · have hki : k ≠ i := fun e => by subst e; rw [hkd] at h1; cases h1
        have hmi : m ≠ i := fun e => by subst e; rw [hkd] at h2; cases h2
        rw [hson k, if_neg hki] at ho1
        rw [hson m, if_neg hmi] at ho2
        exact hH.inj k m ho1 ho2 h1 h2 h3
      · by_cases hki : k = i
        · subst hki
          rw [hkd] at hkk
          cases hkk
          have hji : j ≠ k := fun e => by subst e; rw [hkd] at hkj; cases hkj
          exact ⟨by rw [hson j, if_neg hji]; exact honj, hkj, hAt⟩
        · rw [hson k, if_neg hki] at hon
          obtain ⟨h1, h2, h4⟩ := hH.got k m n' hon hkk
          have hmi : m ≠ i := fun e => by subst e; rw [hkd] at h2; cases h2
          have hmj : m ≠ j := fun e => by
            subst e
            exact hki (hone k i m n' n hkk hkd)
          exact ⟨by rw [hson m, if_neg hmi]; exact h1, h2, hP.at h4 (hH.inj m j h1 honj h2 hkj hmj)⟩
  · intro a w hI
    obtain ⟨g, hF, hH⟩ := hI
    have e : (fun i => (Array.replicate l.length true).getD i false) = fun i => decide (i < l.length) := by
      funext i
      by_cases h : i < l.length <;> simp [h]
    rw [e] at hF hH
    exact hfin g a w hF hH
  · refine ⟨fun _ => 0, ⟨hsz, hdf, hout, fun i o d h hon => ?_, fun i o d h hon => ?_⟩, ⟨hw.drew, fun i hon => ?_, fun i j hon => ?_, fun i j n hon => ?_⟩⟩
    all_goals
      exfalso
      simp only [Array.getD_eq_getD_getElem?, Array.getElem?_replicate] at hon
      split at hon <;> simp at hon
end Go.Proofs.YtjkdonjcngmjeaaDoor
/-
  A region that draws its order: its first operations only read, or call what makes memory alone; then come such as wait, one through another, for all of these, and are forced among themselves; the last one (a constant is moved) waits for nothing and nobody waits for it.
-/
namespace Go.Proofs.YtjkdonjcngmjeaaDoor
open Go Go.RowKit
set_option linter.unusedVariables false
set_option linter.unusedSimpArgs false

section
variable {P : Program} {Q : Exit → Act → World → Prop} {l h t : List Oper} {m : Oper} {v : Value}

theorem gp {listed : Array Bool} {j : Nat} (b d : Bool) (hj : j < listed.size) : (listed.push b).getD j d = listed.getD j d := by
  have := gdp (m := 0) (listed := listed) b d hj
  simpa using this
theorem gn {listed : Array Bool} (b d : Bool) : (listed.push b).getD listed.size d = b := by
  simp
theorem sp {listed : Array Bool} {i : Nat} (b : Bool) (hi : i < listed.size) : (listed.push b).setIfInBounds i true = (listed.setIfInBounds i true).push b := by
  have := setp (m := 0) (listed := listed) b hi
  simpa using this
/-- What the named ones wait for, one through another. -/
def under (h : List Oper) : Nat → List Nat → List Nat
  | 0, s => s
  | f + 1, s => s ++ under h f (s.flatMap fun i => match h[i]? with | some o => (o.after.toList.filter (Region.binds .any)).map (·.on) | none => [])

def Closed (h : List Oper) (listed : Array Bool) : Prop := ∀ i o, h[i]? = some o → listed.getD i false = true → ∀ e ∈ o.after, Region.binds .any e = true → listed.getD e.on false = true

theorem under_listed {listed : Array Bool} (hc : Closed h listed) : ∀ (f : Nat) (s : List Nat), (∀ j ∈ s, listed.getD j false = true) → ∀ j ∈ under h f s, listed.getD j false = true
  | 0, s, hs, j, hj => hs j hj
  | f + 1, s, hs, j, hj => by
    rcases List.mem_append.1 hj with h1 | h1
    · exact hs j h1
    · refine under_listed hc f _ ?_ j h1
      intro k hk
      obtain ⟨i, hi, hk'⟩ := List.mem_flatMap.1 hk
      cases ho : h[i]? with
      | none => simp [ho] at hk'
      | some o =>
        simp only [ho] at hk'
        obtain ⟨e, he, rfl⟩ := List.mem_map.1 hk'
        obtain ⟨he1, he2⟩ := List.mem_filter.1 he
        exact hc i o ho (hs i hi) e (by simpa using he1) he2

theorem closed_set {listed : Array Bool} {i : Nat} {o : Oper} (hc : Closed h listed) (ho : h[i]? = some o) (hall : ∀ e ∈ o.after, Region.binds .any e = true → listed.getD e.on false = true) : Closed h (listed.setIfInBounds i true) := by
  intro j o' ho' hl e he hb
  by_cases hij : i = j
  · subst hij
    rw [ho] at ho'
    obtain rfl := Option.some.inj ho'
    exact getD_set_true (hall e he hb)
  · rw [getD_set_ne false hij] at hl
    exact getD_set_true (hc j o' ho' hl e he hb)

/-- Each of the tail waits for another of the tail, or, one through another, for all of the head. -/
def tailUnder (h t : List Oper) : Bool := t.all fun o => (o.after.any fun e => Region.binds .any e && decide (h.length ≤ e.on)) ||
  (List.range h.length).all fun j => (under h h.length ((o.after.toList.filter (Region.binds .any)).map (·.on))).contains j

theorem app_ge {listed : Array Bool} {n j : Nat} (hj : listed.size ≤ j) : (listed ++ Array.replicate n false).getD j false = false := by
  rw [Array.getD_eq_getD_getElem?, Array.getElem?_append_right hj, Array.getElem?_replicate]
  split <;> rfl

theorem lift_under (hE : edgesIn h = true) (hG : guardsIn h = true) (hT : tailUnder h t = true)
    (hS : Region.seqB .any (h ++ t).toArray t.length h.length (Array.replicate h.length true ++ Array.replicate t.length false) = true) :
    ∀ (f : Nat) (listed : Array Bool) (a : Act) (w : World), listed.size = h.length → open_ listed = f → Closed h listed →
      wpAny P .any h.toArray (headPost P (h ++ t).toArray Q t) f listed a w → wpAny P .any (h ++ t).toArray Q (f + t.length) (listed ++ Array.replicate t.length false) a w := by
  intro f
  induction f with
  | zero =>
    intro listed a w hs ho hc H
    have e := all_true ho
    rw [hs] at e
    rw [Nat.zero_add, e]
    exact wpAny_of_seq t h.length _ a w (fun j => by rw [List.getElem?_toArray, List.getElem?_append_right (by omega), Nat.add_sub_cancel_left]) hS H.2
  | succ f ih =>
    intro listed a w hs ho hc H
    obtain ⟨i0, hi0, hlow⟩ := least_open (listed := listed) (by omega)
    have hi0s : i0 < listed.size := by
      rcases Nat.lt_or_ge i0 listed.size with h' | h'
      · exact h'
      · simp [Array.getElem?_eq_none h'] at hi0
    rw [show f + 1 + t.length = (f + t.length) + 1 by omega]
    refine ⟨fun h0 => ?_, fun i hi => ?_⟩
    · have : i0 ∈ Region.ready .any (h ++ t).toArray (listed ++ Array.replicate t.length false) := by
        rw [mem_ready]
        have hih : i0 < h.length := by omega
        refine ⟨by rw [getD_app true hi0s]; exact hi0, h[i0], by simp [List.getElem?_append_left hih], fun e he hb => ?_⟩
        have := edge_lt hE (List.getElem?_eq_getElem hih) he hb
        rw [getD_app false (by omega)]
        exact hlow _ this
      rw [h0] at this
      cases this
    · obtain ⟨hun, o, hoo, hall⟩ := mem_ready.1 hi
      have hih : i < h.length := by
        rcases Nat.lt_or_ge i h.length with h' | h'
        · exact h'
        · exfalso
          have hot : o ∈ t := by
            simp [List.getElem?_append_right h'] at hoo
            exact List.mem_of_getElem? hoo
          have hseed : ∀ e ∈ o.after, Region.binds .any e = true → e.on < listed.size ∧ listed.getD e.on false = true := by
            intro e he hb
            have h2 := hall e he hb
            rcases Nat.lt_or_ge e.on listed.size with h3 | h3
            · exact ⟨h3, by rwa [getD_app false h3] at h2⟩
            · rw [app_ge h3] at h2; cases h2
          have h1 := List.all_eq_true.1 hT o hot
          rcases Bool.or_eq_true_iff.1 h1 with h1 | h1
          · obtain ⟨e, he, hbe⟩ := Array.any_eq_true'.1 h1
            simp only [Bool.and_eq_true, decide_eq_true_eq] at hbe
            have := (hseed e he hbe.1).1
            omega
          · have h2 := List.all_eq_true.1 h1 i0 (List.mem_range.2 (by omega))
            have h3 := under_listed hc h.length ((o.after.toList.filter (Region.binds .any)).map (·.on)) (fun j hj => by
              obtain ⟨e, he, rfl⟩ := List.mem_map.1 hj
              obtain ⟨he1, he2⟩ := List.mem_filter.1 he
              exact (hseed e (by simpa using he1) he2).2) i0 (by simpa using h2)
            simp [hi0s] at hi0 h3
            rw [hi0] at h3
            cases h3
      have hoh : h[i]? = some o := by simpa [List.getElem?_append_left hih] using hoo
      have hun' : listed.getD i true = false := by rw [getD_app true (by omega)] at hun; exact hun
      have hall' : ∀ e ∈ o.after, Region.binds .any e = true → listed.getD e.on false = true := fun e he hb => by
        have hlt := edge_lt hE hoh he hb
        have := hall e he hb
        rwa [getD_app false (by omega)] at this
      have hr : i ∈ Region.ready .any h.toArray listed := by
        rw [mem_ready]
        exact ⟨hun', o, by simpa using hoh, hall'⟩
      have H1 := H.2 i hr
      have hK : ∀ a' w', wpAny P .any h.toArray (headPost P (h ++ t).toArray Q t) f (listed.setIfInBounds i true) a' w' → wpAny P .any (h ++ t).toArray Q (f + t.length) ((listed ++ Array.replicate t.length false).setIfInBounds i true) a' w' := by
        intro a' w' hh
        rw [set_app (by omega)]
        exact ih _ a' w' (by simpa using hs) (by have := open_set hun'; omega) (closed_set hc hoh hall') hh
      unfold wpOp at H1 ⊢
      have ho' : h.toArray[i]? = some o := by simpa using hoh
      simp only [hoo, ho'] at H1 ⊢
      rw [wanted_head hG (List.mem_of_getElem? hoh)]
      split
      · rename_i hw
        simp only [hw, if_true] at H1
        rcases H1 with H1 | ⟨h1, h2⟩
        · exact .inl (upon_headPost hK H1)
        · exact .inr ⟨h1, h2⟩
      · rename_i hw
        simp only [hw] at H1
        exact hK _ _ H1

end
end Go.Proofs.YtjkdonjcngmjeaaDoor
/-
  Numbers that lie side by side in one block: a slice literal of them is made, one of them is read.
-/
namespace Go.Proofs.YtjkdonjcngmjeaaDoor
open Go Go.RowKit
set_option linter.unusedVariables false
set_option linter.unusedSimpArgs false

section
variable {P : Program}

theorem run_loadVar_at (w : World) (g off : Nat) (t ty : TypeId) (cs es : Array Value) (fr : Nat × Nat) (d : TypeDesc) (hg : w.heap[g]? = some (.cells cs t fr)) (hp : ∀ j v, es[j]? = some v → cs[off + j]? = some v)
    (hu : P.underlying ty = some d) (hd : (match d with | .struct _ | .array _ _ => true | _ => false) = true) (hi : (P.info? ty).map (·.size) = some es.size) :
    (loadVar ty ⟨g, off, none⟩).run P w = .ok (.agg es) w := by
  have hl : (loadCells ⟨g, off, none⟩ es.toList.length).run P w = .ok es.toList.toArray w :=
    run_loadCells_list (P := P) w ⟨g, off, none⟩ es.toList (fun j v hv => by
      have hadd : (⟨g, off, none⟩ : Addr).add j = ⟨g, off + j, none⟩ := by unfold Addr.add; split <;> simp_all
      rw [hadd, cell_of_row w g (off + j) cs t fr hg]
      exact hp j v (by simpa using hv))
  cases hq : P.info? ty with
  | none => simp [hq] at hi
  | some i =>
    have hs : i.size = es.size := by simpa [hq] using hi
    have hagg : (isAgg ty).run P w = .ok true w := by
      unfold isAgg
      rw [Sem.run_bind, run_underlying hu w]
      cases d <;> simp_all
    simp only [Array.length_toList, Array.toArray_toList] at hl
    simp [loadVar, Sem.run_bind, hagg, sizeOf, typeInfo, hq, hs, hl]

theorem wpList_load_at {ops : Array Oper} {rest : List Oper} {o : Oper} {a : Act} {w : World} {Q : Exit → Act → World → Prop} (hgd : o.guard = none) (ty : TypeId) (x : Operand) (ho : o.op = .load ty x)
    (g off : Nat) (hx : a.eval x = .pointer (some ⟨g, off, none⟩)) (t : TypeId) (cs es : Array Value) (fr : Nat × Nat) (d : TypeDesc) (hg : w.heap[g]? = some (.cells cs t fr)) (hp : ∀ j v, es[j]? = some v → cs[off + j]? = some v)
    (hu : P.underlying ty = some d) (hd : (match d with | .struct _ | .array _ _ => true | _ => false) = true) (hi : (P.info? ty).map (·.size) = some es.size)
    (h : wpList P ops Q rest (a.put o.dst (.agg es)) w) : wpList P ops Q (o :: rest) a w :=
  wpList_plain hgd fun _ hK => by
    unfold Oper.wp execOp
    simp only [ho, hx, Instr.loadAt, Instr.sureAddr, Sem.run_bind, Sem.run_pure, Result.andThen_ok, run_loadVar_at w g off t ty cs es fr d hg hp hu hd hi]
    exact hK _ _ h
end

/-- The numbers' bytes, side by side. -/
def rowA (vs : List Nat) : Array Value := ((vs.map fun n => Value.agg (numA n)).flatMap fun v => v.cells.toList).toArray

theorem rowA_at (vs : List Nat) {i n : Nat} (hi : vs[i]? = some n) (j : Nat) (v : Value) (hv : (numA n)[j]? = some v) : (rowA vs)[i * 32 + j]? = some v := by
  have hj : j < 32 := by
    rcases Nat.lt_or_ge j 32 with h | h
    · exact h
    · rw [Array.getElem?_eq_none (by rw [numA_size]; exact h)] at hv; cases hv
  unfold rowA
  rw [List.getElem?_toArray, Great.flat_get (s := 32) (by decide) _ (fun v hv => by obtain ⟨k, _, rfl⟩ := List.mem_map.1 hv; exact numA_size k), show (i * 32 + j) / 32 = i by omega, show (i * 32 + j) % 32 = j by omega, List.getElem?_map, hi]
  exact hv

end Go.Proofs.YtjkdonjcngmjeaaDoor
