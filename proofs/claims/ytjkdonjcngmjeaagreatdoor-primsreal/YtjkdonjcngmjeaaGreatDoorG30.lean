/-
  General pieces, joined: Any Any2 Quad.
-/
import Derived.Test.YtjkdonjcngmjeaaGreatDoorG29
import Derived.Test.YtjkdonjcngmjeaaGreatDoorG02
import Derived.Test.YtjkdonjcngmjeaaGreatDoorG05
/-
  A region that draws its order, in which operations only read or call what makes memory alone, some make a block for a number, and some store a number into such a block: what holds behind it, whatever the order.
-/
namespace Go.Proofs.YtjkdonjcngmjeaaGreatDoor
open Go Go.RowKit
set_option linter.unusedVariables false
set_option linter.unusedSimpArgs false

/-- An invariant of what is listed, the frame and the world carries any order. -/
theorem wpAny_inv {P : Program} {Q : Exit → Act → World → Prop} {l : List Oper} (I : Array Bool → Act → World → Prop) (hE : edgesIn l = true)
    (hstep : ∀ listed a w i o, listed.size = l.length → I listed a w → l[i]? = some o → listed.getD i true = false → (∀ e ∈ o.after, Region.binds .any e = true → listed.getD e.on false = true) →
      Region.wanted o (yielded l.toArray a.tmps) = true ∧ o.wp P a w (fun a' w' => I (listed.setIfInBounds i true) a' w') Q)
    (hdone : ∀ a w, I (Array.replicate l.length true) a w → Q .normal a w) :
    ∀ (fuel : Nat) (listed : Array Bool) (a : Act) (w : World), listed.size = l.length → open_ listed = fuel → I listed a w → wpAny P .any l.toArray Q fuel listed a w
  | 0, listed, a, w, hs, ho, hI => by
    have ha := all_true ho
    rw [hs] at ha
    refine ⟨?_, hdone a w (by rw [← ha]; exact hI)⟩
    rw [List.eq_nil_iff_forall_not_mem]
    intro j hj
    obtain ⟨h1, o, h2, _⟩ := mem_ready.1 hj
    have hl : j < l.length := by
      have := (Array.getElem?_eq_some_iff.1 h2).1
      simpa using this
    rw [ha] at h1
    simp [hl] at h1
  | f + 1, listed, a, w, hs, ho, hI => by
    refine ⟨fun hr => ?_, fun i hi => ?_⟩
    · obtain ⟨i, h1, h2⟩ := least_open (listed := listed) (by omega)
      have hil : i < l.length := by
        rcases Nat.lt_or_ge i l.length with h' | h'
        · exact h'
        · have : listed.size ≤ i := by omega
          simp [Array.getElem?_eq_none this] at h1
      have hm : i ∈ Region.ready .any l.toArray listed := mem_ready.2 ⟨h1, l[i], by simp [hil], fun e he hb => h2 _ (edge_lt hE (List.getElem?_eq_getElem hil) he hb)⟩
      rw [hr] at hm
      cases hm
    · obtain ⟨h1, o, h2, h3⟩ := mem_ready.1 hi
      have h2' : l[i]? = some o := by simpa using h2
      obtain ⟨hw, hwp⟩ := hstep listed a w i o hs hI h2' h1 h3
      unfold wpOp
      simp only [h2, hw, if_true]
      left
      refine Oper.wp_mono (fun a' w' h => ?_) hwp
      exact wpAny_inv I hE hstep hdone f _ a' w' (by simpa using hs) (by have := open_set h1; omega) h

inductive Kd where
  | q
  | new
  | put (j n : Nat)

structure Framed (l : List Oper) (kd : Nat → Kd) (A a : Act) (g : Nat → Nat) (on : Nat → Bool) : Prop where
  size : a.tmps.size = A.tmps.size
  defers : a.defers = A.defers
  out : ∀ d, (∀ (i : Nat) (o : Oper), l[i]? = some o → o.dst ≠ some d) → a.tmps[d]? = A.tmps[d]?
  val : ∀ (i : Nat) (o : Oper) (d : Nat), l[i]? = some o → on i = true → kd i = .q → o.dst = some d → a.tmps[d]? = A.tmps[d]?
  ptr : ∀ (i : Nat) (o : Oper) (d : Nat), l[i]? = some o → on i = true → kd i = .new → o.dst = some d → a.tmps[d]? = some (.pointer (some ⟨g i, 0, none⟩))

structure Held (kd : Nat → Kd) (W0 w : World) (g : Nat → Nat) (on : Nat → Bool) : Prop where
  below : Below W0.heap.size W0 w
  room : ∀ i, on i = true → kd i = .new → W0.heap.size ≤ g i ∧ Room w (g i)
  inj : ∀ i j, on i = true → on j = true → kd i = .new → kd j = .new → i ≠ j → g i ≠ g j
  got : ∀ i j n, on i = true → kd i = .put j n → on j = true ∧ kd j = .new ∧ At w (g j) n

/-- What is asked of each operation, at the frame as it is behind the region (but for the blocks' slots). -/
def OpOk (l : List Oper) (kd : Nat → Kd) (A : Act) (W0 : World) (i : Nat) (o : Oper) : Prop :=
  match kd i with
  | .q => (∃ d v, o.dst = some d ∧ A.tmps[d]? = some v ∧ ∀ w, Below W0.heap.size W0 w → o.quietAt Tryz.prog A (fun w' => Below w.heap.size w w') w v)
  | .new => (∃ d, o.dst = some d) ∧ ∃ cs : Array Value, cs.size = 32 ∧ Makes Tryz.prog o (.cells cs 30 (0, 0))
  | .put j n => ∃ dx dy, o.dst = none ∧ o.op = .store 30 (.tmp dx) (.tmp dy) ∧ A.tmps[dy]? = some (.agg (numA n)) ∧
      (∃ e ∈ o.after, Region.binds .any e = true ∧ e.on = j ∧ kd j = .new ∧ ∃ oj, l[j]? = some oj ∧ oj.dst = some dx) ∧
      (∃ e ∈ o.after, Region.binds .any e = true ∧ kd e.on = .q ∧ ∃ oy, l[e.on]? = some oy ∧ oy.dst = some dy)

def isQ (k : Kd) : Bool := match k with | .q => true | _ => false
theorem isQ_eq {k : Kd} (h : isQ k = true) : k = .q := by cases k <;> simp [isQ] at h ⊢

def looksB (l : List Oper) (kd : Nat → Kd) : Bool := l.zipIdx.all fun (o, i) => !isQ (kd i) || o.op.operands.all fun x => match x with
  | .tmp d => (l.all fun o' => o'.dst != some d) || o.after.any fun e => Region.binds .any e && isQ (kd e.on) && (match l[e.on]? with | some o' => o'.dst == some d | none => false)
  | _ => true

theorem looks_spec {l : List Oper} {kd : Nat → Kd} (h : looksB l kd = true) {i : Nat} {o : Oper} (ho : l[i]? = some o) (hk : kd i = .q) {d : Nat} (hx : Operand.tmp d ∈ o.op.operands) :
    (∀ (i : Nat) (o : Oper), l[i]? = some o → o.dst ≠ some d) ∨ ∃ e ∈ o.after, Region.binds .any e = true ∧ kd e.on = .q ∧ ∃ o', l[e.on]? = some o' ∧ o'.dst = some d := by
  have h1 := List.all_eq_true.1 h (o, i) (by rw [List.mem_zipIdx_iff_getElem?]; exact ho)
  simp only [hk, isQ, Bool.not_true, Bool.false_or] at h1
  have h2 := Array.all_eq_true_iff_forall_mem.1 h1 _ hx
  simp only [Bool.or_eq_true] at h2
  rcases h2 with h2 | h2
  · left
    intro j o' ho' hd
    have := List.all_eq_true.1 h2 o' (List.mem_of_getElem? ho')
    simp [hd] at this
  · right
    obtain ⟨e, he, h3⟩ := Array.any_eq_true'.1 h2
    simp only [Bool.and_eq_true] at h3
    obtain ⟨⟨h4, h5⟩, h6⟩ := h3
    cases ho2 : l[e.on]? with
    | none => simp [ho2] at h6
    | some o' => exact ⟨e, he, h4, isQ_eq h5, o', ho2, by simpa [ho2] using h6⟩

theorem on_set {listed : Array Bool} {i k : Nat} (hi : i < listed.size) : (listed.setIfInBounds i true).getD k false = if k = i then true else listed.getD k false := by
  by_cases h : k = i
  · subst h; simp [hi]
  · rw [if_neg h, getD_set_ne false (Ne.symm h)]

theorem region_any {id : Nat} {l : List Oper} {a : Act} {w W0 : World} {Q : Exit → Act → World → Prop} (kd : Nat → Kd) (A : Act)
    (hm : Tryz.prog.follows .mixedOrders = true) (hE : edgesIn l = true) (hG : (l.all fun o => o.guard.isNone) = true) (hsel : Region.noSelect l.toArray = true) (hA : dstsApart l 0 = true) (hL : looksB l kd = true)
    (hone : ∀ i i' j n n', kd i = .put j n → kd i' = .put j n' → i = i') (hI : dstsIn l a.tmps.size = true)
    (hsz : a.tmps.size = A.tmps.size) (hdf : a.defers = A.defers) (hout : ∀ d, (∀ (i : Nat) (o : Oper), l[i]? = some o → o.dst ≠ some d) → a.tmps[d]? = A.tmps[d]?)
    (hw : Below W0.heap.size W0 w) (hok : ∀ (i : Nat) (o : Oper), l[i]? = some o → OpOk l kd A W0 i o)
    (hfin : ∀ g a' w', Framed l kd A a' g (fun i => decide (i < l.length)) → Held kd W0 w' g (fun i => decide (i < l.length)) → Q .normal a' w') : (Code.region id l.toArray true).wp Tryz.prog Q a w := by
  refine wp_region_any hm ?_
  have hsize : l.toArray.size = l.length := by simp
  have hI0 := hI
  generalize hszz : a.tmps.size = N0 at hI0
  rw [hsz] at hszz
  rw [hsize]
  refine wpAny_inv (fun listed a w => ∃ g, Framed l kd A a g (fun i => listed.getD i false) ∧ Held kd W0 w g (fun i => listed.getD i false)) hE ?_ ?_ l.length _ a _ (by simp) (by simp [open_]) ?_
  · intro listed a w i o hls hI ho hun hall
    obtain ⟨g, hF, hH⟩ := hI
    have hil : i < listed.size := by rw [hls]; exact (List.getElem?_eq_some_iff.1 ho).1
    have hgo : o.guard = none := by
      have := List.all_eq_true.1 hG o (List.mem_of_getElem? ho)
      simpa using this
    refine ⟨by simp [Region.wanted, hgo], ?_⟩
    have hson : ∀ k, (listed.setIfInBounds i true).getD k false = if k = i then true else listed.getD k false := fun k => on_set hil
    have hioff : listed.getD i false = false := by simpa [hil] using hun
    have hne : ∀ (k : Nat) (o' : Oper) (d : Nat), l[k]? = some o' → k ≠ i → o.dst = some d → o'.dst ≠ some d := fun k o' d hk hki hd => dst_ne hA ho hk (Ne.symm hki) hd
    have hk := hok i o ho
    unfold OpOk at hk
    cases hkd : kd i with
    | q =>
      rw [hkd] at hk
      obtain ⟨d, v, hd, hv, hq⟩ := hk
      have hev : ∀ x ∈ o.op.operands, a.eval x = A.eval x := by
        intro x hx
        cases x with
        | tmp t =>
          have : a.tmps[t]? = A.tmps[t]? := by
            rcases looks_spec hL ho hkd hx with h1 | ⟨e, he, hb, hke, o', ho', hd'⟩
            · exact hF.out t h1
            · exact hF.val e.on o' t ho' (hall e he hb) hke hd'
          simp [Act.eval, this]
        | const v => rfl
        | global v => rfl
        | func v => rfl
      have hex := execOp_congr o (fun cs b => Region.noSelect_spec hsel i o cs b (by simpa using ho)) hev
      have h3 := hq w hH.below
      have key : ∀ w', Below w.heap.size w w' → ∃ g, Framed l kd A (a.put o.dst v) g (fun k => (listed.setIfInBounds i true).getD k false) ∧ Held kd W0 w' g (fun k => (listed.setIfInBounds i true).getD k false) := by
        intro w' hb
        have hdl : d < a.tmps.size := by
          rw [hF.size]
          exact (Array.getElem?_eq_some_iff.1 hv).1
        have hsame : (a.put o.dst v).tmps[d]? = A.tmps[d]? := by rw [hd]; simp [Act.put, hdl, hv]
        have hother : ∀ d', d' ≠ d → (a.put o.dst v).tmps[d']? = a.tmps[d']? := fun d' h => by rw [hd]; simp [Act.put, Array.getElem?_setIfInBounds_ne (Ne.symm h)]
        refine ⟨g, ⟨by rw [size_put]; exact hF.size, by rw [hd]; exact hF.defers, fun d' h => ?_, fun k o' d' hk hon hkk hdd => ?_, fun k o' d' hk hon hkk hdd => ?_⟩, ⟨hH.below.trans (hb.mono hH.below.size), fun k hon hkk => ?_, fun k j ho1 ho2 h1 h2 h3 => ?_, fun k j n hon hkk => ?_⟩⟩
        · have : d' ≠ d := fun e => h i o ho (by rw [hd, e])
          rw [hother d' this]; exact hF.out d' h
        · by_cases e : d' = d
          · rw [e]; exact hsame
          · rw [hother d' e]
            have hki : k ≠ i := fun e2 => by
              subst e2
              rw [ho] at hk
              cases hk
              rw [hd] at hdd
              exact e (Option.some.inj hdd).symm
            rw [hson k, if_neg hki] at hon
            exact hF.val k o' d' hk hon hkk hdd
        · have hki : k ≠ i := fun e2 => by subst e2; rw [hkd] at hkk; cases hkk
          have e : d' ≠ d := fun e => hne k o' d hk hki hd (by rw [hdd, e])
          rw [hother d' e]
          rw [hson k, if_neg hki] at hon
          exact hF.ptr k o' d' hk hon hkk hdd
        · have hki : k ≠ i := fun e2 => by subst e2; rw [hkd] at hkk; cases hkk
          rw [hson k, if_neg hki] at hon
          obtain ⟨h1, h2⟩ := hH.room k hon hkk
          exact ⟨h1, h2.under hb⟩
        · have hki : k ≠ i := fun e2 => by subst e2; rw [hkd] at h1; cases h1
          have hji : j ≠ i := fun e2 => by subst e2; rw [hkd] at h2; cases h2
          rw [hson k, if_neg hki] at ho1
          rw [hson j, if_neg hji] at ho2
          exact hH.inj k j ho1 ho2 h1 h2 h3
        · have hki : k ≠ i := fun e2 => by subst e2; rw [hkd] at hkk; cases hkk
          rw [hson k, if_neg hki] at hon
          obtain ⟨h1, h2, h4⟩ := hH.got k j n hon hkk
          refine ⟨?_, h2, h4.under hb⟩
          rw [hson j]; split
          · rfl
          · exact h1
      unfold Oper.quietAt at h3
      unfold Oper.wp
      rw [hex]
      generalize (execOp A.eval o).run Tryz.prog w = res at *
      cases res with
      | ok n w' =>
        cases n <;> simp only [Oper.quietUpon] at h3 <;> simp only [Oper.upon]
        case value u =>
          obtain ⟨e1, e2⟩ := h3
          rw [e1, e2]
          exact key w (Below.refl _ _)
        case skip =>
          obtain ⟨e1, e2⟩ := h3
          rw [e1, ← e2]
          exact key w (Below.refl _ _)
        case enter f args =>
          obtain ⟨e1, hc⟩ := h3
          rw [e1]
          refine hc.mono fun e w'' hh => ?_
          obtain ⟨rfl, hb⟩ := hh
          exact key w'' hb
      | halt x w' => simp only [Oper.quietUpon] at h3
    | new =>
      rw [hkd] at hk
      obtain ⟨⟨d, hd⟩, cs, hcs, hmk⟩ := hk
      unfold Oper.wp
      rw [hmk a w]
      simp only [Oper.upon]
      have hnew : Room (w.alloc (.cells cs 30 (0, 0))) w.heap.size := ⟨cs, hcs, heap_new _ _⟩
      have hb : Below w.heap.size w (w.alloc (.cells cs 30 (0, 0))) := (Below.refl _ _).alloc (Nat.le_refl _) _
      by_cases hdl : d < a.tmps.size
      · have hsame : (a.put o.dst (.pointer (some ⟨w.heap.size, 0, none⟩))).tmps[d]? = some (.pointer (some ⟨w.heap.size, 0, none⟩)) := by rw [hd]; simp [Act.put, hdl]
        have hother : ∀ d', d' ≠ d → (a.put o.dst (.pointer (some ⟨w.heap.size, 0, none⟩))).tmps[d']? = a.tmps[d']? := fun d' h => by rw [hd]; simp [Act.put, Array.getElem?_setIfInBounds_ne (Ne.symm h)]
        refine ⟨fun k => if k = i then w.heap.size else g k, ⟨by rw [size_put]; exact hF.size, by rw [hd]; exact hF.defers, fun d' h => ?_, fun k o' d' hk hon hkk hdd => ?_, fun k o' d' hk hon hkk hdd => ?_⟩, ⟨hH.below.trans (hb.mono hH.below.size), fun k hon hkk => ?_, fun k j ho1 ho2 h1 h2 h3 => ?_, fun k j n hon hkk => ?_⟩⟩
        · have : d' ≠ d := fun e => h i o ho (by rw [hd, e])
          rw [hother d' this]; exact hF.out d' h
        · have hki : k ≠ i := fun e2 => by subst e2; rw [hkd] at hkk; cases hkk
          have e : d' ≠ d := fun e => hne k o' d hk hki hd (by rw [hdd, e])
          rw [hother d' e]
          rw [hson k, if_neg hki] at hon
          exact hF.val k o' d' hk hon hkk hdd
        · by_cases hki : k = i
          · subst hki
            rw [ho] at hk
            cases hk
            rw [hd] at hdd
            cases hdd
            rw [if_pos rfl]; exact hsame
          · have e : d' ≠ d := fun e => hne k o' d hk hki hd (by rw [hdd, e])
            rw [hother d' e, if_neg hki]
            rw [hson k, if_neg hki] at hon
            exact hF.ptr k o' d' hk hon hkk hdd
        · by_cases hki : k = i
          · rw [if_pos hki]; exact ⟨hH.below.size, hnew⟩
          · rw [if_neg hki]
            rw [hson k, if_neg hki] at hon
            obtain ⟨h1, h2⟩ := hH.room k hon hkk
            exact ⟨h1, h2.under hb⟩
        · have hlt : ∀ m, m ≠ i → listed.getD m false = true → kd m = .new → g m < w.heap.size := fun m hm hon hkm => (hH.room m hon hkm).2.lt
          by_cases hki : k = i
          · have hji : j ≠ i := fun e => h3 (by rw [hki, e])
            rw [hson j, if_neg hji] at ho2
            rw [if_pos hki, if_neg hji]
            have := hlt j hji ho2 h2
            omega
          · rw [hson k, if_neg hki] at ho1
            by_cases hji : j = i
            · rw [if_neg hki, if_pos hji]
              have := hlt k hki ho1 h1
              omega
            · rw [hson j, if_neg hji] at ho2
              rw [if_neg hki, if_neg hji]
              exact hH.inj k j ho1 ho2 h1 h2 h3
        · have hki : k ≠ i := fun e2 => by subst e2; rw [hkd] at hkk; cases hkk
          rw [hson k, if_neg hki] at hon
          obtain ⟨h1, h2, h4⟩ := hH.got k j n hon hkk
          have hji : j ≠ i := fun e => by subst e; rw [hioff] at h1; cases h1
          refine ⟨by rw [hson j, if_neg hji]; exact h1, h2, ?_⟩
          rw [if_neg hji]; exact h4.under hb
      · exfalso
        rw [hF.size, hszz] at hdl
        have := List.all_eq_true.1 hI0 o (List.mem_of_getElem? ho)
        rw [hd] at this
        exact hdl (by simpa using this)
    | put j n =>
      rw [hkd] at hk
      obtain ⟨dx, dy, hd, hop, hv, ⟨e1, he1, hb1, hj, hkj, oj, hoj, hdj⟩, ⟨e2, he2, hb2, hk2, oy, hoy, hdy⟩⟩ := hk
      have honj : listed.getD j false = true := by rw [← hj]; exact hall e1 he1 hb1
      have hx : a.eval (.tmp dx) = .pointer (some ⟨g j, 0, none⟩) := by
        have := hF.ptr j oj dx hoj honj hkj hdj
        simp [Act.eval, this]
      have hy : a.eval (.tmp dy) = .agg (numA n) := by
        have := hF.val e2.on oy dy hoy (hall e2 he2 hb2) hk2 hdy
        simp [Act.eval, this, hv]
      obtain ⟨hgj, cs, hcs, hc⟩ := hH.room j honj hkj
      have hP : Put w (w.setRow (g j) (numA n)) (g j) := ⟨⟨rfl, rfl, rfl, by simp, fun k _ hk => setRow_other _ _ _ _ (fun e => hk (by rw [e]))⟩, by simp⟩
      have hAt : At (w.setRow (g j) (numA n)) (g j) n := setRow_heap _ _ _ _ _ _ hc
      refine wp_store_row 30 (.tmp dx) (.tmp dy) hop (g j) (numA n) hx hy 30 cs hc (by rw [numA_size]; kernel_rfl) (by rw [numA_size, hcs]) (numA_one n) ?_
      rw [hd]
      refine ⟨g, ⟨hF.size, hF.defers, hF.out, fun k o' d' hk hon hkk hdd => ?_, fun k o' d' hk hon hkk hdd => ?_⟩, ⟨hH.below.trans (hP.below hgj), fun k hon hkk => ?_, fun k m ho1 ho2 h1 h2 h3 => ?_, fun k m n' hon hkk => ?_⟩⟩
      · have hki : k ≠ i := fun e => by subst e; rw [hkd] at hkk; cases hkk
        rw [hson k, if_neg hki] at hon
        exact hF.val k o' d' hk hon hkk hdd
      · have hki : k ≠ i := fun e => by subst e; rw [hkd] at hkk; cases hkk
        rw [hson k, if_neg hki] at hon
        exact hF.ptr k o' d' hk hon hkk hdd
      · have hki : k ≠ i := fun e => by subst e; rw [hkd] at hkk; cases hkk
        rw [hson k, if_neg hki] at hon
        obtain ⟨h1, h2⟩ := hH.room k hon hkk
        refine ⟨h1, ?_⟩
        by_cases hkj2 : k = j
        · rw [hkj2]; exact hAt.room
        · exact hP.room h2 (hH.inj k j hon honj hkk hkj hkj2)
      · have hki : k ≠ i := fun e => by subst e; rw [hkd] at h1; cases h1
        have hmi : m ≠ i := fun e => by subst e; rw [hkd] at h2; cases h2
        rw [hson k, if_neg hki] at ho1
        rw [hson m, if_neg hmi] at ho2
        exact hH.inj k m ho1 ho2 h1 h2 h3
      · by_cases hki : k = i
        · subst hki
          rw [hkd] at hkk
          cases hkk
          have hji : j ≠ k := fun e => by subst e; rw [hkd] at hkj; cases hkj
          exact ⟨by rw [hson j, if_neg hji]; exact honj, hkj, hAt⟩
        · rw [hson k, if_neg hki] at hon
          obtain ⟨h1, h2, h4⟩ := hH.got k m n' hon hkk
          have hmi : m ≠ i := fun e => by subst e; rw [hkd] at h2; cases h2
          have hmj : m ≠ j := fun e => by
            subst e
            exact hki (hone k i m n' n hkk hkd)
          exact ⟨by rw [hson m, if_neg hmi]; exact h1, h2, hP.at h4 (hH.inj m j h1 honj h2 hkj hmj)⟩
  · intro a w hI
    obtain ⟨g, hF, hH⟩ := hI
    have e : (fun i => (Array.replicate l.length true).getD i false) = fun i => decide (i < l.length) := by
      funext i
      by_cases h : i < l.length <;> simp [h]
    rw [e] at hF hH
    exact hfin g a w hF hH
  · refine ⟨fun _ => 0, ⟨hsz, hdf, hout, fun i o d h hon => ?_, fun i o d h hon => ?_⟩, ⟨hw.drew, fun i hon => ?_, fun i j hon => ?_, fun i j n hon => ?_⟩⟩
    all_goals
      exfalso
      simp only [Array.getD_eq_getD_getElem?, Array.getElem?_replicate] at hon
      split at hon <;> simp at hon
end Go.Proofs.YtjkdonjcngmjeaaGreatDoor
/-
  The same, told for one block and for two blocks that are made and filled; what is asked of each operation, one by one.
-/
namespace Go.Proofs.YtjkdonjcngmjeaaGreatDoor
open Go Go.RowKit
set_option linter.unusedVariables false
set_option linter.unusedSimpArgs false

def putAll (a : Act) (vals : List (Nat × Value)) : Act := vals.foldl (fun a p => a.put (some p.1) p.2) a
theorem putAll_size : ∀ (vals : List (Nat × Value)) (a : Act), (putAll a vals).tmps.size = a.tmps.size
  | [], a => rfl
  | p :: r, a => by show (putAll (a.put (some p.1) p.2) r).tmps.size = _; rw [putAll_size r, size_put]
theorem putAll_defers : ∀ (vals : List (Nat × Value)) (a : Act), (putAll a vals).defers = a.defers
  | [], a => rfl
  | p :: r, a => by show (putAll (a.put (some p.1) p.2) r).defers = _; rw [putAll_defers r]; rfl
theorem putAll_out {d : Nat} : ∀ (vals : List (Nat × Value)) (a : Act), (∀ p ∈ vals, p.1 ≠ d) → (putAll a vals).tmps[d]? = a.tmps[d]?
  | [], a, _ => rfl
  | p :: r, a, h => by
    show (putAll (a.put (some p.1) p.2) r).tmps[d]? = _
    rw [putAll_out r _ (fun q hq => h q (List.mem_cons_of_mem _ hq))]
    simp [Act.put, Array.getElem?_setIfInBounds_ne (h p List.mem_cons_self)]

def OkFrom (l : List Oper) (kd : Nat → Kd) (A : Act) (W0 : World) : Nat → List Oper → Prop
  | _, [] => True
  | i, o :: r => OpOk l kd A W0 i o ∧ OkFrom l kd A W0 (i + 1) r
theorem okFrom_spec {l : List Oper} {kd : Nat → Kd} {A : Act} {W0 : World} : ∀ (r : List Oper) (k : Nat), OkFrom l kd A W0 k r → ∀ i o, r[i]? = some o → OpOk l kd A W0 (k + i) o
  | [], _, _, i, o, h => by simp at h
  | x :: r, k, hk, 0, o, h => by simp at h; subst h; exact hk.1
  | x :: r, k, hk, i + 1, o, h => by
    have := okFrom_spec r (k + 1) hk.2 i o (by simpa using h)
    rwa [show k + 1 + i = k + (i + 1) from by omega] at this

def kd2 (i1 i2 i3 i4 n1 n2 : Nat) : Nat → Kd := fun i => if i = i1 then .new else if i = i2 then .new else if i = i3 then .put i1 n1 else if i = i4 then .put i2 n2 else .q
def kd1 (i1 i3 n1 : Nat) : Nat → Kd := fun i => if i = i1 then .new else if i = i3 then .put i1 n1 else .q

def valsIn (l : List Oper) (vals : List (Nat × Value)) : Bool := vals.all fun p => l.any fun o => o.dst == some p.1
theorem valsIn_spec {l : List Oper} {vals : List (Nat × Value)} (h : valsIn l vals = true) {d : Nat} (hd : ∀ (i : Nat) (o : Oper), l[i]? = some o → o.dst ≠ some d) : ∀ p ∈ vals, p.1 ≠ d := by
  intro p hp e
  have h1 := List.all_eq_true.1 h p hp
  obtain ⟨o, ho, h2⟩ := List.any_eq_true.1 h1
  obtain ⟨i, hi⟩ := List.getElem?_of_mem ho
  exact hd i o hi (by rw [← e]; simpa using h2)

abbrev ptrTo (g : Nat) : Value := .pointer (some ⟨g, 0, none⟩)

theorem act_ext {a b : Act} (h1 : a.tmps = b.tmps) (h2 : a.defers = b.defers) : a = b := by cases a; cases b; simp_all

theorem region_made2 {id : Nat} {l : List Oper} {a : Act} {w W0 : World} {Q : Exit → Act → World → Prop} (vals : List (Nat × Value)) (i1 i2 i3 i4 d1 d2 n1 n2 : Nat)
    (hm : Tryz.prog.follows .mixedOrders = true) (hE : edgesIn l = true) (hG : (l.all fun o => o.guard.isNone) = true) (hsel : Region.noSelect l.toArray = true) (hA : dstsApart l 0 = true) (hL : looksB l (kd2 i1 i2 i3 i4 n1 n2) = true)
    (hI : dstsIn l a.tmps.size = true) (hv : valsIn l vals = true) (hi : decide ((i1 < l.length ∧ i2 < l.length ∧ i3 < l.length ∧ i4 < l.length) ∧ i1 ≠ i2 ∧ i1 ≠ i3 ∧ i1 ≠ i4 ∧ i2 ≠ i3 ∧ i2 ≠ i4 ∧ i3 ≠ i4) = true) (hd1 : (l[i1]?).bind (·.dst) = some d1) (hd2 : (l[i2]?).bind (·.dst) = some d2) (hdd : decide (d1 ≠ d2 ∧ d1 < a.tmps.size ∧ d2 < a.tmps.size) = true)
    (hw : Below W0.heap.size W0 w) (hok : OkFrom l (kd2 i1 i2 i3 i4 n1 n2) (putAll a vals) W0 0 l)
    (hfin : ∀ g1 g2 w', W0.heap.size ≤ g1 → W0.heap.size ≤ g2 → g1 ≠ g2 → At w' g1 n1 → At w' g2 n2 → Below W0.heap.size W0 w' → Q .normal (((putAll a vals).put (some d1) (ptrTo g1)).put (some d2) (ptrTo g2)) w') :
    (Code.region id l.toArray true).wp Tryz.prog Q a w := by
  replace hdd := of_decide_eq_true hdd
  obtain ⟨⟨l1, l2, l3, l4⟩, n12, n13, n14, n23, n24, n34⟩ := of_decide_eq_true hi
  have k1 : kd2 i1 i2 i3 i4 n1 n2 i1 = .new := by simp [kd2]
  have k2 : kd2 i1 i2 i3 i4 n1 n2 i2 = .new := by simp [kd2, Ne.symm n12]
  have k3 : kd2 i1 i2 i3 i4 n1 n2 i3 = .put i1 n1 := by simp [kd2, Ne.symm n13, Ne.symm n23]
  have k4 : kd2 i1 i2 i3 i4 n1 n2 i4 = .put i2 n2 := by simp [kd2, Ne.symm n14, Ne.symm n24, Ne.symm n34]
  have hok' := fun (i : Nat) (o : Oper) (h : l[i]? = some o) => by have := okFrom_spec l 0 hok i o h; rwa [Nat.zero_add] at this
  refine region_any (kd2 i1 i2 i3 i4 n1 n2) (putAll a vals) hm hE hG hsel hA hL ?_ hI (putAll_size _ _).symm (putAll_defers _ _).symm (fun d hd => (putAll_out vals a (valsIn_spec hv hd)).symm) hw hok' ?_
  · intro i i' j n n' h h'
    simp only [kd2] at h h'
    split at h <;> first | cases h | skip
    split at h <;> first | cases h | skip
    split at h' <;> first | cases h' | skip
    split at h' <;> first | cases h' | skip
    split at h
    · cases h
      split at h'
      · omega
      · split at h' <;> cases h'
        exact absurd rfl n12
    · split at h <;> cases h
      split at h'
      · cases h'; exact absurd rfl n12
      · split at h' <;> cases h'
        omega
  · intro g a' w' hF hH
    have on : ∀ i, i < l.length → (fun i => decide (i < l.length)) i = true := fun i h => by simpa using h
    obtain ⟨o1, ho1⟩ : ∃ o1, l[i1]? = some o1 := ⟨_, List.getElem?_eq_getElem l1⟩
    obtain ⟨o2, ho2⟩ : ∃ o2, l[i2]? = some o2 := ⟨_, List.getElem?_eq_getElem l2⟩
    rw [ho1] at hd1
    rw [ho2] at hd2
    simp only [Option.bind_some] at hd1 hd2
    have p1 := hF.ptr i1 o1 d1 ho1 (on _ l1) k1 hd1
    have p2 := hF.ptr i2 o2 d2 ho2 (on _ l2) k2 hd2
    have hsz := hF.size
    rw [putAll_size] at hsz
    have e : a' = ((putAll a vals).put (some d1) (ptrTo (g i1))).put (some d2) (ptrTo (g i2)) := by
      refine act_ext (Array.ext_getElem? fun d => ?_) hF.defers
      by_cases h2 : d = d2
      · subst h2
        rw [p2]
        simp [Act.put, putAll_size, hdd.2.2]
      · by_cases h1 : d = d1
        · subst h1
          rw [p1]
          show _ = (((putAll a vals).tmps.setIfInBounds d (ptrTo (g i1))).setIfInBounds d2 (ptrTo (g i2)))[d]?
          rw [Array.getElem?_setIfInBounds_ne (Ne.symm h2), Array.getElem?_setIfInBounds_self_of_lt (by rw [putAll_size]; exact hdd.2.1)]
        · have e1 : (((putAll a vals).put (some d1) (ptrTo (g i1))).put (some d2) (ptrTo (g i2))).tmps[d]? = (putAll a vals).tmps[d]? := by
            simp [Act.put, Array.getElem?_setIfInBounds_ne (Ne.symm h2), Array.getElem?_setIfInBounds_ne (Ne.symm h1)]
          rw [e1]
          by_cases hout : ∀ (i : Nat) (o : Oper), l[i]? = some o → o.dst ≠ some d
          · exact hF.out d hout
          · simp only [Classical.not_forall] at hout
            obtain ⟨i, o, ho, hdo⟩ := hout
            have hdo' : o.dst = some d := Classical.not_not.1 hdo
            have hil : i < l.length := (List.getElem?_eq_some_iff.1 ho).1
            cases hk : kd2 i1 i2 i3 i4 n1 n2 i with
            | q => exact hF.val i o d ho (on _ hil) hk hdo'
            | new =>
              exfalso
              simp only [kd2] at hk
              split at hk
              · next h => subst h; rw [ho1] at ho; cases ho; rw [hd1] at hdo'; exact h1 (Option.some.inj hdo').symm
              · split at hk
                · next h => subst h; rw [ho2] at ho; cases ho; rw [hd2] at hdo'; exact h2 (Option.some.inj hdo').symm
                · split at hk <;> first | cases hk | (split at hk <;> cases hk)
            | put j n =>
              exfalso
              have := hok' i o ho
              unfold OpOk at this
              rw [hk] at this
              obtain ⟨_, _, h3, _⟩ := this
              rw [h3] at hdo'
              cases hdo'
    rw [e]
    exact hfin (g i1) (g i2) w' (hH.room i1 (on _ l1) k1).1 (hH.room i2 (on _ l2) k2).1 (hH.inj i1 i2 (on _ l1) (on _ l2) k1 k2 n12) (hH.got i3 i1 n1 (on _ l3) k3).2.2 (hH.got i4 i2 n2 (on _ l4) k4).2.2 hH.below

theorem region_made1 {id : Nat} {l : List Oper} {a : Act} {w W0 : World} {Q : Exit → Act → World → Prop} (vals : List (Nat × Value)) (i1 i3 d1 n1 : Nat)
    (hm : Tryz.prog.follows .mixedOrders = true) (hE : edgesIn l = true) (hG : (l.all fun o => o.guard.isNone) = true) (hsel : Region.noSelect l.toArray = true) (hA : dstsApart l 0 = true) (hL : looksB l (kd1 i1 i3 n1) = true)
    (hI : dstsIn l a.tmps.size = true) (hv : valsIn l vals = true) (hi : decide ((i1 < l.length ∧ i3 < l.length) ∧ i1 ≠ i3) = true) (hd1 : (l[i1]?).bind (·.dst) = some d1) (hdd : decide (d1 < a.tmps.size) = true)
    (hw : Below W0.heap.size W0 w) (hok : OkFrom l (kd1 i1 i3 n1) (putAll a vals) W0 0 l)
    (hfin : ∀ g1 w', W0.heap.size ≤ g1 → At w' g1 n1 → Below W0.heap.size W0 w' → Q .normal ((putAll a vals).put (some d1) (ptrTo g1)) w') :
    (Code.region id l.toArray true).wp Tryz.prog Q a w := by
  replace hdd := of_decide_eq_true hdd
  obtain ⟨⟨l1, l3⟩, n13⟩ := of_decide_eq_true hi
  have k1 : kd1 i1 i3 n1 i1 = .new := by simp [kd1]
  have k3 : kd1 i1 i3 n1 i3 = .put i1 n1 := by simp [kd1, Ne.symm n13]
  have hok' := fun (i : Nat) (o : Oper) (h : l[i]? = some o) => by have := okFrom_spec l 0 hok i o h; rwa [Nat.zero_add] at this
  refine region_any (kd1 i1 i3 n1) (putAll a vals) hm hE hG hsel hA hL ?_ hI (putAll_size _ _).symm (putAll_defers _ _).symm (fun d hd => (putAll_out vals a (valsIn_spec hv hd)).symm) hw hok' ?_
  · intro i i' j n n' h h'
    simp only [kd1] at h h'
    split at h <;> first | cases h | skip
    split at h' <;> first | cases h' | skip
    split at h <;> first | cases h | skip
    split at h' <;> first | cases h' | skip
    omega
  · intro g a' w' hF hH
    have on : ∀ i, i < l.length → (fun i => decide (i < l.length)) i = true := fun i h => by simpa using h
    obtain ⟨o1, ho1⟩ : ∃ o1, l[i1]? = some o1 := ⟨_, List.getElem?_eq_getElem l1⟩
    rw [ho1] at hd1
    simp only [Option.bind_some] at hd1
    have p1 := hF.ptr i1 o1 d1 ho1 (on _ l1) k1 hd1
    have e : a' = (putAll a vals).put (some d1) (ptrTo (g i1)) := by
      refine act_ext (Array.ext_getElem? fun d => ?_) hF.defers
      by_cases h1 : d = d1
      · subst h1
        rw [p1]
        simp [Act.put, putAll_size, hdd]
      · have e1 : ((putAll a vals).put (some d1) (ptrTo (g i1))).tmps[d]? = (putAll a vals).tmps[d]? := by
          simp [Act.put, Array.getElem?_setIfInBounds_ne (Ne.symm h1)]
        rw [e1]
        by_cases hout : ∀ (i : Nat) (o : Oper), l[i]? = some o → o.dst ≠ some d
        · exact hF.out d hout
        · simp only [Classical.not_forall] at hout
          obtain ⟨i, o, ho, hdo⟩ := hout
          have hdo' : o.dst = some d := Classical.not_not.1 hdo
          have hil : i < l.length := (List.getElem?_eq_some_iff.1 ho).1
          cases hk : kd1 i1 i3 n1 i with
          | q => exact hF.val i o d ho (on _ hil) hk hdo'
          | new =>
            exfalso
            simp only [kd1] at hk
            split at hk
            · next h => subst h; rw [ho1] at ho; cases ho; rw [hd1] at hdo'; exact h1 (Option.some.inj hdo').symm
            · split at hk <;> cases hk
          | put j n =>
            exfalso
            have := hok' i o ho
            unfold OpOk at this
            rw [hk] at this
            obtain ⟨_, _, h3, _⟩ := this
            rw [h3] at hdo'
            cases hdo'
    rw [e]
    exact hfin (g i1) w' (hH.room i1 (on _ l1) k1).1 (hH.got i3 i1 n1 (on _ l3) k3).2.2 hH.below

section
variable {l : List Oper} {kd : Nat → Kd} {A : Act} {W0 : World} {i : Nat} {o : Oper}

theorem ok_val (hk : kd i = .q) (d : Nat) (v : Value) (hd : o.dst = some d) (hv : A.tmps[d]? = some v) (hrun : ∀ w, (execOp A.eval o).run Tryz.prog w = .ok (.value v) w) : OpOk l kd A W0 i o := by
  unfold OpOk
  rw [hk]
  refine ⟨d, v, hd, hv, fun w _ => ?_⟩
  unfold Oper.quietAt
  rw [hrun]
  exact ⟨rfl, rfl⟩

theorem ok_get (hk : kd i = .q) (d g n : Nat) (x : Operand) (hd : o.dst = some d) (hv : A.tmps[d]? = some (.agg (numA n))) (ho : o.op = .load 30 x) (hx : A.eval x = .pointer (some ⟨g, 0, none⟩)) (hg : ∀ w, Below W0.heap.size W0 w → At w g n) : OpOk l kd A W0 i o := by
  unfold OpOk
  rw [hk]
  refine ⟨d, _, hd, hv, fun w hw => ?_⟩
  unfold Oper.quietAt execOp
  simp only [ho, hx, Instr.loadAt, Instr.sureAddr, Sem.run_bind, Sem.run_pure, Result.andThen_ok, run_loadVar_row w g 30 30 (numA n) (0, 0) _ (hg w hw) Tryz.underlying30 rfl (by rw [numA_size]; kernel_rfl)]
  exact ⟨rfl, rfl⟩

theorem ok_part (hk : kd i = .q) (d g off n : Nat) (t : TypeId) (cs : Array Value) (x : Operand) (hd : o.dst = some d) (hv : A.tmps[d]? = some (.agg (numA n))) (ho : o.op = .load 30 x) (hx : A.eval x = .pointer (some ⟨g, off, none⟩)) (hg : ∀ w, Below W0.heap.size W0 w → w.heap[g]? = some (.cells cs t (0, 0))) (hp : ∀ j v, (numA n)[j]? = some v → cs[off + j]? = some v) : OpOk l kd A W0 i o := by
  unfold OpOk
  rw [hk]
  refine ⟨d, _, hd, hv, fun w hw => ?_⟩
  unfold Oper.quietAt execOp
  simp only [ho, hx, Instr.loadAt, Instr.sureAddr, Sem.run_bind, Sem.run_pure, Result.andThen_ok, run_loadVar_at w g off t 30 cs (numA n) (0, 0) _ (hg w hw) hp Tryz.underlying30 rfl (by rw [numA_size]; kernel_rfl)]
  exact ⟨rfl, rfl⟩

theorem ok_call (hk : kd i = .q) (d f : Nat) (fn : Func) (c : Code) (x : Operand) (args : List Operand) (ts : Array TypeId) (vs : List Value) (v : Value) (hd : o.dst = some d) (hv : A.tmps[d]? = some v) (ho : o.op = .call { callee := .value x, args := args.toArray, argTypes := ts }) (hx : A.eval x = .func (.func f) #[] #[])
    (hargs : args.map A.eval = vs) (hf : Tryz.prog.funcs[f]? = some fn) (hname : (fn.name == "runtime.NumGoroutine") = false) (hb : fn.body = some c)
    (hc : ∀ w, Below W0.heap.size W0 w → Calls Tryz.prog f vs.toArray w fun e w' => e = .returned v ∧ Below w.heap.size w w') : OpOk l kd A W0 i o := by
  unfold OpOk
  rw [hk]
  refine ⟨d, v, hd, hv, fun w hw => ?_⟩
  have h1 : fn.name ≠ "runtime.NumGoroutine" := by simpa using hname
  have ha : args.toArray.map A.eval = vs.toArray := by rw [List.map_toArray, hargs]
  have hrun : (execOp A.eval o).run Tryz.prog w = .ok (.enter f vs.toArray) w := by
    unfold execOp
    simp only [ho, resolve, ha, hx]
    simp [Deferred.ofValue, invoke, callFunc, hf, h1, hb]
  unfold Oper.quietAt
  rw [hrun]
  exact ⟨rfl, hc w hw⟩

theorem ok_new (hk : kd i = .new) (d : Nat) (hd : o.dst = some d) (cs : Array Value) (hcs : cs.size = 32) (hmk : Makes Tryz.prog o (.cells cs 30 (0, 0))) : OpOk l kd A W0 i o := by
  unfold OpOk
  rw [hk]
  exact ⟨⟨d, hd⟩, cs, hcs, hmk⟩

theorem ok_put (j n dx dy : Nat) (hk : kd i = .put j n) (hd : o.dst = none) (hop : o.op = .store 30 (.tmp dx) (.tmp dy)) (hv : A.tmps[dy]? = some (.agg (numA n))) (hkj : kd j = .new) (hj : (l[j]?).bind (·.dst) = some dx) (hx : (o.after.any fun e => Region.binds .any e && e.on == j) = true)
    (hy : (o.after.any fun e => Region.binds .any e && isQ (kd e.on) && ((l[e.on]?).bind (·.dst) == some dy)) = true) : OpOk l kd A W0 i o := by
  unfold OpOk
  rw [hk]
  refine ⟨dx, dy, hd, hop, hv, ?_, ?_⟩
  · obtain ⟨e, he, h1⟩ := Array.any_eq_true'.1 hx
    simp only [Bool.and_eq_true, beq_iff_eq] at h1
    cases hl : l[j]? with
    | none => simp [hl] at hj
    | some oj => exact ⟨e, he, h1.1, h1.2, hkj, oj, rfl, by simpa [hl] using hj⟩
  · obtain ⟨e, he, h1⟩ := Array.any_eq_true'.1 hy
    simp only [Bool.and_eq_true, beq_iff_eq] at h1
    cases hl : l[e.on]? with
    | none => simp [hl] at h1
    | some oy => exact ⟨e, he, h1.1.1, isQ_eq h1.1.2, oy, hl, by simpa [hl] using h1.2⟩
end

def zero32 : Array Value := #[.int .u8 0, .int .u8 0, .int .u8 0, .int .u8 0, .int .u8 0, .int .u8 0, .int .u8 0, .int .u8 0, .int .u8 0, .int .u8 0, .int .u8 0, .int .u8 0, .int .u8 0, .int .u8 0, .int .u8 0, .int .u8 0, .int .u8 0, .int .u8 0, .int .u8 0, .int .u8 0, .int .u8 0, .int .u8 0, .int .u8 0, .int .u8 0, .int .u8 0, .int .u8 0, .int .u8 0, .int .u8 0, .int .u8 0, .int .u8 0, .int .u8 0, .int .u8 0]
theorem makes_num {d : Option Tmp} {ty : TypeId} {pos : String} {after : Array Edge} {guard : Option (Nat × Bool)} : Makes Tryz.prog { dst := d, op := .alloc 30, type := ty, pos := pos, after := after, guard := guard } (.cells zero32 30 (0, 0)) := fun a w => by
  kernel_rfl
end Go.Proofs.YtjkdonjcngmjeaaGreatDoor
/-
  Four numbers side by side in a block: a struct of the ladder, and the reference's.
-/
namespace Go.Proofs.YtjkdonjcngmjeaaGreatDoor
open Go Go.RowKit
set_option linter.unusedVariables false
set_option linter.unusedSimpArgs false

/-- Block g holds a row of numbers as a value of type t. -/
def AtQ (t : TypeId) (w : World) (g : Nat) (l : List Nat) : Prop := w.heap[g]? = some (.cells (rowA l) t (0, 0))
def RoomQ (t : TypeId) (w : World) (g : Nat) : Prop := ∃ cs : Array Value, cs.size = 128 ∧ w.heap[g]? = some (.cells cs t (0, 0))
theorem AtQ.lt {t : TypeId} {w : World} {g : Nat} {l : List Nat} (h : AtQ t w g l) : g < w.heap.size := (Array.getElem?_eq_some_iff.1 h).1
theorem AtQ.under {t : TypeId} {w w' : World} {g : Nat} {l : List Nat} (h : AtQ t w g l) (hb : Below w.heap.size w w') : AtQ t w' g l := (hb.block _ h.lt).trans h
theorem AtQ.alloc {t : TypeId} {w : World} {g : Nat} {l : List Nat} (h : AtQ t w g l) (o : Obj) : AtQ t (w.alloc o) g l := (Below.heap_alloc w o g h.lt).trans h
theorem RoomQ.lt {t : TypeId} {w : World} {g : Nat} (h : RoomQ t w g) : g < w.heap.size := by obtain ⟨_, _, h⟩ := h; exact (Array.getElem?_eq_some_iff.1 h).1
theorem RoomQ.under {t : TypeId} {w w' : World} {g : Nat} (h : RoomQ t w g) (hb : Below w.heap.size w w') : RoomQ t w' g := by
  have hl := h.lt
  obtain ⟨cs, h1, h2⟩ := h
  exact ⟨cs, h1, (hb.block _ hl).trans h2⟩
theorem RoomQ.alloc {t : TypeId} {w : World} {g : Nat} (h : RoomQ t w g) (o : Obj) : RoomQ t (w.alloc o) g := by
  have hl := h.lt
  obtain ⟨cs, h1, h2⟩ := h
  exact ⟨cs, h1, (Below.heap_alloc w o g hl).trans h2⟩
theorem rowA_size (a b c d : Nat) : (rowA [a, b, c, d]).size = 128 := by
  simp [rowA, Value.cells, numA_size]
theorem rowA_one (a b c d : Nat) : (rowA [a, b, c, d]).all (·.oneCell') = true := by
  rw [Array.all_eq_true_iff_forall_mem]
  intro v hv
  simp only [rowA, List.mem_toArray, List.mem_flatMap, List.mem_map] at hv
  obtain ⟨u, ⟨n, _, rfl⟩, hu⟩ := hv
  exact (Array.all_eq_true_iff_forall_mem.1 (numA_one n)) v (by simpa [Value.cells] using hu)
theorem AtQ.room {t : TypeId} {w : World} {g a b c d : Nat} (h : AtQ t w g [a, b, c, d]) : RoomQ t w g := ⟨_, rowA_size a b c d, h⟩
theorem Put.atQ {t : TypeId} {w w' : World} {g k : Nat} {l : List Nat} (h : Put w w' g) (hk : AtQ t w k l) (hne : k ≠ g) : AtQ t w' k l := (h.grown.block k hk.lt (fun e => by cases e; exact hne rfl)).trans hk
theorem Put.roomQ {t : TypeId} {w w' : World} {g k : Nat} (h : Put w w' g) (hk : RoomQ t w k) (hne : k ≠ g) : RoomQ t w' k := by
  have hl := hk.lt
  obtain ⟨cs, h1, h2⟩ := hk
  exact ⟨cs, h1, (h.grown.block k hl (fun e => by cases e; exact hne rfl)).trans h2⟩
theorem atQ_new (t : TypeId) (w : World) (l : List Nat) : AtQ t (w.alloc (.cells (rowA l) t)) w.heap.size l := heap_new _ _
theorem rowA_part (l : List Nat) {i n : Nat} (hi : l[i]? = some n) : ∀ j v, (numA n)[j]? = some v → (rowA l)[i * 32 + j]? = some v := fun j v hv => rowA_at l hi j v hv

theorem wpList_qget {ops : Array Oper} {rest : List Oper} {o : Oper} {a : Act} {w : World} {Q : Exit → Act → World → Prop} (hgd : o.guard = none) (x : Operand) (ho : o.op = .load 30 x)
    (t : TypeId) (g i : Nat) (l : List Nat) (n : Nat) (hn : l[i]? = some n) (hx : a.eval x = .pointer (some ⟨g, i * 32, none⟩)) (hg : AtQ t w g l) (h : wpList Tryz.prog ops Q rest (a.put o.dst (.agg (numA n))) w) : wpList Tryz.prog ops Q (o :: rest) a w :=
  wpList_load_at hgd 30 x ho g (i * 32) hx t (rowA l) (numA n) (0, 0) _ hg (rowA_part l hn) Tryz.underlying30 rfl (by rw [numA_size]; kernel_rfl) h

theorem wpList_qall {t : TypeId} {fs : Array Field} (hu : Tryz.prog.underlying t = some (.struct fs)) (hi : (Tryz.prog.info? t).map (·.size) = some 128) {ops : Array Oper} {rest : List Oper} {o : Oper} {a : Act} {w : World} {Q : Exit → Act → World → Prop} (hgd : o.guard = none) (x : Operand) (ho : o.op = .load t x)
    (g n0 n1 n2 n3 : Nat) (hx : a.eval x = .pointer (some ⟨g, 0, none⟩)) (hg : AtQ t w g [n0, n1, n2, n3]) (h : wpList Tryz.prog ops Q rest (a.put o.dst (.agg (rowA [n0, n1, n2, n3]))) w) : wpList Tryz.prog ops Q (o :: rest) a w :=
  wpList_load_row hgd t x ho g hx t (rowA [n0, n1, n2, n3]) (0, 0) _ hg hu rfl (by rw [rowA_size]; exact hi) h

theorem wpList_qput {t : TypeId} (hi : (Tryz.prog.info? t).map (·.size) = some 128) {ops : Array Oper} {rest : List Oper} {o : Oper} {a : Act} {w : World} {Q : Exit → Act → World → Prop} (hgd : o.guard = none) (x y : Operand) (ho : o.op = .store t x y)
    (g n0 n1 n2 n3 : Nat) (hx : a.eval x = .pointer (some ⟨g, 0, none⟩)) (hy : a.eval y = .agg (rowA [n0, n1, n2, n3])) (hg : RoomQ t w g)
    (h : ∀ w', AtQ t w' g [n0, n1, n2, n3] → Put w w' g → wpList Tryz.prog ops Q rest (a.put o.dst undef) w') : wpList Tryz.prog ops Q (o :: rest) a w := by
  obtain ⟨cs, hs, hc⟩ := hg
  exact wpList_store_row hgd t x y ho g (rowA [n0, n1, n2, n3]) hx hy t cs hc (by rw [rowA_size]; exact hi) (by rw [rowA_size, hs]) (rowA_one _ _ _ _) (h _ (setRow_heap _ _ _ _ _ _ hc) ⟨⟨rfl, rfl, rfl, by simp, fun k _ hk => setRow_other _ _ _ _ (fun e => hk (by rw [e]))⟩, by simp⟩)

theorem ret_quad {t : TypeId} {fs : Array Field} (hu : Tryz.prog.underlying t = some (.struct fs)) (hi : (Tryz.prog.info? t).map (·.size) = some 128) {f : Func} {p : Tmp} (h : f.results = #[.cell p t]) (tmps : Array Value) (w : World) (g n0 n1 n2 n3 : Nat) (hp : tmps.getD p undef = .pointer (some ⟨g, 0, none⟩)) (hg : AtQ t w g [n0, n1, n2, n3]) : (results f tmps).run Tryz.prog w = .ok (.agg (rowA [n0, n1, n2, n3])) w :=
  results_cell_row h tmps w g t (rowA [n0, n1, n2, n3]) (0, 0) _ hp hg hu rfl (by rw [rowA_size]; exact hi)
theorem iQ1 : (Tryz.prog.info? 98).map (·.size) = some 128 := by kernel_rfl
end Go.Proofs.YtjkdonjcngmjeaaGreatDoor
