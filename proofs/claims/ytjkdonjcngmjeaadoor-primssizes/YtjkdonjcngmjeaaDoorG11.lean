/-
  General pieces, joined: SR SX.
-/
import Derived.Test.YtjkdonjcngmjeaaDoorG10
import Derived.Test.YtjkdonjcngmjeaaDoorG06
/-
  Regions that draw their order: a quiet head and a tail that waits for it, one through another; and heads whose values are known by what holds of them alone (fresh slices among them).
-/
namespace Go.Proofs.YtjkdonjcngmjeaaDoor.sh
open Go Go.RowKit
set_option linter.unusedVariables false
set_option linter.unusedSimpArgs false

theorem closed_none (h : List Oper) : Closed h (Array.replicate h.length false) := by
  intro i o ho hl
  exfalso
  rw [Array.getD_eq_getD_getElem?, Array.getElem?_replicate] at hl
  split at hl <;> simp at hl

/-- One walk of the head in the order of the text, then the tail, which waits for all of the head, one through another. -/
theorem wp_region_quiet_under {P : Program} {Q : Exit → Act → World → Prop} {id : Nat} {C : World → Prop} {a : Act} {w : World} (n : Nat) {l : List Oper} (hm : P.follows .mixedOrders = true) (hB : Region.lexB .any (l.take n).toArray = true)
    (hE : edgesIn (l.take n) = true) (hG : guardsIn (l.take n) = true) (hT : tailUnder (l.take n) (l.drop n) = true)
    (hS : Region.seqB .any l.toArray (l.drop n).length (l.take n).length (Array.replicate (l.take n).length true ++ Array.replicate (l.drop n).length false) = true)
    (hC : C { w with drawn := w.drawn + 1 })
    (H : wpQuiet P (l.take n).toArray C (fun a' => ∀ w', C w' → wpList P l.toArray Q (l.drop n) a' w') (l.take n) a) : (Code.region id l.toArray true).wp P Q a w := by
  have e : l.take n ++ l.drop n = l := List.take_append_drop n l
  refine wp_region_any hm ?_
  simp only [Region.lexB, Bool.and_eq_true] at hB
  have h1 := wpAnyQ_lex (P := P) (C := C) (md := .any) hB.1 (l.take n) 0 (Array.replicate (l.take n).length false) a (by simp) (by simpa using hB.2) H
  have h2 := wpAny_of_quiet (Q' := headPost P (l.take n ++ l.drop n).toArray Q (l.drop n)) (fun _ w' hw' hh => by rw [e]; exact hh w' hw') _ _ _ _ hC h1
  have h3 := lift_under (Q := Q) hE hG hT (by rw [e]; exact hS) (l.take n).length (Array.replicate (l.take n).length false) a _ (by simp) (by simp [open_]) (closed_none _) h2
  rw [e] at h3
  have e1 : l.toArray.size = (l.take n).length + (l.drop n).length := by rw [← List.length_append, e]; simp
  rw [e1, show Array.replicate ((l.take n).length + (l.drop n).length) false = Array.replicate (l.take n).length false ++ Array.replicate (l.drop n).length false by simp]
  exact h3

/-- An invariant of what is listed, the frame and the world carries any order. -/
theorem wpAny_inv {P : Program} {Q : Exit → Act → World → Prop} {l : List Oper} (I : Array Bool → Act → World → Prop) (hE : edgesIn l = true)
    (hstep : ∀ listed a w i o, listed.size = l.length → I listed a w → l[i]? = some o → listed.getD i true = false → (∀ e ∈ o.after, Region.binds .any e = true → listed.getD e.on false = true) →
      Region.wanted o (yielded l.toArray a.tmps) = true ∧ o.wp P a w (fun a' w' => I (listed.setIfInBounds i true) a' w') Q)
    (hdone : ∀ a w, I (Array.replicate l.length true) a w → Q .normal a w) :
    ∀ (fuel : Nat) (listed : Array Bool) (a : Act) (w : World), listed.size = l.length → open_ listed = fuel → I listed a w → wpAny P .any l.toArray Q fuel listed a w
  | 0, listed, a, w, hs, ho, hI => by
    have ha := all_true ho
    rw [hs] at ha
    refine ⟨?_, hdone a w (by rw [← ha]; exact hI)⟩
    rw [List.eq_nil_iff_forall_not_mem]
    intro j hj
    obtain ⟨h1, o, h2, _⟩ := mem_ready.1 hj
    have hl : j < l.length := by
      have := (Array.getElem?_eq_some_iff.1 h2).1
      simpa using this
    rw [ha] at h1
    simp [hl] at h1
  | f + 1, listed, a, w, hs, ho, hI => by
    refine ⟨fun hr => ?_, fun i hi => ?_⟩
    · obtain ⟨i, h1, h2⟩ := least_open (listed := listed) (by omega)
      have hil : i < l.length := by
        rcases Nat.lt_or_ge i l.length with h' | h'
        · exact h'
        · have : listed.size ≤ i := by omega
          simp [Array.getElem?_eq_none this] at h1
      have hm : i ∈ Region.ready .any l.toArray listed := mem_ready.2 ⟨h1, l[i], by simp [hil], fun e he hb => h2 _ (edge_lt hE (List.getElem?_eq_getElem hil) he hb)⟩
      rw [hr] at hm
      cases hm
    · obtain ⟨h1, o, h2, h3⟩ := mem_ready.1 hi
      have h2' : l[i]? = some o := by simpa using h2
      obtain ⟨hw, hwp⟩ := hstep listed a w i o hs hI h2' h1 h3
      unfold wpOp
      simp only [h2, hw, if_true]
      left
      refine Oper.wp_mono (fun a' w' h => ?_) hwp
      exact wpAny_inv I hE hstep hdone f _ a' w' (by simpa using hs) (by have := open_set h1; omega) h

structure Fr (h : List Oper) (A0 a : Act) : Prop where
  size : a.tmps.size = A0.tmps.size
  defers : a.defers = A0.defers
  out : ∀ d, (∀ (i : Nat) (o : Oper), h[i]? = some o → o.dst ≠ some d) → a.tmps[d]? = A0.tmps[d]?

/-- What the operation waits for is there, and what is asked of it holds. -/
def Got (h : List Oper) (R : Nat → Value → World → Prop) (a : Act) (w : World) (o : Oper) : Prop := ∀ e ∈ o.after, Region.binds .any e = true → ∀ (o' : Oper) (d : Nat), h[e.on]? = some o' → o'.dst = some d → ∃ v, a.tmps[d]? = some v ∧ R d v w

/-- What is asked of each operation. -/
def RelOk (P : Program) (h : List Oper) (A0 : Act) (W0 : World) (R : Nat → Value → World → Prop) (o : Oper) : Prop := ∃ d, o.dst = some d ∧ ∀ a w, Fr h A0 a → Below W0.heap.size W0 w → Got h R a w o →
  Region.wanted o (yielded h.toArray a.tmps) = true ∧ o.wp P a w (fun a' w' => ∃ v, a' = a.put (some d) v ∧ R d v w' ∧ Below w.heap.size w w') (fun _ _ _ => False)
def RelAll (P : Program) (h : List Oper) (A0 : Act) (W0 : World) (R : Nat → Value → World → Prop) : List Oper → Prop
  | [] => True
  | o :: r => RelOk P h A0 W0 R o ∧ RelAll P h A0 W0 R r
theorem relAll_mem {P : Program} {h : List Oper} {A0 : Act} {W0 : World} {R : Nat → Value → World → Prop} : ∀ (r : List Oper), RelAll P h A0 W0 R r → ∀ o ∈ r, RelOk P h A0 W0 R o
  | [], _, o, ho => by cases ho
  | x :: r, hr, o, ho => by
    rcases List.mem_cons.1 ho with h1 | h1
    · rw [h1]; exact hr.1
    · exact relAll_mem r hr.2 o h1

theorem wp_false {P : Program} {o : Oper} {a : Act} {w : World} {K K' : Act → World → Prop} {Q : Exit → Act → World → Prop} (hK : ∀ a w, K a w → K' a w) (h : o.wp P a w K (fun _ _ _ => False)) : o.wp P a w K' Q := by
  unfold Oper.wp at *
  generalize (execOp a.eval o).run P w = r at *
  cases r with
  | ok x w' =>
    cases x with
    | value v => exact hK _ _ h
    | skip => exact hK _ _ h
    | defer d => exact hK _ _ h
    | enter f args =>
      refine Calls.mono h ?_
      intro e w'' hr
      cases e with
      | returned v => exact hK _ _ hr
      | panicked c => exact hr.elim
      | outgrown => obtain ⟨_, _, h⟩ := hr; exact h.elim
    | row r args => exact Rows.mono h fun v w'' hr => hK _ _ hr
    | _ => exact h.elim
  | halt x w' =>
    cases x <;> exact h.elim

def putR (a : Act) (vals : List (Nat × Value)) : Act := vals.foldl (fun a p => a.put (some p.1) p.2) a
theorem putR_size : ∀ (vals : List (Nat × Value)) (a : Act), (putR a vals).tmps.size = a.tmps.size
  | [], a => rfl
  | p :: r, a => by show (putR (a.put (some p.1) p.2) r).tmps.size = _; rw [putR_size r, size_put]
theorem putR_defers : ∀ (vals : List (Nat × Value)) (a : Act), (putR a vals).defers = a.defers
  | [], a => rfl
  | p :: r, a => by show (putR (a.put (some p.1) p.2) r).defers = _; rw [putR_defers r]; rfl
theorem putR_get (f : Nat → Value) (d : Nat) : ∀ (ds : List Nat) (a : Act), d < a.tmps.size → (putR a (ds.map fun d => (d, f d))).tmps[d]? = if d ∈ ds then some (f d) else a.tmps[d]?
  | [], a, _ => by simp [putR]
  | x :: r, a, h => by
    show (putR (a.put (some x) (f x)) (r.map fun d => (d, f d))).tmps[d]? = _
    rw [putR_get f d r _ (by rw [size_put]; exact h)]
    by_cases h1 : d ∈ r
    · rw [if_pos h1, if_pos (List.mem_cons_of_mem _ h1)]
    · rw [if_neg h1]
      by_cases h2 : d = x
      · subst h2
        rw [if_pos List.mem_cons_self]
        simp [Act.put, h]
      · rw [if_neg (by simp [h1, h2])]
        simp [Act.put, Array.getElem?_setIfInBounds_ne (Ne.symm h2)]
theorem act_eq {a b : Act} (h1 : a.tmps = b.tmps) (h2 : a.defers = b.defers) : a = b := by cases a; cases b; simp_all

def dstsOf (h : List Oper) : List Nat := h.filterMap (·.dst)

/-- A region that draws its order, whose first n operations each make a value of which something holds, and whose last ones wait for all of those. -/
theorem region_rel {P : Program} {Q : Exit → Act → World → Prop} {id : Nat} {a : Act} {w : World} (W0 : World) (n : Nat) {l : List Oper} (R : Nat → Value → World → Prop) (ds : List Nat) (hm : P.follows .mixedOrders = true)
    (hE : edgesIn (l.take n) = true) (hG : guardsIn (l.take n) = true) (hA : dstsApart (l.take n) 0 = true) (hI : dstsIn (l.take n) a.tmps.size = true) (hT : tailUnder (l.take n) (l.drop n) = true)
    (hS : Region.seqB .any l.toArray (l.drop n).length (l.take n).length (Array.replicate (l.take n).length true ++ Array.replicate (l.drop n).length false) = true)
    (hds : dstsOf (l.take n) = ds) (hst : ∀ d v w w', R d v w → Below W0.heap.size W0 w → Below w.heap.size w w' → R d v w') (hw : Below W0.heap.size W0 w)
    (hok : RelAll P (l.take n) a W0 R (l.take n))
    (hfin : ∀ (f : Nat → Value) w', (∀ d ∈ ds, R d (f d) w') → Below W0.heap.size W0 w' → wpList P l.toArray Q (l.drop n) (putR a (ds.map fun d => (d, f d))) w') : (Code.region id l.toArray true).wp P Q a w := by
  have e : l.take n ++ l.drop n = l := List.take_append_drop n l
  refine wp_region_any hm ?_
  generalize hh : l.take n = h at *
  have main := wpAny_inv (P := P) (l := h) (Q := headPost P (h ++ l.drop n).toArray Q (l.drop n))
    (fun listed a' w' => Fr h a a' ∧ Below W0.heap.size W0 w' ∧ ∀ i o d, h[i]? = some o → listed.getD i false = true → o.dst = some d → ∃ v, a'.tmps[d]? = some v ∧ R d v w') hE
    (by
      intro listed a' w' i o hls hI' ho hun hall
      obtain ⟨hF, hB, hV⟩ := hI'
      have hil : i < listed.size := by rw [hls]; exact (List.getElem?_eq_some_iff.1 ho).1
      obtain ⟨d, hd, hrun⟩ := relAll_mem h hok o (List.mem_of_getElem? ho)
      obtain ⟨hwant, hwp⟩ := hrun a' w' hF hB (fun x hx hb o' d' ho' hd' => hV x.on o' d' ho' (hall x hx hb) hd')
      refine ⟨hwant, wp_false ?_ hwp⟩
      rintro a2 w2 ⟨v, rfl, hR, hb⟩
      have hdl : d < a'.tmps.size := by
        have := List.all_eq_true.1 hI o (List.mem_of_getElem? ho)
        rw [hd] at this
        rw [hF.size]
        simpa using this
      have hother : ∀ d', d' ≠ d → (a'.put (some d) v).tmps[d']? = a'.tmps[d']? := fun d' hne => by simp [Act.put, Array.getElem?_setIfInBounds_ne (Ne.symm hne)]
      refine ⟨⟨by rw [size_put]; exact hF.size, hF.defers, fun d' h' => ?_⟩, hB.trans (hb.mono hB.size), fun k o' d' hk hon hd' => ?_⟩
      · rw [hother d' (fun e2 => h' i o ho (by rw [hd, e2]))]
        exact hF.out d' h'
      · by_cases hki : i = k
        · subst hki
          rw [ho] at hk
          cases hk
          rw [hd] at hd'
          cases hd'
          exact ⟨v, by simp [Act.put, hdl], hR⟩
        · rw [getD_set_ne false hki] at hon
          obtain ⟨v', h1, h2⟩ := hV k o' d' hk hon hd'
          have hne : d' ≠ d := fun e2 => dst_ne hA ho hk hki hd (by rw [hd', e2])
          exact ⟨v', by rw [hother d' hne]; exact h1, hst d' v' w' w2 h2 hB hb⟩)
    (by
      intro a' w' hI'
      obtain ⟨hF, hB, hV⟩ := hI'
      have hV' : ∀ d ∈ ds, ∃ v, a'.tmps[d]? = some v ∧ R d v w' := by
        intro d hd
        rw [← hds] at hd
        obtain ⟨o, ho, hd'⟩ := List.mem_filterMap.1 hd
        obtain ⟨i, hi, he⟩ := List.getElem_of_mem ho
        exact hV i o d (by rw [List.getElem?_eq_getElem hi, he]) (by simp [hi]) hd'
      have hfr := hfin (fun d => (a'.tmps[d]?).getD undef) w' (fun d hd => by obtain ⟨v, h1, h2⟩ := hV' d hd; simp [h1, h2]) hB
      have ea : a' = putR a (ds.map fun d => (d, (a'.tmps[d]?).getD undef)) := by
        refine act_eq (Array.ext_getElem? fun d => ?_) (by rw [putR_defers]; exact hF.defers)
        by_cases hdl : d < a.tmps.size
        · rw [putR_get (fun d => (a'.tmps[d]?).getD undef) d ds a hdl]
          by_cases hd : d ∈ ds
          · rw [if_pos hd]
            obtain ⟨v, h1, _⟩ := hV' d hd
            simp [h1]
          · rw [if_neg hd]
            refine hF.out d fun i o ho hd' => hd ?_
            rw [← hds]
            exact List.mem_filterMap.2 ⟨o, List.mem_of_getElem? ho, hd'⟩
        · rw [Array.getElem?_eq_none (by rw [hF.size]; omega), Array.getElem?_eq_none (by rw [putR_size]; omega)]
      rw [← ea] at hfr
      show wpList P (h ++ l.drop n).toArray Q (l.drop n) a' w'
      rw [e]
      exact hfr)
    h.length (Array.replicate h.length false) a { w with drawn := w.drawn + 1 } (by simp) (by simp [open_])
    ⟨⟨rfl, rfl, fun _ _ => rfl⟩, hw.drew, fun i o d ho hon => by
      exfalso
      rw [Array.getD_eq_getD_getElem?, Array.getElem?_replicate] at hon
      split at hon <;> simp at hon⟩
  have h3 := lift_under (Q := Q) hE hG hT (by rw [e]; exact hS) h.length (Array.replicate h.length false) a _ (by simp) (by simp [open_]) (closed_none _) main
  rw [e] at h3
  have e1 : l.toArray.size = h.length + (l.drop n).length := by rw [← List.length_append, e]; simp
  rw [e1, show Array.replicate (h.length + (l.drop n).length) false = Array.replicate h.length false ++ Array.replicate (l.drop n).length false by simp]
  exact h3
end Go.Proofs.YtjkdonjcngmjeaaDoor.sh
/-
  What a round makes of a state.
-/
namespace Go.Proofs.YtjkdonjcngmjeaaDoor.sh
open Go Go.RowKit
set_option linter.unusedVariables false
set_option linter.unusedSimpArgs false

def chN (e f g : Nat) : Nat := (e &&& f) ^^^ ((4294967295 ^^^ e) &&& g)
def majN (a b c : Nat) : Nat := ((a &&& b) ^^^ (a &&& c)) ^^^ (b &&& c)
def tN (e f g h more : Nat) : Nat := (((h + turnN e [6, 11, 25]) % 4294967296 + chN e f g) % 4294967296 + more) % 4294967296
def uN (a b c : Nat) : Nat := (turnN a [2, 13, 22] + majN a b c) % 4294967296
def roundL : List Nat → Nat → List Nat
  | [a, b, c, d, e, f, g, h], more => [(tN e f g h more + uN a b c) % 4294967296, a, b, c, (d + tN e f g h more) % 4294967296, e, f, g]
  | s, _ => s

/-- Nothing changed but block g, and new blocks. -/
def Grew (w w' : World) (g : Nat) : Prop := w.grownBy w' (some g)
theorem Grew.blk {w w' : World} {g k : Nat} {t : TypeId} {A : Array Value} (h : Grew w w' g) (hk : Blk w k t A) (hne : k ≠ g) : Blk w' k t A := (h.block k hk.lt (fun e => by cases e; exact hne rfl)).trans hk
theorem Grew.below {w w' : World} {g B : Nat} (h : Grew w w' g) (hB : B ≤ g) (hs : B ≤ w.heap.size) : Below B w w' := ⟨h.os, h.tape, h.output, h.size, fun k hk => h.block k (by omega) (fun e => by cases e; omega)⟩
theorem Grew.trans {w w' w'' : World} {g : Nat} (h : Grew w w' g) (h' : Grew w' w'' g) : Grew w w'' g := ⟨h'.os.trans h.os, h'.tape.trans h.tape, h'.output.trans h.output, Nat.le_trans h.size h'.size, fun k hk hne => (h'.block k (Nat.lt_of_lt_of_le hk h.size) hne).trans (h.block k hk hne)⟩
theorem grew_of_below {w w' : World} {g : Nat} (h : Below w.heap.size w w') : Grew w w' g := ⟨h.os, h.tape, h.output, h.size, fun k hk _ => h.block k hk⟩

theorem amounts1 (i m : Nat) (h : [6, 11, 25][i]? = some m) : 0 < m ∧ m < 32 := by
  rcases i with _ | _ | _ | i <;> simp at h <;> omega
theorem amounts2 (i m : Nat) (h : [2, 13, 22][i]? = some m) : 0 < m ∧ m < 32 := by
  rcases i with _ | _ | _ | i <;> simp at h <;> omega

theorem neg_run {o : Oper} {a : Act} {x : Operand} {n m : Nat} (ho : o.op = .unOp .xor 45 x) (hx : a.eval x = .int .u32 (n : Int)) (hb : bits .xor .u32 4294967295 (n : Int) = (m : Int)) (w : World) : (execOp a.eval o).run Tryd.prog w = .ok (.value (.int .u32 (m : Int))) w := by
  unfold execOp
  simp only [ho, hx]
  simp [go_sem, IntKind.signed]
  exact hb

set_option maxHeartbeats 1000000 in
theorem round_any (x0 x1 x2 x3 x4 x5 x6 x7 m g : Nat) (w : World) (h0 : x0 < 4294967296) (h1 : x1 < 4294967296) (h2 : x2 < 4294967296) (h4 : x4 < 4294967296) (h5 : x5 < 4294967296) (h6 : x6 < 4294967296) (hm : m < 4294967296) (A0 : Blk w g 47 (ints .u32 [x0, x1, x2, x3, x4, x5, x6, x7])) :
    Calls Tryd.prog 17 #[.pointer (some ⟨g, 0, none⟩), .int .u32 (m : Int)] w fun e w' => Blk w' g 47 (ints .u32 (roundL [x0, x1, x2, x3, x4, x5, x6, x7] m)) ∧ Grew w w' g ∧ e = .returned (.tuple #[]) := by
  have K0 : Kept _ := ⟨h0⟩
  have K4 : Kept _ := ⟨h4⟩
  have c1 : Kept (bits .and .u32 (x4 : Int) (x5 : Int) = ((x4 &&& x5 : Nat) : Int)) := ⟨u32_and_nat _ _ h4 h5⟩
  go_enter Tryd.func17, Tryd.ntmps17
  go_wp2_with fail
  refine wp_region_quiet (C := fun w' => Below w.heap.size w w') (by kernel_rfl) (by kernel_rfl) (Below.drew (Below.refl _ _)) ?_
  refine q_val (by kernel_rfl) (.pointer (some ⟨g, 0, none⟩)) (fun w' => by kernel_rfl) ?_
  simp only [Act.put, List.setIfInBounds_toArray, List.set_cons_succ, List.set_cons_zero]
  refine q_val (by kernel_rfl) (.pointer (some ⟨g, 0, none⟩)) (fun w' => by kernel_rfl) ?_
  simp only [Act.put, List.setIfInBounds_toArray, List.set_cons_succ, List.set_cons_zero]
  refine q_val (by kernel_rfl) (.pointer (some ⟨g, 0, none⟩)) (fun w' => by kernel_rfl) ?_
  simp only [Act.put, List.setIfInBounds_toArray, List.set_cons_succ, List.set_cons_zero]
  refine q_elem (by kernel_rfl) 45 ag_u32 (.tmp 15) rfl (g) 0 (by kernel_rfl) 47 (ints .u32 [x0, x1, x2, x3, x4, x5, x6, x7]) (.int .u32 (x0 : Int)) (fun w' hb => Blk.under A0 hb) rfl ?_
  simp only [Act.put, List.setIfInBounds_toArray, List.set_cons_succ, List.set_cons_zero]
  refine q_val (by kernel_rfl) (.pointer (some ⟨g, 0, none⟩)) (fun w' => by kernel_rfl) ?_
  simp only [Act.put, List.setIfInBounds_toArray, List.set_cons_succ, List.set_cons_zero]
  refine q_val (by kernel_rfl) (.pointer (some ⟨g, 0, none⟩)) (fun w' => by kernel_rfl) ?_
  simp only [Act.put, List.setIfInBounds_toArray, List.set_cons_succ, List.set_cons_zero]
  refine q_val (by kernel_rfl) (.pointer (some ⟨g, 1, none⟩)) (fun w' => by kernel_rfl) ?_
  simp only [Act.put, List.setIfInBounds_toArray, List.set_cons_succ, List.set_cons_zero]
  refine q_elem (by kernel_rfl) 45 ag_u32 (.tmp 19) rfl (g) 1 (by kernel_rfl) 47 (ints .u32 [x0, x1, x2, x3, x4, x5, x6, x7]) (.int .u32 (x1 : Int)) (fun w' hb => Blk.under A0 hb) rfl ?_
  simp only [Act.put, List.setIfInBounds_toArray, List.set_cons_succ, List.set_cons_zero]
  refine q_val (by kernel_rfl) (.pointer (some ⟨g, 0, none⟩)) (fun w' => by kernel_rfl) ?_
  simp only [Act.put, List.setIfInBounds_toArray, List.set_cons_succ, List.set_cons_zero]
  refine q_val (by kernel_rfl) (.pointer (some ⟨g, 0, none⟩)) (fun w' => by kernel_rfl) ?_
  simp only [Act.put, List.setIfInBounds_toArray, List.set_cons_succ, List.set_cons_zero]
  refine q_val (by kernel_rfl) (.pointer (some ⟨g, 2, none⟩)) (fun w' => by kernel_rfl) ?_
  simp only [Act.put, List.setIfInBounds_toArray, List.set_cons_succ, List.set_cons_zero]
  refine q_elem (by kernel_rfl) 45 ag_u32 (.tmp 23) rfl (g) 2 (by kernel_rfl) 47 (ints .u32 [x0, x1, x2, x3, x4, x5, x6, x7]) (.int .u32 (x2 : Int)) (fun w' hb => Blk.under A0 hb) rfl ?_
  simp only [Act.put, List.setIfInBounds_toArray, List.set_cons_succ, List.set_cons_zero]
  refine q_val (by kernel_rfl) (.pointer (some ⟨g, 0, none⟩)) (fun w' => by kernel_rfl) ?_
  simp only [Act.put, List.setIfInBounds_toArray, List.set_cons_succ, List.set_cons_zero]
  refine q_val (by kernel_rfl) (.pointer (some ⟨g, 0, none⟩)) (fun w' => by kernel_rfl) ?_
  simp only [Act.put, List.setIfInBounds_toArray, List.set_cons_succ, List.set_cons_zero]
  refine q_val (by kernel_rfl) (.pointer (some ⟨g, 4, none⟩)) (fun w' => by kernel_rfl) ?_
  simp only [Act.put, List.setIfInBounds_toArray, List.set_cons_succ, List.set_cons_zero]
  refine q_elem (by kernel_rfl) 45 ag_u32 (.tmp 27) rfl (g) 4 (by kernel_rfl) 47 (ints .u32 [x0, x1, x2, x3, x4, x5, x6, x7]) (.int .u32 (x4 : Int)) (fun w' hb => Blk.under A0 hb) rfl ?_
  simp only [Act.put, List.setIfInBounds_toArray, List.set_cons_succ, List.set_cons_zero]
  refine q_val (by kernel_rfl) (.pointer (some ⟨g, 0, none⟩)) (fun w' => by kernel_rfl) ?_
  simp only [Act.put, List.setIfInBounds_toArray, List.set_cons_succ, List.set_cons_zero]
  refine q_val (by kernel_rfl) (.pointer (some ⟨g, 0, none⟩)) (fun w' => by kernel_rfl) ?_
  simp only [Act.put, List.setIfInBounds_toArray, List.set_cons_succ, List.set_cons_zero]
  refine q_val (by kernel_rfl) (.pointer (some ⟨g, 5, none⟩)) (fun w' => by kernel_rfl) ?_
  simp only [Act.put, List.setIfInBounds_toArray, List.set_cons_succ, List.set_cons_zero]
  refine q_elem (by kernel_rfl) 45 ag_u32 (.tmp 31) rfl (g) 5 (by kernel_rfl) 47 (ints .u32 [x0, x1, x2, x3, x4, x5, x6, x7]) (.int .u32 (x5 : Int)) (fun w' hb => Blk.under A0 hb) rfl ?_
  simp only [Act.put, List.setIfInBounds_toArray, List.set_cons_succ, List.set_cons_zero]
  refine q_val (by kernel_rfl) (.pointer (some ⟨g, 0, none⟩)) (fun w' => by kernel_rfl) ?_
  simp only [Act.put, List.setIfInBounds_toArray, List.set_cons_succ, List.set_cons_zero]
  refine q_val (by kernel_rfl) (.pointer (some ⟨g, 0, none⟩)) (fun w' => by kernel_rfl) ?_
  simp only [Act.put, List.setIfInBounds_toArray, List.set_cons_succ, List.set_cons_zero]
  refine q_val (by kernel_rfl) (.pointer (some ⟨g, 6, none⟩)) (fun w' => by kernel_rfl) ?_
  simp only [Act.put, List.setIfInBounds_toArray, List.set_cons_succ, List.set_cons_zero]
  refine q_elem (by kernel_rfl) 45 ag_u32 (.tmp 35) rfl (g) 6 (by kernel_rfl) 47 (ints .u32 [x0, x1, x2, x3, x4, x5, x6, x7]) (.int .u32 (x6 : Int)) (fun w' hb => Blk.under A0 hb) rfl ?_
  simp only [Act.put, List.setIfInBounds_toArray, List.set_cons_succ, List.set_cons_zero]
  refine q_val (by kernel_rfl) (.pointer (some ⟨g, 0, none⟩)) (fun w' => by kernel_rfl) ?_
  simp only [Act.put, List.setIfInBounds_toArray, List.set_cons_succ, List.set_cons_zero]
  refine q_val (by kernel_rfl) (.pointer (some ⟨g, 0, none⟩)) (fun w' => by kernel_rfl) ?_
  simp only [Act.put, List.setIfInBounds_toArray, List.set_cons_succ, List.set_cons_zero]
  refine q_val (by kernel_rfl) (.pointer (some ⟨g, 7, none⟩)) (fun w' => by kernel_rfl) ?_
  simp only [Act.put, List.setIfInBounds_toArray, List.set_cons_succ, List.set_cons_zero]
  refine q_elem (by kernel_rfl) 45 ag_u32 (.tmp 39) rfl (g) 7 (by kernel_rfl) 47 (ints .u32 [x0, x1, x2, x3, x4, x5, x6, x7]) (.int .u32 (x7 : Int)) (fun w' hb => Blk.under A0 hb) rfl ?_
  simp only [Act.put, List.setIfInBounds_toArray, List.set_cons_succ, List.set_cons_zero]
  refine q_val (by kernel_rfl) (.int .u32 (x0 : Int)) (fun w' => by kernel_rfl) ?_
  simp only [Act.put, List.setIfInBounds_toArray, List.set_cons_succ, List.set_cons_zero]
  refine q_val (by kernel_rfl) (.int .u32 (x1 : Int)) (fun w' => by kernel_rfl) ?_
  simp only [Act.put, List.setIfInBounds_toArray, List.set_cons_succ, List.set_cons_zero]
  refine q_val (by kernel_rfl) (.int .u32 (x2 : Int)) (fun w' => by kernel_rfl) ?_
  simp only [Act.put, List.setIfInBounds_toArray, List.set_cons_succ, List.set_cons_zero]
  refine q_val (by kernel_rfl) (.int .u32 (x4 : Int)) (fun w' => by kernel_rfl) ?_
  simp only [Act.put, List.setIfInBounds_toArray, List.set_cons_succ, List.set_cons_zero]
  refine q_val (by kernel_rfl) (.int .u32 (x5 : Int)) (fun w' => by kernel_rfl) ?_
  simp only [Act.put, List.setIfInBounds_toArray, List.set_cons_succ, List.set_cons_zero]
  refine q_val (by kernel_rfl) (.int .u32 (x6 : Int)) (fun w' => by kernel_rfl) ?_
  simp only [Act.put, List.setIfInBounds_toArray, List.set_cons_succ, List.set_cons_zero]
  refine q_val (by kernel_rfl) (.int .u32 (x7 : Int)) (fun w' => by kernel_rfl) ?_
  simp only [Act.put, List.setIfInBounds_toArray, List.set_cons_succ, List.set_cons_zero]
  refine wpQuiet_nil ?_
  intro w1 hb1
  have A1 := A0.under hb1
  have G1 : Grew w w1 g := grew_of_below hb1
  clear A0 hb1
  go_wp2_with fail
  obtain ⟨s1, hs1⟩ : ∃ s1, s1 = turnN x4 [6, 11, 25] := ⟨_, rfl⟩
  obtain ⟨s2, hs2⟩ : ∃ s2, s2 = turnN x0 [2, 13, 22] := ⟨_, rfl⟩
  have E1 : Kept _ := ⟨hs1⟩
  have E2 : Kept _ := ⟨hs2⟩
  have hc := turned_any x4 [6, 11, 25] w1.heap.size 3 3 (w1.alloc (.cells (ints .i64 [6, 11, 25]) 3)) h4 amounts1 (blk_new w1 3 _) (by decide)
  rw [← hs1] at hc
  refine hc.mono ?_
  clear hc hs1 hs2
  rintro e w2 ⟨rfl, hw2⟩
  have A2 : Blk w2 g 47 (ints .u32 [x0, x1, x2, x3, x4, x5, x6, x7]) := by rw [hw2]; exact A1.alloc _
  have G2 : Grew w w2 g := G1.trans (by rw [hw2]; exact World.grownBy_alloc _ _ _)
  clear hw2 A1 G1
  have b1 : bits .and .u32 (x4 : Int) (x5 : Int) = ((x4 &&& x5 : Nat) : Int) := u32_and_nat _ _ h4 h5
  have b2 : bits .xor .u32 4294967295 (x4 : Int) = ((4294967295 ^^^ x4 : Nat) : Int) := u32_xor_nat 4294967295 x4 (by decide) h4
  obtain ⟨n4, hn4⟩ : ∃ n4, n4 = 4294967295 ^^^ x4 := ⟨_, rfl⟩
  rw [← hn4] at b2
  have l1 : x4 &&& x5 < 4294967296 := Nat.and_lt_two_pow (n := 32) _ h5
  have l2 : n4 < 4294967296 := by rw [hn4]; exact Nat.xor_lt_two_pow (n := 32) (by decide) h4
  have l3 : n4 &&& x6 < 4294967296 := Nat.and_lt_two_pow (n := 32) _ h6
  have b3 : bits .and .u32 (n4 : Int) (x6 : Int) = ((n4 &&& x6 : Nat) : Int) := u32_and_nat _ _ l2 h6
  have b4 : bits .xor .u32 ((x4 &&& x5 : Nat) : Int) ((n4 &&& x6 : Nat) : Int) = ((chN x4 x5 x6 : Nat) : Int) := by rw [u32_xor_nat _ _ l1 l3, hn4]; rfl
  clear l1 l2 l3 hn4
  obtain ⟨t, ht⟩ : ∃ t, t = tN x4 x5 x6 x7 m := ⟨_, rfl⟩
  obtain ⟨c, hc⟩ : ∃ c, c = chN x4 x5 x6 := ⟨_, rfl⟩
  rw [← hc] at b4
  have et : ((x7 : Int) + s1 + c + m) % 4294967296 = (t : Int) := by
    rw [ht]; unfold tN; rw [← E1.out, ← hc]; omega
  have ET : Kept _ := ⟨ht⟩
  have ET2 : Kept _ := ⟨et⟩
  clear ht hc
  go_wp2_with (first | (refine wl_at (d := 50) rfl rfl (.int .u32 (n4 : Int)) ?h1 ?_; (case h1 => exact neg_run rfl rfl b2 _); simp only [Act.put, List.setIfInBounds_toArray, List.set_cons_succ, List.set_cons_zero]))
  have hc := turned_any x0 [2, 13, 22] w2.heap.size 3 3 (w2.alloc (.cells (ints .i64 [2, 13, 22]) 3)) h0 amounts2 (blk_new w2 3 _) (by decide)
  rw [← E2.out] at hc
  refine hc.mono ?_
  clear hc b1 b2 b3 b4 et
  rintro e w3 ⟨rfl, hw3⟩
  have A3 : Blk w3 g 47 (ints .u32 [x0, x1, x2, x3, x4, x5, x6, x7]) := by rw [hw3]; exact A2.alloc _
  have G3 : Grew w w3 g := G2.trans (by rw [hw3]; exact World.grownBy_alloc _ _ _)
  clear hw3 A2 G2
  have b1 : bits .and .u32 (x0 : Int) (x1 : Int) = ((x0 &&& x1 : Nat) : Int) := u32_and_nat _ _ h0 h1
  have b2 : bits .and .u32 (x0 : Int) (x2 : Int) = ((x0 &&& x2 : Nat) : Int) := u32_and_nat _ _ h0 h2
  have b3 : bits .and .u32 (x1 : Int) (x2 : Int) = ((x1 &&& x2 : Nat) : Int) := u32_and_nat _ _ h1 h2
  have l1 : x0 &&& x1 < 4294967296 := Nat.and_lt_two_pow (n := 32) _ h1
  have l2 : x0 &&& x2 < 4294967296 := Nat.and_lt_two_pow (n := 32) _ h2
  have l3 : x1 &&& x2 < 4294967296 := Nat.and_lt_two_pow (n := 32) _ h2
  have b4 : bits .xor .u32 ((x0 &&& x1 : Nat) : Int) ((x0 &&& x2 : Nat) : Int) = (((x0 &&& x1) ^^^ (x0 &&& x2) : Nat) : Int) := u32_xor_nat _ _ l1 l2
  have b5 : bits .xor .u32 (((x0 &&& x1) ^^^ (x0 &&& x2) : Nat) : Int) ((x1 &&& x2 : Nat) : Int) = ((majN x0 x1 x2 : Nat) : Int) := u32_xor_nat _ _ (Nat.xor_lt_two_pow (n := 32) l1 l2) l3
  obtain ⟨u, hu⟩ : ∃ u, u = uN x0 x1 x2 := ⟨_, rfl⟩
  obtain ⟨c, hc⟩ : ∃ c, c = majN x0 x1 x2 := ⟨_, rfl⟩
  rw [← hc] at b5
  have eu : ((s2 : Int) + c) % 4294967296 = (u : Int) := by
    rw [hu]; unfold uN; rw [← E2.out, ← hc]; omega
  have EU : Kept _ := ⟨hu⟩
  clear hu hc l1 l2 l3
  go_wp2_with fail
  rw [eu, ET2.out]
  clear b1 b2 b3 b4 b5 eu ET2
  refine wp_region_quiet_under (C := fun w' => Below w3.heap.size w3 w') 6 rfl (by kernel_rfl) (by kernel_rfl) (by kernel_rfl) (by kernel_rfl) (by kernel_rfl) (Below.drew (Below.refl _ _)) ?_
  dsimp only [List.take_succ_cons, List.take_zero]
  refine q_val (by kernel_rfl) (.pointer (some ⟨g, 0, none⟩)) (fun w' => by kernel_rfl) ?_
  simp only [Act.put, List.setIfInBounds_toArray, List.set_cons_succ, List.set_cons_zero]
  refine q_val (by kernel_rfl) (.pointer (some ⟨g, 0, none⟩)) (fun w' => by kernel_rfl) ?_
  simp only [Act.put, List.setIfInBounds_toArray, List.set_cons_succ, List.set_cons_zero]
  refine q_val (by kernel_rfl) (.slice (some ⟨g, 1, none⟩) 7 7) (fun w' => by kernel_rfl) ?_
  simp only [Act.put, List.setIfInBounds_toArray, List.set_cons_succ, List.set_cons_zero]
  refine q_val (by kernel_rfl) (.pointer (some ⟨g, 0, none⟩)) (fun w' => by kernel_rfl) ?_
  simp only [Act.put, List.setIfInBounds_toArray, List.set_cons_succ, List.set_cons_zero]
  refine q_val (by kernel_rfl) (.pointer (some ⟨g, 0, none⟩)) (fun w' => by kernel_rfl) ?_
  simp only [Act.put, List.setIfInBounds_toArray, List.set_cons_succ, List.set_cons_zero]
  refine q_val (by kernel_rfl) (.slice (some ⟨g, 0, none⟩) 7 8) (fun w' => by kernel_rfl) ?_
  simp only [Act.put, List.setIfInBounds_toArray, List.set_cons_succ, List.set_cons_zero]
  refine wpQuiet_nil ?_
  intro w4 hb4
  have A3' := A3.under hb4
  have G3' : Grew w w4 g := G3.trans (grew_of_below hb4)
  clear A3 G3 hb4
  refine wl_copy rfl (.tmp 74) (.tmp 77) 58 58 rfl 45 Tryd.underlying58 (by kernel_rfl) g 1 7 7 ⟨g, 0, none⟩ 7 8 (by kernel_rfl) (by kernel_rfl) _ A3' (ints .u32 [x0, x1, x2, x3, x4, x5, x6]).toList rfl ?hsrc (by simp [ints]) ?hone ?_
  case hsrc =>
    intro j v hv
    have hj : j < 7 := (List.getElem?_eq_some_iff.1 hv).1
    rw [show (⟨g, 0, none⟩ : Addr).add j = ⟨g, j, none⟩ from by rw [addr_add, Nat.zero_add]]
    refine A3'.cell ?_
    rw [← hv]
    rcases j with _ | _ | _ | _ | _ | _ | _ | j
    all_goals first | rfl | omega
  case hone =>
    intro v hv
    simp [ints] at hv
    rcases hv with rfl | rfl | rfl | rfl | rfl | rfl | rfl <;> rfl
  intro w5 A4 P4
  have A4 : Blk w5 g 47 (ints .u32 [x0, x0, x1, x2, x3, x4, x5, x6]) := A4
  have G4 : Grew w w5 g := G3'.trans P4.grown
  clear A3' G3' P4
  go_wp2_with fail
  obtain ⟨z, hz⟩ : ∃ z, z = (x3 + t) % 4294967296 := ⟨_, rfl⟩
  have EZ : Kept _ := ⟨hz⟩
  refine wp_region_quiet_under (C := fun w' => Below w5.heap.size w5 w') 8 rfl (by kernel_rfl) (by kernel_rfl) (by kernel_rfl) (by kernel_rfl) (by kernel_rfl) (Below.drew (Below.refl _ _)) ?_
  dsimp only [List.take_succ_cons, List.take_zero]
  refine q_val (by kernel_rfl) (.pointer (some ⟨g, 0, none⟩)) (fun w' => by kernel_rfl) ?_
  simp only [Act.put, List.setIfInBounds_toArray, List.set_cons_succ, List.set_cons_zero]
  refine q_val (by kernel_rfl) (.pointer (some ⟨g, 0, none⟩)) (fun w' => by kernel_rfl) ?_
  simp only [Act.put, List.setIfInBounds_toArray, List.set_cons_succ, List.set_cons_zero]
  refine q_val (by kernel_rfl) (.pointer (some ⟨g, 4, none⟩)) (fun w' => by kernel_rfl) ?_
  simp only [Act.put, List.setIfInBounds_toArray, List.set_cons_succ, List.set_cons_zero]
  refine q_elem (by kernel_rfl) 45 ag_u32 (.tmp 81) rfl (g) 4 (by kernel_rfl) 47 (ints .u32 [x0, x0, x1, x2, x3, x4, x5, x6]) (.int .u32 (x3 : Int)) (fun w' hb => Blk.under A4 hb) rfl ?_
  simp only [Act.put, List.setIfInBounds_toArray, List.set_cons_succ, List.set_cons_zero]
  refine q_val (by kernel_rfl) (.int .u32 (t : Int)) (fun w' => by kernel_rfl) ?_
  simp only [Act.put, List.setIfInBounds_toArray, List.set_cons_succ, List.set_cons_zero]
  refine q_val (by kernel_rfl) (.int .u32 (z : Int)) (fun w' => ?ad) ?_
  case ad =>
    simp [execOp, Act.eval, go_sem, IntKind.wrap_u32']
    omega
  simp only [Act.put, List.setIfInBounds_toArray, List.set_cons_succ, List.set_cons_zero]
  refine q_val (by kernel_rfl) (.pointer (some ⟨g, 0, none⟩)) (fun w' => by kernel_rfl) ?_
  simp only [Act.put, List.setIfInBounds_toArray, List.set_cons_succ, List.set_cons_zero]
  refine q_val (by kernel_rfl) (.pointer (some ⟨g, 4, none⟩)) (fun w' => by kernel_rfl) ?_
  simp only [Act.put, List.setIfInBounds_toArray, List.set_cons_succ, List.set_cons_zero]
  refine wpQuiet_nil ?_
  intro w6 hb6
  have A4' := A4.under hb6
  have G4' : Grew w w6 g := G4.trans (grew_of_below hb6)
  clear A4 G4 hb6
  refine wl_setElem rfl 45 sz_u32 (.tmp 86) (.tmp 84) rfl g 4 .u32 (z : Int) (by kernel_rfl) (by kernel_rfl) _ A4' (by simp [ints]) ?_
  intro w7 A5 P5
  rw [ints_set] at A5
  have G5 : Grew w w7 g := G4'.trans P5.grown
  clear A4' G4' P5 hz
  obtain ⟨y, hy⟩ : ∃ y, y = (t + u) % 4294967296 := ⟨_, rfl⟩
  have ey : ((t : Int) + u) % 4294967296 = (y : Int) := by rw [hy]; omega
  have EY : Kept _ := ⟨hy⟩
  clear hy
  go_wp2_with (first | (refine wl_setElem rfl 45 sz_u32 (.tmp 92) (.tmp 90) rfl g 0 .u32 (((t : Int) + u) % 4294967296) rfl rfl _ A5 (by simp [ints]) ?_))
  intro w8 A6 P6
  rw [ints_set] at A6
  have A6 : Blk w8 g 47 (ints .u32 [y, x0, x1, x2, z, x4, x5, x6]) := A6
  have G6 : Grew w w8 g := G5.trans P6.grown
  clear A5 G5 P6
  go_wp2_with fail
  refine bodyPost_end (results_none Tryd.results17 _ _ _) rfl ?_
  refine ⟨?_, G6, rfl⟩
  rw [EY.out, EZ.out, ET.out, EU.out] at A6
  exact A6
end Go.Proofs.YtjkdonjcngmjeaaDoor.sh
