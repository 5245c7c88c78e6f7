/-
  General pieces, joined: Tail Vals Q SB ST SP Alloc Free SR SX SS SO SY SZ Part SD SW SF SG SH.
-/
import Derived.Deep.Quiet
import Derived.StillTail
import Derived.Tactics
import Derived.WalkKit
import Derived.Laws.BitsAllLaws
import Derived.Laws.Rows
import Derived.Laws.StructEq
import Derived.BigQuiet
import Derived.Test.YtniogaimhkcedaaDoorRows
import Derived.WalkSpells
import Derived.WalkLawsBesides
import Derived.Laws.CopyRow
import Derived.Laws.CopyOwn
import Derived.Great.BuildSlice
import Derived.RegionTactic
import Derived.BigRegion
import Derived.Deep.QuietTactic
import Derived.Deep.LoopGhost
import Derived.Below
import Derived.Deep.MidRow
import Derived.Laws.MakeOwn
import Derived.Deep.AppendLies
/-
  A region that draws its order, whose first operations only read, or call what makes memory alone, and whose last ones each wait for all of those: one walk, in the order of the text, serves every order. Conditions: the Bools that are named in it.
-/
namespace Go.Proofs.YtniogaimhkcedaaDoor
open Go
set_option linter.unusedVariables false
set_option linter.unusedSimpArgs false

/-- The post of the head: behind it the tail is walked. -/
def headPost (P : Program) (F : Array Oper) (Q : Exit → Act → World → Prop) (t : List Oper) : Exit → Act → World → Prop
  | .normal, a, w => wpList P F Q t a w
  | e, a, w => Q e a w

theorem upon_headPost {P : Program} {F : Array Oper} {Q : Exit → Act → World → Prop} {t : List Oper} {o : Oper} {a : Act} {w : World} {K K' : Act → World → Prop} (hK : ∀ a w, K a w → K' a w)
    (h : o.wp P a w K (headPost P F Q t)) : o.wp P a w K' Q := by
  unfold Oper.wp at *
  generalize (execOp a.eval o).run P w = r at *
  cases r with
  | ok x w' =>
    cases x with
    | value v => exact hK _ _ h
    | skip => exact hK _ _ h
    | defer d => exact hK _ _ h
    | enter f args =>
      refine Calls.mono h ?_
      intro e w'' hr
      cases e with
      | returned v => exact hK _ _ hr
      | panicked c => exact hr
      | outgrown => exact hr
    | row r args => exact Rows.mono h fun v w'' hr => hK _ _ hr
    | _ => exact h
  | halt x w' =>
    cases x <;> exact h

def edgesIn (h : List Oper) : Bool := h.zipIdx.all fun (o, i) => o.after.all fun e => !Region.binds .any e || decide (e.on < i)
def guardsIn (h : List Oper) : Bool := h.all fun o => match o.guard with | none => true | some (j, _) => decide (j < h.length)
section
variable {P : Program} {Q : Exit → Act → World → Prop} {h t : List Oper}

theorem edge_lt (hb : edgesIn h = true) {i : Nat} {o : Oper} (ho : h[i]? = some o) {e : Edge} (he : e ∈ o.after) (hbind : Region.binds .any e = true) : e.on < i := by
  have hm : (o, i) ∈ h.zipIdx := by rw [List.mem_zipIdx_iff_getElem?]; exact ho
  have h1 := List.all_eq_true.1 hb _ hm
  have h2 := Array.all_eq_true_iff_forall_mem.1 h1 e he
  simpa [hbind] using h2

theorem wanted_head (hg : guardsIn h = true) {o : Oper} (ho : o ∈ h) (tmps : Array Value) : Region.wanted o (yielded (h ++ t).toArray tmps) = Region.wanted o (yielded h.toArray tmps) := by
  have h1 := List.all_eq_true.1 hg _ ho
  unfold Region.wanted
  cases hq : o.guard with
  | none => rfl
  | some jb =>
    obtain ⟨j, b⟩ := jb
    rw [hq] at h1
    have hj : j < h.length := by simpa using h1
    have e : (h ++ t).toArray[j]? = h.toArray[j]? := by simp [List.getElem?_append_left hj]
    simp only [yielded, e]

theorem getD_app {listed : Array Bool} {m j : Nat} (d : Bool) (hj : j < listed.size) : (listed ++ Array.replicate m false).getD j d = listed.getD j d := by
  simp [Array.getElem?_append_left hj]

theorem set_app {listed : Array Bool} {m i : Nat} (hi : i < listed.size) : (listed ++ Array.replicate m false).setIfInBounds i true = listed.setIfInBounds i true ++ Array.replicate m false := by
  apply Array.ext_getElem?
  intro k
  by_cases hk : k < listed.size
  · have e1 : (listed ++ Array.replicate m false)[k]? = listed[k]? := Array.getElem?_append_left hk
    have e2 : (listed.setIfInBounds i true ++ Array.replicate m false)[k]? = (listed.setIfInBounds i true)[k]? := Array.getElem?_append_left (by simpa using hk)
    rw [e2, Array.getElem?_setIfInBounds, Array.getElem?_setIfInBounds, e1]
    by_cases hik : i = k
    · subst hik
      rw [if_pos rfl, if_pos rfl, if_pos hk, if_pos (by simp; omega)]
    · rw [if_neg hik, if_neg hik]
  · have e1 : (listed ++ Array.replicate m false)[k]? = (Array.replicate m false)[k - listed.size]? := Array.getElem?_append_right (by omega)
    have e2 : (listed.setIfInBounds i true ++ Array.replicate m false)[k]? = (Array.replicate m false)[k - listed.size]? := by
      rw [Array.getElem?_append_right (by simp; omega)]
      simp
    rw [e2, Array.getElem?_setIfInBounds, if_neg (by omega), e1]

/-- How many are not listed yet. -/
def open_ (listed : Array Bool) : Nat := listed.toList.count false

theorem all_true {listed : Array Bool} (h0 : open_ listed = 0) : listed = Array.replicate listed.size true := by
  apply Array.ext_getElem?
  intro k
  by_cases hk : k < listed.size
  · rw [Array.getElem?_eq_getElem hk, Array.getElem?_replicate, if_pos hk]
    have : ∀ b ∈ listed.toList, b ≠ false := by
      intro b hb hf
      subst hf
      have := List.count_pos_iff.2 hb
      unfold open_ at h0
      omega
    have h1 := this listed[k] (by simp)
    cases hq : listed[k] with
    | true => rfl
    | false => exact absurd hq h1
  · rw [Array.getElem?_eq_none (by omega), Array.getElem?_replicate, if_neg hk]

theorem open_set {listed : Array Bool} {i : Nat} (hi : listed.getD i true = false) : open_ (listed.setIfInBounds i true) + 1 = open_ listed := by
  have hlt : i < listed.size := by
    rcases Nat.lt_or_ge i listed.size with h' | h'
    · exact h'
    · simp [Array.getElem?_eq_none h'] at hi
  have hv : listed.toList[i]'(by simpa using hlt) = false := by simpa [hlt] using hi
  unfold open_
  rw [Array.toList_setIfInBounds]
  have hc := List.count_set (a := true) (b := false) (l := listed.toList) (i := i) (by simpa using hlt)
  have hp : 0 < listed.toList.count false := List.count_pos_iff.2 (by rw [← hv]; exact List.getElem_mem _)
  rw [hc, if_pos (by rw [hv]; rfl), if_neg (by decide)]
  omega

theorem exists_first {p : Nat → Prop} (hp : ∃ n, p n) : ∃ n, p n ∧ ∀ m, m < n → ¬ p m := by
  obtain ⟨n, hn⟩ := hp
  induction n using Nat.strongRecOn with
  | _ n ih =>
    by_cases hm : ∃ m, m < n ∧ p m
    · obtain ⟨m, hlt, hpm⟩ := hm
      exact ih m hlt hpm
    · exact ⟨n, hn, fun m hlt hpm => hm ⟨m, hlt, hpm⟩⟩

/-- The first one that is not listed. -/
theorem least_open {listed : Array Bool} (h0 : open_ listed ≠ 0) : ∃ i, listed.getD i true = false ∧ ∀ j, j < i → listed.getD j false = true := by
  have : ∃ i, listed.getD i true = false := by
    have hp : 0 < listed.toList.count false := by unfold open_ at h0; omega
    obtain ⟨i, hi, hv⟩ := List.getElem_of_mem (List.count_pos_iff.1 hp)
    exact ⟨i, by simp at hi; simpa [hi] using hv⟩
  obtain ⟨i, hi, hmin⟩ := exists_first this
  refine ⟨i, hi, fun j hj => ?_⟩
  have hne := hmin j hj
  have hlt : i < listed.size := by
    rcases Nat.lt_or_ge i listed.size with h' | h'
    · exact h'
    · simp [Array.getElem?_eq_none h'] at hi
  have hjl : j < listed.size := by omega
  simp [hjl] at hne ⊢
  exact hne

end
end Go.Proofs.YtniogaimhkcedaaDoor
/-
  Values of numbers: 32 bytes, four words of 64 bits; small arithmetic on them. Nothing of the program is named here.
-/
namespace Go.Proofs.YtniogaimhkcedaaDoor
open Go.RowKit

/-- 2^64, 2^128, 2^192, 2^256 and p are written out as numerals below. -/
def v4 (a b c d : Nat) : Nat := a + 18446744073709551616 * b + 340282366920938463463374607431768211456 * c + 6277101735386680763835789423207666416102355444464034512896 * d

end Go.Proofs.YtniogaimhkcedaaDoor
/-
  One operation of a quiet walk: a whole array is read, a function is called, two arrays of numbers are compared, a value is reckoned.
-/
namespace Go.Proofs.YtniogaimhkcedaaDoor
open Go Go.RowKit
set_option linter.unusedVariables false
set_option linter.unusedSimpArgs false

section
variable {P : Program} {ops : Array Oper} {C : World → Prop} {Q : Act → Prop} {a : Act} {o : Oper} {rest : List Oper}

end

section
variable {P : Program}

end

end Go.Proofs.YtniogaimhkcedaaDoor
/-
  Blocks of ints: read, written, by one cell or whole; what holds behind.
-/
namespace Go.Proofs.YtniogaimhkcedaaDoor.sh
open Go Go.RowKit
set_option linter.unusedVariables false
set_option linter.unusedSimpArgs false

/-- A fact that no unifier looks into. -/
structure Kept (p : Prop) : Prop where
  out : p

def ints (k : IntKind) (l : List Nat) : Array Value := (l.map fun n : Nat => Value.int k (n : Int)).toArray
theorem ints_size (k : IntKind) (l : List Nat) : (ints k l).size = l.length := by simp [ints]
theorem ints_get {k : IntKind} {l : List Nat} {i n : Nat} (h : l[i]? = some n) : (ints k l)[i]? = some (.int k (n : Int)) := by simp [ints, h]
theorem ints_set (k : IntKind) (l : List Nat) (i n : Nat) : (ints k l).setIfInBounds i (.int k (n : Int)) = ints k (l.set i n) := by simp [ints, List.map_set]
theorem ints_append (k : IntKind) (l m : List Nat) : ints k l ++ ints k m = ints k (l ++ m) := by simp [ints]

def Blk (w : World) (g : Nat) (t : TypeId) (A : Array Value) : Prop := w.heap[g]? = some (.cells A t (0, 0))
theorem Blk.lt {w : World} {g : Nat} {t : TypeId} {A : Array Value} (h : Blk w g t A) : g < w.heap.size := (Array.getElem?_eq_some_iff.1 h).1
theorem Blk.below {w w' : World} {g B : Nat} {t : TypeId} {A : Array Value} (h : Blk w g t A) (hb : Below B w w') (hB : g < B) : Blk w' g t A := (hb.block _ hB).trans h
theorem Blk.under {w w' : World} {g : Nat} {t : TypeId} {A : Array Value} (h : Blk w g t A) (hb : Below w.heap.size w w') : Blk w' g t A := h.below hb h.lt
theorem Blk.alloc {w : World} {g : Nat} {t : TypeId} {A : Array Value} (h : Blk w g t A) (o : Obj) : Blk (w.alloc o) g t A := (Below.heap_alloc w o g h.lt).trans h
theorem heap_new (w : World) (o : Obj) : (w.alloc o).heap[w.heap.size]? = some o := by
  show (w.heap.push o)[w.heap.size]? = some o
  simp
theorem blk_new (w : World) (t : TypeId) (A : Array Value) : Blk (w.alloc (.cells A t)) w.heap.size t A := heap_new _ _
theorem blk_top (w : World) (g : Nat) (t : TypeId) (A : Array Value) (h : g = w.heap.size) : Blk (w.alloc (.cells A t)) g t A := by rw [h]; exact heap_new _ _
theorem cell_row {w : World} {g : Nat} {A : Array Value} {t : TypeId} {fr : Nat × Nat} {j : Nat} {v : Value} (hg : w.heap[g]? = some (.cells A t fr)) (hv : A[j]? = some v) : w.cell? ⟨g, j, none⟩ = some v := by
  simp [World.cell?, hg, hv]
theorem Blk.cell {w : World} {g j : Nat} {t : TypeId} {A : Array Value} {v : Value} (h : Blk w g t A) (hv : A[j]? = some v) : w.cell? ⟨g, j, none⟩ = some v := cell_row h hv

theorem addr_add (g k j : Nat) : (⟨g, k, none⟩ : Addr).add j = ⟨g, k + j, none⟩ := by
  simp [Addr.add]

/-- The world behind a store to block g alone. -/
structure Put (w w' : World) (g : Nat) : Prop where
  grown : w.grownBy w' (some g)
  size : w'.heap.size = w.heap.size
theorem Put.below {w w' : World} {g B : Nat} (h : Put w w' g) (hB : B ≤ g) : Below B w w' := ⟨h.grown.os, h.grown.tape, h.grown.output, by rw [h.size]; exact Nat.le_refl _, fun k hk => by
  by_cases hk2 : k < w.heap.size
  · exact h.grown.block k hk2 (fun e => by cases e; omega)
  · rw [Array.getElem?_eq_none (by rw [h.size]; omega), Array.getElem?_eq_none (by omega)]⟩
theorem Put.blk {w w' : World} {g k : Nat} {t : TypeId} {A : Array Value} (h : Put w w' g) (hk : Blk w k t A) (hne : k ≠ g) : Blk w' k t A := (h.grown.block k hk.lt (fun e => by cases e; exact hne rfl)).trans hk

theorem ag_u8 (w : World) : (isAgg 5).run Tryd.prog w = .ok false w := by kernel_rfl
theorem sz_u8 (w : World) : (sizeOf 5).run Tryd.prog w = .ok 1 w := by kernel_rfl
theorem ag_int (w : World) : (isAgg 3).run Tryd.prog w = .ok false w := by kernel_rfl
theorem sz_int (w : World) : (sizeOf 3).run Tryd.prog w = .ok 1 w := by kernel_rfl
section
variable {ops : Array Oper} {rest : List Oper} {o : Oper} {a : Act} {w : World} {Q : Exit → Act → World → Prop}
/-- One cell of a block is read. -/
theorem run_elem {P : Program} {e : TypeId} (ag : ∀ w, (isAgg e).run P w = .ok false w) (x : Operand) (ho : o.op = .load e x) (g k : Nat) (hx : a.eval x = .pointer (some ⟨g, k, none⟩)) {t : TypeId} (A : Array Value) (v : Value) (hg : Blk w g t A) (hv : A[k]? = some v) : (execOp a.eval o).run P w = .ok (.value v) w := by
  have hc : w.cell? ⟨g, k, none⟩ = some v := cell_row hg hv
  unfold execOp
  simp only [ho, hx, Instr.loadAt, Instr.sureAddr, Sem.run_bind, Sem.run_pure, Result.andThen_ok]
  simp [loadVar, ag, go_sem, hc]
theorem wl_elem (hgd : o.guard = none) (e : TypeId) (ag : ∀ w, (isAgg e).run Tryd.prog w = .ok false w) (x : Operand) (ho : o.op = .load e x) (g k : Nat) (hx : a.eval x = .pointer (some ⟨g, k, none⟩)) {t : TypeId} (A : Array Value) (v : Value)
    (hg : Blk w g t A) (hv : A[k]? = some v) (h : wpList Tryd.prog ops Q rest (a.put o.dst v) w) : wpList Tryd.prog ops Q (o :: rest) a w :=
  wpList_plain hgd fun K hK => by
    unfold Oper.wp
    rw [run_elem ag x ho g k hx A v hg hv]
    exact hK _ _ h
/-- One cell of a block is written. -/
theorem wl_setElem (hgd : o.guard = none) (e : TypeId) (sz : ∀ w, (sizeOf e).run Tryd.prog w = .ok 1 w) (x y : Operand) (ho : o.op = .store e x y) (g k : Nat) (kd : IntKind) (v : Int) (hx : a.eval x = .pointer (some ⟨g, k, none⟩)) (hy : a.eval y = .int kd v) {t : TypeId} (A : Array Value)
    (hg : Blk w g t A) (hk : k < A.size) (h : ∀ w', Blk w' g t (A.setIfInBounds k (.int kd v)) → Put w w' g → wpList Tryd.prog ops Q rest (a.put o.dst undef) w') : wpList Tryd.prog ops Q (o :: rest) a w :=
  wpList_plain hgd fun K hK => by
    have hc : w.cell? ⟨g, k, none⟩ = some A[k] := cell_row hg (Array.getElem?_eq_getElem hk)
    have hf : w.frozen? ⟨g, k, none⟩ = false := frozen_of_row w g k A _ hg
    have hrun : (execOp a.eval o).run Tryd.prog w = .ok .skip (w.setCell ⟨g, k, none⟩ (.int kd v)) := by
      unfold execOp
      simp only [ho, hx, hy, Instr.storeAt, Instr.sureAddr, Sem.run_bind, Sem.run_pure, Result.andThen_ok]
      simp [storeVar, storeCells, sz, go_sem, hc, hf, Value.cells]
      try rfl
    unfold Oper.wp
    rw [hrun]
    exact hK _ _ (h _ (heap_setCell_same _ _ _ _ _ _ hg) ⟨⟨rfl, rfl, rfl, by simp, fun j _ hj => heap_setCell_other w ⟨g, k, none⟩ j _ (fun e => hj (by rw [e]))⟩, by simp⟩)
/-- A whole block is written. -/
theorem wl_store (hgd : o.guard = none) (t : TypeId) (x y : Operand) (ho : o.op = .store t x y) (g : Nat) (A : Array Value) (hx : a.eval x = .pointer (some ⟨g, 0, none⟩)) (hy : a.eval y = .agg A) {t' : TypeId} (cs : Array Value) (hg : Blk w g t' cs) (hs : (Tryd.prog.info? t).map (·.size) = some A.size) (hl : cs.size = A.size) (h1 : A.all (·.oneCell') = true)
    (h : ∀ w', Blk w' g t' A → Put w w' g → wpList Tryd.prog ops Q rest (a.put o.dst undef) w') : wpList Tryd.prog ops Q (o :: rest) a w :=
  wpList_store_row hgd t x y ho g A hx hy t' cs hg hs hl h1 (h _ (setRow_heap _ _ _ _ _ _ hg) ⟨⟨rfl, rfl, rfl, by simp, fun k _ hk => setRow_other _ _ _ _ (fun e => hk (by rw [e]))⟩, by simp⟩)
end
end Go.Proofs.YtniogaimhkcedaaDoor.sh
/-
  What a word comes to that is turned to the right, by one amount and by some.
-/
namespace Go.Proofs.YtniogaimhkcedaaDoor.sh
open Go Go.RowKit
set_option linter.unusedVariables false
set_option linter.unusedSimpArgs false

end Go.Proofs.YtniogaimhkcedaaDoor.sh
/-
  Words: the first state, sums, their bytes.
-/
namespace Go.Proofs.YtniogaimhkcedaaDoor.sh
open Go Go.RowKit
set_option linter.unusedVariables false
set_option linter.unusedSimpArgs false

end Go.Proofs.YtniogaimhkcedaaDoor.sh
/-
  A region that draws its order and makes one block besides: its first operations only read, or call what makes memory alone; then comes an operation that makes a block, whenever it likes; the last ones wait for all of these.
-/
namespace Go.Proofs.YtniogaimhkcedaaDoor
open Go Go.RowKit
set_option linter.unusedVariables false
set_option linter.unusedSimpArgs false

section
variable {P : Program} {Q : Exit → Act → World → Prop} {h t : List Oper} {al : Oper} {A : Act}

def dstsApart (h : List Oper) (n : Nat) : Bool := h.zipIdx.all fun (o, i) => h.zipIdx.all fun (o', j) => decide (i = j) || (match o.dst, o'.dst with | some d, some d' => decide (d ≠ d') | _, _ => true)
def dstsIn (h : List Oper) (n : Nat) : Bool := h.all fun o => match o.dst with | some d => decide (d < n) | none => true

theorem size_put (a : Act) (d : Option Tmp) (v : Value) : (a.put d v).tmps.size = a.tmps.size := by
  cases d <;> simp [Act.put]

theorem setp {listed : Array Bool} {m i : Nat} (b : Bool) (hi : i < listed.size) : (listed.push b ++ Array.replicate m false).setIfInBounds i true = (listed.setIfInBounds i true).push b ++ Array.replicate m false := by
  rw [set_app (by simp; omega)]
  congr 1
  apply Array.ext_getElem?
  intro k
  rw [Array.getElem?_setIfInBounds, Array.getElem?_push, Array.getElem?_push, Array.getElem?_setIfInBounds]
  have h1 : (listed.setIfInBounds i true).size = listed.size := by simp
  rw [h1]
  by_cases hik : i = k
  · subst hik
    rw [if_pos rfl, if_pos (by simp; omega), if_neg (by omega), if_pos rfl, if_pos hi]
  · rw [if_neg hik]
    by_cases hk : k = listed.size
    · rw [if_pos hk, if_pos hk]
    · rw [if_neg hk, if_neg hk, if_neg hik]
end
end Go.Proofs.YtniogaimhkcedaaDoor
/-
  A region that draws its order: its first operations only read, or call what makes memory alone; then come such as wait, one through another, for all of these, and are forced among themselves; the last one (a constant is moved) waits for nothing and nobody waits for it.
-/
namespace Go.Proofs.YtniogaimhkcedaaDoor
open Go Go.RowKit
set_option linter.unusedVariables false
set_option linter.unusedSimpArgs false

section
variable {P : Program} {Q : Exit → Act → World → Prop} {l h t : List Oper} {m : Oper} {v : Value}

theorem sp {listed : Array Bool} {i : Nat} (b : Bool) (hi : i < listed.size) : (listed.push b).setIfInBounds i true = (listed.setIfInBounds i true).push b := by
  have := setp (m := 0) (listed := listed) b hi
  simpa using this
/-- What the named ones wait for, one through another. -/
def under (h : List Oper) : Nat → List Nat → List Nat
  | 0, s => s
  | f + 1, s => s ++ under h f (s.flatMap fun i => match h[i]? with | some o => (o.after.toList.filter (Region.binds .any)).map (·.on) | none => [])

def Closed (h : List Oper) (listed : Array Bool) : Prop := ∀ i o, h[i]? = some o → listed.getD i false = true → ∀ e ∈ o.after, Region.binds .any e = true → listed.getD e.on false = true

theorem under_listed {listed : Array Bool} (hc : Closed h listed) : ∀ (f : Nat) (s : List Nat), (∀ j ∈ s, listed.getD j false = true) → ∀ j ∈ under h f s, listed.getD j false = true
  | 0, s, hs, j, hj => hs j hj
  | f + 1, s, hs, j, hj => by
    rcases List.mem_append.1 hj with h1 | h1
    · exact hs j h1
    · refine under_listed hc f _ ?_ j h1
      intro k hk
      obtain ⟨i, hi, hk'⟩ := List.mem_flatMap.1 hk
      cases ho : h[i]? with
      | none => simp [ho] at hk'
      | some o =>
        simp only [ho] at hk'
        obtain ⟨e, he, rfl⟩ := List.mem_map.1 hk'
        obtain ⟨he1, he2⟩ := List.mem_filter.1 he
        exact hc i o ho (hs i hi) e (by simpa using he1) he2

theorem closed_set {listed : Array Bool} {i : Nat} {o : Oper} (hc : Closed h listed) (ho : h[i]? = some o) (hall : ∀ e ∈ o.after, Region.binds .any e = true → listed.getD e.on false = true) : Closed h (listed.setIfInBounds i true) := by
  intro j o' ho' hl e he hb
  by_cases hij : i = j
  · subst hij
    rw [ho] at ho'
    obtain rfl := Option.some.inj ho'
    exact getD_set_true (hall e he hb)
  · rw [getD_set_ne false hij] at hl
    exact getD_set_true (hc j o' ho' hl e he hb)

/-- Each of the tail waits for another of the tail, or, one through another, for all of the head. -/
def tailUnder (h t : List Oper) : Bool := t.all fun o => (o.after.any fun e => Region.binds .any e && decide (h.length ≤ e.on)) ||
  (List.range h.length).all fun j => (under h h.length ((o.after.toList.filter (Region.binds .any)).map (·.on))).contains j

theorem app_ge {listed : Array Bool} {n j : Nat} (hj : listed.size ≤ j) : (listed ++ Array.replicate n false).getD j false = false := by
  rw [Array.getD_eq_getD_getElem?, Array.getElem?_append_right hj, Array.getElem?_replicate]
  split <;> rfl

theorem lift_under (hE : edgesIn h = true) (hG : guardsIn h = true) (hT : tailUnder h t = true)
    (hS : Region.seqB .any (h ++ t).toArray t.length h.length (Array.replicate h.length true ++ Array.replicate t.length false) = true) :
    ∀ (f : Nat) (listed : Array Bool) (a : Act) (w : World), listed.size = h.length → open_ listed = f → Closed h listed →
      wpAny P .any h.toArray (headPost P (h ++ t).toArray Q t) f listed a w → wpAny P .any (h ++ t).toArray Q (f + t.length) (listed ++ Array.replicate t.length false) a w := by
  intro f
  induction f with
  | zero =>
    intro listed a w hs ho hc H
    have e := all_true ho
    rw [hs] at e
    rw [Nat.zero_add, e]
    exact wpAny_of_seq t h.length _ a w (fun j => by rw [List.getElem?_toArray, List.getElem?_append_right (by omega), Nat.add_sub_cancel_left]) hS H.2
  | succ f ih =>
    intro listed a w hs ho hc H
    obtain ⟨i0, hi0, hlow⟩ := least_open (listed := listed) (by omega)
    have hi0s : i0 < listed.size := by
      rcases Nat.lt_or_ge i0 listed.size with h' | h'
      · exact h'
      · simp [Array.getElem?_eq_none h'] at hi0
    rw [show f + 1 + t.length = (f + t.length) + 1 by omega]
    refine ⟨fun h0 => ?_, fun i hi => ?_⟩
    · have : i0 ∈ Region.ready .any (h ++ t).toArray (listed ++ Array.replicate t.length false) := by
        rw [mem_ready]
        have hih : i0 < h.length := by omega
        refine ⟨by rw [getD_app true hi0s]; exact hi0, h[i0], by simp [List.getElem?_append_left hih], fun e he hb => ?_⟩
        have := edge_lt hE (List.getElem?_eq_getElem hih) he hb
        rw [getD_app false (by omega)]
        exact hlow _ this
      rw [h0] at this
      cases this
    · obtain ⟨hun, o, hoo, hall⟩ := mem_ready.1 hi
      have hih : i < h.length := by
        rcases Nat.lt_or_ge i h.length with h' | h'
        · exact h'
        · exfalso
          have hot : o ∈ t := by
            simp [List.getElem?_append_right h'] at hoo
            exact List.mem_of_getElem? hoo
          have hseed : ∀ e ∈ o.after, Region.binds .any e = true → e.on < listed.size ∧ listed.getD e.on false = true := by
            intro e he hb
            have h2 := hall e he hb
            rcases Nat.lt_or_ge e.on listed.size with h3 | h3
            · exact ⟨h3, by rwa [getD_app false h3] at h2⟩
            · rw [app_ge h3] at h2; cases h2
          have h1 := List.all_eq_true.1 hT o hot
          rcases Bool.or_eq_true_iff.1 h1 with h1 | h1
          · obtain ⟨e, he, hbe⟩ := Array.any_eq_true'.1 h1
            simp only [Bool.and_eq_true, decide_eq_true_eq] at hbe
            have := (hseed e he hbe.1).1
            omega
          · have h2 := List.all_eq_true.1 h1 i0 (List.mem_range.2 (by omega))
            have h3 := under_listed hc h.length ((o.after.toList.filter (Region.binds .any)).map (·.on)) (fun j hj => by
              obtain ⟨e, he, rfl⟩ := List.mem_map.1 hj
              obtain ⟨he1, he2⟩ := List.mem_filter.1 he
              exact (hseed e (by simpa using he1) he2).2) i0 (by simpa using h2)
            simp [hi0s] at hi0 h3
            rw [hi0] at h3
            cases h3
      have hoh : h[i]? = some o := by simpa [List.getElem?_append_left hih] using hoo
      have hun' : listed.getD i true = false := by rw [getD_app true (by omega)] at hun; exact hun
      have hall' : ∀ e ∈ o.after, Region.binds .any e = true → listed.getD e.on false = true := fun e he hb => by
        have hlt := edge_lt hE hoh he hb
        have := hall e he hb
        rwa [getD_app false (by omega)] at this
      have hr : i ∈ Region.ready .any h.toArray listed := by
        rw [mem_ready]
        exact ⟨hun', o, by simpa using hoh, hall'⟩
      have H1 := H.2 i hr
      have hK : ∀ a' w', wpAny P .any h.toArray (headPost P (h ++ t).toArray Q t) f (listed.setIfInBounds i true) a' w' → wpAny P .any (h ++ t).toArray Q (f + t.length) ((listed ++ Array.replicate t.length false).setIfInBounds i true) a' w' := by
        intro a' w' hh
        rw [set_app (by omega)]
        exact ih _ a' w' (by simpa using hs) (by have := open_set hun'; omega) (closed_set hc hoh hall') hh
      unfold wpOp at H1 ⊢
      have ho' : h.toArray[i]? = some o := by simpa using hoh
      simp only [hoo, ho'] at H1 ⊢
      rw [wanted_head hG (List.mem_of_getElem? hoh)]
      split
      · rename_i hw
        simp only [hw, if_true] at H1
        rcases H1 with H1 | ⟨h1, h2⟩
        · exact .inl (upon_headPost hK H1)
        · exact .inr ⟨h1, h2⟩
      · rename_i hw
        simp only [hw] at H1
        exact hK _ _ H1

end
end Go.Proofs.YtniogaimhkcedaaDoor
/-
  Regions that draw their order: a quiet head and a tail that waits for it, one through another; and heads whose values are known by what holds of them alone (fresh slices among them).
-/
namespace Go.Proofs.YtniogaimhkcedaaDoor.sh
open Go Go.RowKit
set_option linter.unusedVariables false
set_option linter.unusedSimpArgs false

theorem closed_none (h : List Oper) : Closed h (Array.replicate h.length false) := by
  intro i o ho hl
  exfalso
  rw [Array.getD_eq_getD_getElem?, Array.getElem?_replicate] at hl
  split at hl <;> simp at hl

/-- An invariant of what is listed, the frame and the world carries any order. -/
theorem wpAny_inv {P : Program} {Q : Exit → Act → World → Prop} {l : List Oper} (I : Array Bool → Act → World → Prop) (hE : edgesIn l = true)
    (hstep : ∀ listed a w i o, listed.size = l.length → I listed a w → l[i]? = some o → listed.getD i true = false → (∀ e ∈ o.after, Region.binds .any e = true → listed.getD e.on false = true) →
      Region.wanted o (yielded l.toArray a.tmps) = true ∧ o.wp P a w (fun a' w' => I (listed.setIfInBounds i true) a' w') Q)
    (hdone : ∀ a w, I (Array.replicate l.length true) a w → Q .normal a w) :
    ∀ (fuel : Nat) (listed : Array Bool) (a : Act) (w : World), listed.size = l.length → open_ listed = fuel → I listed a w → wpAny P .any l.toArray Q fuel listed a w
  | 0, listed, a, w, hs, ho, hI => by
    have ha := all_true ho
    rw [hs] at ha
    refine ⟨?_, hdone a w (by rw [← ha]; exact hI)⟩
    rw [List.eq_nil_iff_forall_not_mem]
    intro j hj
    obtain ⟨h1, o, h2, _⟩ := mem_ready.1 hj
    have hl : j < l.length := by
      have := (Array.getElem?_eq_some_iff.1 h2).1
      simpa using this
    rw [ha] at h1
    simp [hl] at h1
  | f + 1, listed, a, w, hs, ho, hI => by
    refine ⟨fun hr => ?_, fun i hi => ?_⟩
    · obtain ⟨i, h1, h2⟩ := least_open (listed := listed) (by omega)
      have hil : i < l.length := by
        rcases Nat.lt_or_ge i l.length with h' | h'
        · exact h'
        · have : listed.size ≤ i := by omega
          simp [Array.getElem?_eq_none this] at h1
      have hm : i ∈ Region.ready .any l.toArray listed := mem_ready.2 ⟨h1, l[i], by simp [hil], fun e he hb => h2 _ (edge_lt hE (List.getElem?_eq_getElem hil) he hb)⟩
      rw [hr] at hm
      cases hm
    · obtain ⟨h1, o, h2, h3⟩ := mem_ready.1 hi
      have h2' : l[i]? = some o := by simpa using h2
      obtain ⟨hw, hwp⟩ := hstep listed a w i o hs hI h2' h1 h3
      unfold wpOp
      simp only [h2, hw, if_true]
      left
      refine Oper.wp_mono (fun a' w' h => ?_) hwp
      exact wpAny_inv I hE hstep hdone f _ a' w' (by simpa using hs) (by have := open_set h1; omega) h

structure Fr (h : List Oper) (A0 a : Act) : Prop where
  size : a.tmps.size = A0.tmps.size
  defers : a.defers = A0.defers
  out : ∀ d, (∀ (i : Nat) (o : Oper), h[i]? = some o → o.dst ≠ some d) → a.tmps[d]? = A0.tmps[d]?

theorem wp_false {P : Program} {o : Oper} {a : Act} {w : World} {K K' : Act → World → Prop} {Q : Exit → Act → World → Prop} (hK : ∀ a w, K a w → K' a w) (h : o.wp P a w K (fun _ _ _ => False)) : o.wp P a w K' Q := by
  unfold Oper.wp at *
  generalize (execOp a.eval o).run P w = r at *
  cases r with
  | ok x w' =>
    cases x with
    | value v => exact hK _ _ h
    | skip => exact hK _ _ h
    | defer d => exact hK _ _ h
    | enter f args =>
      refine Calls.mono h ?_
      intro e w'' hr
      cases e with
      | returned v => exact hK _ _ hr
      | panicked c => exact hr.elim
      | outgrown => obtain ⟨_, _, h⟩ := hr; exact h.elim
    | row r args => exact Rows.mono h fun v w'' hr => hK _ _ hr
    | _ => exact h.elim
  | halt x w' =>
    cases x <;> exact h.elim

def putR (a : Act) (vals : List (Nat × Value)) : Act := vals.foldl (fun a p => a.put (some p.1) p.2) a
theorem putR_size : ∀ (vals : List (Nat × Value)) (a : Act), (putR a vals).tmps.size = a.tmps.size
  | [], a => rfl
  | p :: r, a => by show (putR (a.put (some p.1) p.2) r).tmps.size = _; rw [putR_size r, size_put]
theorem putR_defers : ∀ (vals : List (Nat × Value)) (a : Act), (putR a vals).defers = a.defers
  | [], a => rfl
  | p :: r, a => by show (putR (a.put (some p.1) p.2) r).defers = _; rw [putR_defers r]; rfl
theorem putR_get (f : Nat → Value) (d : Nat) : ∀ (ds : List Nat) (a : Act), d < a.tmps.size → (putR a (ds.map fun d => (d, f d))).tmps[d]? = if d ∈ ds then some (f d) else a.tmps[d]?
  | [], a, _ => by simp [putR]
  | x :: r, a, h => by
    show (putR (a.put (some x) (f x)) (r.map fun d => (d, f d))).tmps[d]? = _
    rw [putR_get f d r _ (by rw [size_put]; exact h)]
    by_cases h1 : d ∈ r
    · rw [if_pos h1, if_pos (List.mem_cons_of_mem _ h1)]
    · rw [if_neg h1]
      by_cases h2 : d = x
      · subst h2
        rw [if_pos List.mem_cons_self]
        simp [Act.put, h]
      · rw [if_neg (by simp [h1, h2])]
        simp [Act.put, Array.getElem?_setIfInBounds_ne (Ne.symm h2)]
theorem act_eq {a b : Act} (h1 : a.tmps = b.tmps) (h2 : a.defers = b.defers) : a = b := by cases a; cases b; simp_all

def dstsOf (h : List Oper) : List Nat := h.filterMap (·.dst)

end Go.Proofs.YtniogaimhkcedaaDoor.sh
/-
  What a round makes of a state.
-/
namespace Go.Proofs.YtniogaimhkcedaaDoor.sh
open Go Go.RowKit
set_option linter.unusedVariables false
set_option linter.unusedSimpArgs false

/-- Nothing changed but block g, and new blocks. -/
def Grew (w w' : World) (g : Nat) : Prop := w.grownBy w' (some g)
theorem Grew.blk {w w' : World} {g k : Nat} {t : TypeId} {A : Array Value} (h : Grew w w' g) (hk : Blk w k t A) (hne : k ≠ g) : Blk w' k t A := (h.block k hk.lt (fun e => by cases e; exact hne rfl)).trans hk
theorem Grew.below {w w' : World} {g B : Nat} (h : Grew w w' g) (hB : B ≤ g) (hs : B ≤ w.heap.size) : Below B w w' := ⟨h.os, h.tape, h.output, h.size, fun k hk => h.block k (by omega) (fun e => by cases e; omega)⟩
theorem Grew.trans {w w' w'' : World} {g : Nat} (h : Grew w w' g) (h' : Grew w' w'' g) : Grew w w'' g := ⟨h'.os.trans h.os, h'.tape.trans h.tape, h'.output.trans h.output, Nat.le_trans h.size h'.size, fun k hk hne => (h'.block k (Nat.lt_of_lt_of_le hk h.size) hne).trans (h.block k hk hne)⟩
end Go.Proofs.YtniogaimhkcedaaDoor.sh
/-
  The same, told with the frame as it is behind the region, but for the slots of which something holds alone.
-/
namespace Go.Proofs.YtniogaimhkcedaaDoor.sh
open Go Go.RowKit
set_option linter.unusedVariables false
set_option linter.unusedSimpArgs false

/-- What is asked of a slot: its own, or the frame's value. -/
def relR (A : Act) (S : Nat → Option (Value → World → Prop)) : Nat → Value → World → Prop := fun d v w => match S d with | some p => p v w | none => A.tmps[d]? = some v

def waitsFor (h : List Oper) (o : Oper) (d : Nat) : Bool := o.after.any fun e => Region.binds .any e && (match h[e.on]? with | some o' => o'.dst == some d | none => false)
def notSel (o : Oper) : Bool := match o.op with | .select _ _ => false | _ => true
theorem notSel_spec {o : Oper} (h : notSel o = true) : ∀ cs b, o.op ≠ .select cs b := fun cs b e => by simp [notSel, e] at h

theorem out_slot {h : List Oper} {A0 a : Act} (hF : Fr h A0 a) {d : Nat} (hd : (h.all fun o' => o'.dst != some d) = true) : a.tmps[d]? = A0.tmps[d]? := hF.out d fun i o ho hdo => by
  have := List.all_eq_true.1 hd o (List.mem_of_getElem? ho)
  simp [hdo] at this

section
variable {P : Program} {h : List Oper} {A0 A : Act} {W0 : World} {S : Nat → Option (Value → World → Prop)} {sp : List Nat} {o : Oper}

/-- The frame behind the region: where the region writes nothing it is the one ahead. -/
structure Full (h : List Oper) (A0 A : Act) (S : Nat → Option (Value → World → Prop)) (sp : List Nat) : Prop where
  out : ∀ d, (∀ (i : Nat) (o : Oper), h[i]? = some o → o.dst ≠ some d) → A.tmps[d]? = A0.tmps[d]?
  spec : ∀ d, d ∉ sp → S d = none

end

theorem putR_out {d : Nat} : ∀ (vals : List (Nat × Value)) (a : Act), (∀ p ∈ vals, p.1 ≠ d) → (putR a vals).tmps[d]? = a.tmps[d]?
  | [], a, _ => rfl
  | p :: r, a, h => by
    show (putR (a.put (some p.1) p.2) r).tmps[d]? = _
    rw [putR_out r _ (fun q hq => h q (List.mem_cons_of_mem _ hq))]
    simp [Act.put, Array.getElem?_setIfInBounds_ne (h p List.mem_cons_self)]
theorem full_put {h : List Oper} {a : Act} {S : Nat → Option (Value → World → Prop)} {sp : List Nat} (vals : List (Nat × Value)) (hv : (vals.all fun p => (dstsOf h).contains p.1) = true) (hS : ∀ d, d ∉ sp → S d = none) : Full h a (putR a vals) S sp :=
  ⟨fun d hd => putR_out vals a fun p hp e => by
    have h1 := List.contains_iff_mem.1 (List.all_eq_true.1 hv p hp)
    obtain ⟨o, ho, hdo⟩ := List.mem_filterMap.1 h1
    obtain ⟨i, hi, he⟩ := List.getElem_of_mem ho
    exact hd i o (by rw [List.getElem?_eq_getElem hi, he]) (by rw [hdo, e]), hS⟩

theorem putR_get' (f : Nat → Value) (d : Nat) (ds : List Nat) (a : Act) : (putR a (ds.map fun d => (d, f d))).tmps[d]? = if d < a.tmps.size then (if d ∈ ds then some (f d) else a.tmps[d]?) else none := by
  by_cases hd : d < a.tmps.size
  · rw [if_pos hd]; exact putR_get f d ds a hd
  · rw [if_neg hd]; exact Array.getElem?_eq_none (by rw [putR_size]; omega)

theorem rel_det {h : List Oper} {A0 A : Act} {S : Nat → Option (Value → World → Prop)} {sp : List Nat} (hA : Full h A0 A S sp) {d : Nat} {v : Value} {w : World} (hds : sp.contains d = false) (hv : A.tmps[d]? = some v) : relR A S d v w := by
  unfold relR
  rw [hA.spec d (fun hm => by rw [List.contains_iff_mem.2 hm] at hds; cases hds)]
  exact hv
theorem rel_spec {A : Act} {S : Nat → Option (Value → World → Prop)} {d : Nat} (p : Value → World → Prop) (hp : S d = some p) {v : Value} {w : World} (h : p v w) : relR A S d v w := by
  unfold relR
  rw [hp]
  exact h

/-- What is asked of the slots of a list. -/
def specOf (L : List (Nat × (Value → World → Prop))) : Nat → Option (Value → World → Prop) := fun d => L.lookup d
theorem specOf_none : ∀ (L : List (Nat × (Value → World → Prop))) (d : Nat), d ∉ L.map (·.1) → specOf L d = none
  | [], d, _ => rfl
  | q :: r, d, h => by
    have h1 : d ≠ q.1 := fun e => h (by rw [e]; exact List.mem_cons_self)
    have h2 := specOf_none r d (fun e => h (List.mem_cons_of_mem _ e))
    unfold specOf at *
    rw [List.lookup_cons]
    have : (d == q.1) = false := by simpa using h1
    rw [this]
    exact h2
/-- A slice of ints in a block of its own. -/
def SliceAt (t : TypeId) (k : IntKind) (l : List Nat) (cap : Nat) : Value → World → Prop := fun v w => ∃ g, v = .slice (some ⟨g, 0, none⟩) l.length cap ∧ Blk w g t (ints k l)
theorem SliceAt.under {t : TypeId} {k : IntKind} {l : List Nat} {cap : Nat} {v : Value} {w w' : World} (h : SliceAt t k l cap v w) (hb : Below w.heap.size w w') : SliceAt t k l cap v w' := by
  obtain ⟨g, h1, h2⟩ := h
  exact ⟨g, h1, h2.under hb⟩
end Go.Proofs.YtniogaimhkcedaaDoor.sh
/-
  Single operations on words, ints and addresses: what they come to.
-/
namespace Go.Proofs.YtniogaimhkcedaaDoor.sh
open Go Go.RowKit
set_option linter.unusedVariables false
set_option linter.unusedSimpArgs false

section
variable {o : Oper} {a : Act} {x y : Operand}
theorem run_subI {i : Nat} (c : Nat) (ho : o.op = .binOp .sub 3 x (.const (.int .i64 (c : Int))) 3) (hx : a.eval x = .int .i64 (i : Int)) (hle : c ≤ i) (hi : i < 4611686018427387904) (w : World) : (execOp a.eval o).run Tryd.prog w = .ok (.value (.int .i64 ((i - c : Nat) : Int))) w := by
  have e3 : a.eval (.const (.int .i64 (c : Int))) = .int .i64 (c : Int) := rfl
  unfold execOp
  simp only [ho, hx, e3]
  simp [go_sem, IntKind.wrap_i64, wrap64]
  omega
theorem run_idx {i g len : Nat} {t e : TypeId} (ho : o.op = .indexAddr t x y) (hx : a.eval x = .pointer (some ⟨g, 0, none⟩)) (hy : a.eval y = .int .i64 (i : Int)) (ht : Tryd.prog.underlying t = some (.array len e)) (hi : i < len) (sz : ∀ w, (sizeOf e).run Tryd.prog w = .ok 1 w) (w : World) : (execOp a.eval o).run Tryd.prog w = .ok (.value (.pointer (some ⟨g, i, none⟩))) w := by
  have h1 : ((i : Int) < (len : Int)) := by omega
  unfold execOp
  simp only [ho, hx, hy, Instr.indexAt]
  simp [asIntOf, run_underlying ht, h1, sz, go_sem, Addr.add]
  rw [if_pos hi]
  by_cases h0 : i = 0 <;> simp [h0]
end
end Go.Proofs.YtniogaimhkcedaaDoor.sh
/-
  The words of a block.
-/
namespace Go.Proofs.YtniogaimhkcedaaDoor.sh
open Go Go.RowKit
set_option linter.unusedVariables false
set_option linter.unusedSimpArgs false

/-- All below 2^32. -/
def Small (l : List Nat) : Prop := ∀ (i x : Nat), l[i]? = some x → x < 4294967296
theorem Small.set {l : List Nat} (h : Small l) (i v : Nat) (hv : v < 4294967296) : Small (l.set i v) := by
  intro j x hx
  by_cases hij : i = j
  · subst hij
    rw [List.getElem?_set_self'] at hx
    cases hq : l[i]? with
    | none => simp [hq] at hx
    | some y => simp [hq] at hx; omega
  · rw [List.getElem?_set_ne hij] at hx
    exact h j x hx
theorem Small.getD {l : List Nat} (h : Small l) (i : Nat) : l.getD i 0 < 4294967296 := by
  cases hq : l[i]? with
  | none => simp [List.getD_eq_getElem?_getD, hq]
  | some y => simp [List.getD_eq_getElem?_getD, hq]; exact h i y hq

end Go.Proofs.YtniogaimhkcedaaDoor.sh
/-
  What 64 rounds make of a state and a block.
-/
namespace Go.Proofs.YtniogaimhkcedaaDoor.sh
open Go Go.RowKit
set_option linter.unusedVariables false
set_option linter.unusedSimpArgs false

def rootsL : List Nat := [1116352408, 1899447441, 3049323471, 3921009573, 961987163, 1508970993, 2453635748, 2870763221, 3624381080, 310598401, 607225278, 1426881987, 1925078388, 2162078206, 2614888103, 3248222580, 3835390401, 4022224774, 264347078, 604807628, 770255983, 1249150122, 1555081692, 1996064986, 2554220882, 2821834349, 2952996808, 3210313671, 3336571891, 3584528711, 113926993, 338241895, 666307205, 773529912, 1294757372, 1396182291, 1695183700, 1986661051, 2177026350, 2456956037, 2730485921, 2820302411, 3259730800, 3345764771, 3516065817, 3600352804, 4094571909, 275423344, 430227734, 506948616, 659060556, 883997877, 958139571, 1322822218, 1537002063, 1747873779, 1955562222, 2024104815, 2227730452, 2361852424, 2428436474, 2756734187, 3204031479, 3329325298]
/-- The program's variable holds the constants. -/
def RootsAt (w : World) : Prop := 0 < w.heap.size ∧ ∀ (i x : Nat), rootsL[i]? = some x → w.cell? ⟨0, i, none⟩ = some (.int .u32 (x : Int))
theorem RootsAt.below {w w' : World} {n : Nat} (h : RootsAt w) (hn : 0 < n) (hb : Below n w w') : RootsAt w' := ⟨Nat.lt_of_lt_of_le h.1 hb.size, fun i x hx => by rw [hb.cell hn]; exact h.2 i x hx⟩

end Go.Proofs.YtniogaimhkcedaaDoor.sh
/-
  Numbers that lie side by side in one block: a slice literal of them is made, one of them is read.
-/
namespace Go.Proofs.YtniogaimhkcedaaDoor
open Go Go.RowKit
set_option linter.unusedVariables false
set_option linter.unusedSimpArgs false

section
variable {P : Program}

end

end Go.Proofs.YtniogaimhkcedaaDoor
/-
  A digest in memory; bytes that come in; what bytes one by one make of a digest.
-/
namespace Go.Proofs.YtniogaimhkcedaaDoor.sh
open Go Go.RowKit
set_option linter.unusedVariables false
set_option linter.unusedSimpArgs false

/-- All below 256. -/
def Bytes (l : List Nat) : Prop := ∀ (i x : Nat), l[i]? = some x → x < 256
theorem Bytes.drop {l : List Nat} (h : Bytes l) (k : Nat) : Bytes (l.drop k) := fun i x hx => h (k + i) x (by rw [List.getElem?_drop] at hx; exact hx)
theorem Bytes.take {l : List Nat} (h : Bytes l) (k : Nat) : Bytes (l.take k) := fun i x hx => by
  rw [List.getElem?_take] at hx
  split at hx
  · exact h i x hx
  · cases hx
theorem Bytes.append {l m : List Nat} (h : Bytes l) (h' : Bytes m) : Bytes (l ++ m) := fun i x hx => by
  rw [List.getElem?_append] at hx
  split at hx
  · exact h i x hx
  · exact h' _ x hx
theorem bytes_zero (n : Nat) : Bytes (List.replicate n 0) := fun i x hx => by
  rw [List.getElem?_replicate] at hx
  split at hx <;> simp at hx
  omega

/-- Bytes that a slice holds. -/
def BytesV (v : Value) (w : World) (bs : List Nat) : Prop := ∃ p c, v = .slice p bs.length c ∧ bs.length ≤ c ∧ (bs ≠ [] → ∃ A, p = some A ∧ A.block < w.heap.size ∧ ∀ (j x : Nat), bs[j]? = some x → w.cell? (A.add j) = some (.int .u8 (x : Int)))
theorem add_block (A : Addr) (k : Nat) : (A.add k).block = A.block := by unfold Addr.add; split <;> rfl
theorem add_add (A : Addr) (k j : Nat) : (A.add k).add j = A.add (k + j) := by
  unfold Addr.add
  by_cases hk : k = 0
  · subst hk; simp
  · by_cases hj : j = 0
    · subst hj; simp [hk]
    · simp [hk, hj]; omega
theorem BytesV.under {v : Value} {w w' : World} {bs : List Nat} (h : BytesV v w bs) (hb : Below w.heap.size w w') : BytesV v w' bs := by
  obtain ⟨p, c, h1, h2, h3⟩ := h
  refine ⟨p, c, h1, h2, fun hne => ?_⟩
  obtain ⟨A, e1, e2, e3⟩ := h3 hne
  exact ⟨A, e1, Nat.lt_of_lt_of_le e2 hb.size, fun j x hx => by rw [hb.cell (by rw [add_block]; exact e2)]; exact e3 j x hx⟩
theorem bytesV_slice {t : TypeId} {bs : List Nat} {cap : Nat} {v : Value} {w : World} (h : SliceAt t .u8 bs cap v w) (hc : bs.length ≤ cap) : BytesV v w bs := by
  obtain ⟨g, rfl, hb⟩ := h
  exact ⟨_, cap, rfl, hc, fun _ => ⟨_, rfl, hb.lt, fun j x hx => by rw [addr_add, Nat.zero_add]; exact hb.cell (ints_get hx)⟩⟩

section
variable {o : Oper} {a : Act} {x y : Operand}
end
end Go.Proofs.YtniogaimhkcedaaDoor.sh
/-
  What bytes more make of a digest.
-/
namespace Go.Proofs.YtniogaimhkcedaaDoor.sh
open Go Go.RowKit
set_option linter.unusedVariables false
set_option linter.unusedSimpArgs false

theorem ints_toList (k : IntKind) (l : List Nat) : (ints k l).toList.length = l.length := by simp [ints]
theorem oneCell_ints (k : IntKind) (l : List Nat) : ∀ v ∈ (ints k l).toList, v.oneCell' = true := by
  intro v hv
  simp [ints] at hv
  obtain ⟨x, _, rfl⟩ := hv
  rfl
end Go.Proofs.YtniogaimhkcedaaDoor.sh
/-
  What comes behind so many bytes.
-/
namespace Go.Proofs.YtniogaimhkcedaaDoor.sh
open Go Go.RowKit
set_option linter.unusedVariables false
set_option linter.unusedSimpArgs false

theorem made_zero (n : Nat) : madeCells (Value.int .u8 0).cells n = ints .u8 (List.replicate n 0) := by
  apply Array.ext_getElem?
  intro i
  by_cases h : i < n
  · simp [madeCells, ints, Value.cells, h, Nat.mod_one]
  · rw [Array.getElem?_eq_none (by rw [size_madeCells]; omega), Array.getElem?_eq_none (by rw [ints_size, List.length_replicate]; omega)]
theorem info_u8 : (Tryd.prog.info? 5).map (fun i => (i.zero, i.size, i.bytes)) = some (some (.int .u8 0), 1, 1) := by kernel_rfl
theorem run_make8 (c : Nat) (hc : c < 1000000) (k : IntKind) (w : World) : (Instr.makeSlice 23 (.int k (c : Int)) (.int k (c : Int))).run Tryd.prog w = .ok (.slice (some ⟨w.heap.size, 0, none⟩) c c) (w.alloc (.cells (ints .u8 (List.replicate c 0)) 5)) := by
  have hi := info_u8
  cases hq : Tryd.prog.info? 5 with
  | none => rw [hq] at hi; cases hi
  | some i =>
    rw [hq] at hi
    simp only [Option.map_some, Option.some.injEq, Prod.mk.injEq] at hi
    obtain ⟨h1, h2, h3⟩ := hi
    have h := run_make (P := Tryd.prog) w 23 5 i (.int .u8 0) Tryd.underlying23 hq h1 k k (c : Int) (c : Int) (by omega) (Int.le_refl _) (by rw [h3]; omega) (by omega)
    rw [h2, Nat.mul_one, Int.toNat_natCast, made_zero] at h
    exact h
theorem wl_make {ops : Array Oper} {rest : List Oper} {o : Oper} {a : Act} {w : World} {Q : Exit → Act → World → Prop} (hgd : o.guard = none) (x : Operand) (ho : o.op = .makeSlice 23 x x) (k : IntKind) (c : Nat) (hx : a.eval x = .int k (c : Int)) (hc : c < 1000000)
    (h : wpList Tryd.prog ops Q rest (a.put o.dst (.slice (some ⟨w.heap.size, 0, none⟩) c c)) (w.alloc (.cells (ints .u8 (List.replicate c 0)) 5))) : wpList Tryd.prog ops Q (o :: rest) a w :=
  wpList_plain hgd fun K hK => by
    have hrun : (execOp a.eval o).run Tryd.prog w = .ok (.value (.slice (some ⟨w.heap.size, 0, none⟩) c c)) (w.alloc (.cells (ints .u8 (List.replicate c 0)) 5)) := by
      unfold execOp
      simp only [ho, hx]
      simp [run_make8 c hc k w]
    unfold Oper.wp
    rw [hrun]
    exact hK _ _ h

theorem Bytes.set {l : List Nat} (h : Bytes l) (i v : Nat) (hv : v < 256) : Bytes (l.set i v) := by
  intro j x hx
  by_cases hij : i = j
  · subst hij
    rw [List.getElem?_set_self'] at hx
    cases hq : l[i]? with
    | none => simp [hq] at hx
    | some y => simp [hq] at hx; omega
  · rw [List.getElem?_set_ne hij] at hx
    exact h j x hx
end Go.Proofs.YtniogaimhkcedaaDoor.sh
/-
  The digest of all bytes by now; the digest of bytes.
-/
namespace Go.Proofs.YtniogaimhkcedaaDoor.sh
open Go Go.RowKit
set_option linter.unusedVariables false
set_option linter.unusedSimpArgs false

section
variable {P : Program} {h : List Oper} {A0 A : Act} {W0 : World} {S : Nat → Option (Value → World → Prop)} {sp : List Nat} {o : Oper}
end

end Go.Proofs.YtniogaimhkcedaaDoor.sh
/-
  Regions that draw their order, in which slices are made, appended to in place and handed on: each slot that owns a block owns it alone, until an operation takes it over.
-/
namespace Go.Proofs.YtniogaimhkcedaaDoor.sh
open Go Go.RowKit
set_option linter.unusedVariables false
set_option linter.unusedSimpArgs false

def blkOf : Value → Option Nat
  | .slice (some a) _ _ => some a.block
  | .pointer (some a) => some a.block
  | _ => none

/-- What an operation meets in the slots that it waits for and that no other one takes over. -/
def GotE (h : List Oper) (E : List (Nat × Nat)) (R : Nat → Value → World → Prop) (O : List Nat) (B i : Nat) (a : Act) (w : World) (o : Oper) : Prop :=
  ∀ d, waitsFor h o d = true → (E.all fun q => q.2 != d || q.1 == i) = true → ∃ v, a.tmps[d]? = some v ∧ R d v w ∧ (O.contains d = true → ∀ b, blkOf v = some b → B ≤ b ∧ b < w.heap.size)

/-- What is asked of each operation: what it writes is a block that it takes over, or one that it makes. -/
def OwnOk (P : Program) (h : List Oper) (A0 : Act) (W0 : World) (R : Nat → Value → World → Prop) (O : List Nat) (E : List (Nat × Nat)) (i : Nat) (o : Oper) : Prop := ∃ d, o.dst = some d ∧ ∀ a w, Fr h A0 a → Below W0.heap.size W0 w → GotE h E R O W0.heap.size i a w o →
  Region.wanted o (yielded h.toArray a.tmps) = true ∧ o.wp P a w (fun a' w' => ∃ v row, a' = a.put (some d) v ∧ R d v w' ∧ w.grownBy w' row ∧ (∀ b, row = some b → ∃ s, (i, s) ∈ E ∧ (a.tmps[s]?).bind blkOf = some b) ∧
    (O.contains d = true → ∀ b, blkOf v = some b → (w.heap.size ≤ b ∧ b < w'.heap.size) ∨ ∃ s, (i, s) ∈ E ∧ (a.tmps[s]?).bind blkOf = some b)) (fun _ _ _ => False)
def OwnAll (P : Program) (h : List Oper) (A0 : Act) (W0 : World) (R : Nat → Value → World → Prop) (O : List Nat) (E : List (Nat × Nat)) : Nat → List Oper → Prop
  | _, [] => True
  | i, o :: r => OwnOk P h A0 W0 R O E i o ∧ OwnAll P h A0 W0 R O E (i + 1) r
theorem ownAll_get {P : Program} {h : List Oper} {A0 : Act} {W0 : World} {R : Nat → Value → World → Prop} {O : List Nat} {E : List (Nat × Nat)} : ∀ (r : List Oper) (k : Nat), OwnAll P h A0 W0 R O E k r → ∀ i o, r[i]? = some o → OwnOk P h A0 W0 R O E (k + i) o
  | [], _, _, i, o, ho => by simp at ho
  | x :: r, k, hr, 0, o, ho => by simp at ho; subst ho; exact hr.1
  | x :: r, k, hr, i + 1, o, ho => by
    have := ownAll_get r (k + 1) hr.2 i o (by simpa using ho)
    rwa [show k + 1 + i = k + (i + 1) from by omega] at this

theorem grown_mono {w w' : World} {row : Option Nat} {B : Nat} (h : w.grownBy w' row) (hB : B ≤ w.heap.size) (hr : ∀ b, row = some b → B ≤ b) : Below B w w' := (Below.refl _ _).grown h hB hr
theorem grown_none {w w' : World} (h : Below w.heap.size w w') : w.grownBy w' none := ⟨h.os, h.tape, h.output, h.size, fun k hk _ => h.block k hk⟩

section
variable (h : List Oper) (E : List (Nat × Nat))
def Liv (listed : Array Bool) (d : Nat) : Prop := (∃ (i : Nat) (o : Oper), h[i]? = some o ∧ listed.getD i false = true ∧ o.dst = some d) ∧ ∀ q ∈ E, q.2 = d → listed.getD q.1 false = false
def apartB : List Nat → Bool
  | [] => true
  | x :: r => !r.contains x && apartB r
end
theorem apart_eq : ∀ (E : List (Nat × Nat)), apartB (E.map (·.2)) = true → ∀ q ∈ E, ∀ q' ∈ E, q.2 = q'.2 → q = q'
  | [], _, q, hq, _, _, _ => by cases hq
  | x :: r, h, q, hq, q', hq', he => by
    simp only [List.map_cons, apartB, Bool.and_eq_true, Bool.not_eq_true'] at h
    have hn : ∀ y ∈ r, y.2 ≠ x.2 := fun y hy e => by
      have : (r.map (·.2)).contains x.2 = true := List.contains_iff_mem.2 (List.mem_map.2 ⟨y, hy, e⟩)
      rw [h.1] at this
      cases this
    rcases List.mem_cons.1 hq with h1 | h1 <;> rcases List.mem_cons.1 hq' with h2 | h2
    · rw [h1, h2]
    · exact absurd (by rw [← he, h1]) (hn q' h2)
    · exact absurd (by rw [he, h2]) (hn q h1)
    · exact apart_eq r h.2 q h1 q' h2 he

/-- A region that draws its order: each of the first n operations makes a value of which R holds; owners' blocks are apart; the last operations wait for all of those. -/
theorem region_own {P : Program} {Q : Exit → Act → World → Prop} {id : Nat} {a : Act} {w : World} (W0 : World) (n : Nat) {l : List Oper} (R : Nat → Value → World → Prop) (O : List Nat) (E : List (Nat × Nat)) (ds : List Nat) (hm : P.follows .mixedOrders = true)
    (hE : edgesIn (l.take n) = true) (hG : guardsIn (l.take n) = true) (hA : dstsApart (l.take n) 0 = true) (hI : dstsIn (l.take n) a.tmps.size = true) (hT : tailUnder (l.take n) (l.drop n) = true)
    (hS : Region.seqB .any l.toArray (l.drop n).length (l.take n).length (Array.replicate (l.take n).length true ++ Array.replicate (l.drop n).length false) = true)
    (hEw : (E.all fun q => O.contains q.2 && match (l.take n)[q.1]? with | some o => waitsFor (l.take n) o q.2 | none => false) = true) (hEn : apartB (E.map (·.2)) = true)
    (hds : dstsOf (l.take n) = ds)
    (hst1 : ∀ d v w w', O.contains d = false → R d v w → Below W0.heap.size W0 w → Below W0.heap.size w w' → R d v w')
    (hst2 : ∀ d v w w' row, O.contains d = true → R d v w → w.grownBy w' row → (blkOf v = none ∨ blkOf v ≠ row) → (∀ b, blkOf v = some b → b < w.heap.size) → R d v w') (hw : Below W0.heap.size W0 w)
    (hok : OwnAll P (l.take n) a W0 R O E 0 (l.take n))
    (hfin : ∀ (f : Nat → Value) w', (∀ d ∈ ds, d ∉ E.map (·.2) → R d (f d) w' ∧ (O.contains d = true → ∀ b, blkOf (f d) = some b → W0.heap.size ≤ b ∧ b < w'.heap.size)) →
      (∀ d ∈ ds, ∀ d' ∈ ds, d ∉ E.map (·.2) → d' ∉ E.map (·.2) → O.contains d = true → O.contains d' = true → d ≠ d' → ∀ b, blkOf (f d) = some b → blkOf (f d') ≠ some b) → Below W0.heap.size W0 w' →
      wpList P l.toArray Q (l.drop n) (putR a (ds.map fun d => (d, f d))) w') : (Code.region id l.toArray true).wp P Q a w := by
  have e : l.take n ++ l.drop n = l := List.take_append_drop n l
  refine wp_region_any hm ?_
  generalize hh : l.take n = h at *
  have hEw' : ∀ q ∈ E, O.contains q.2 = true ∧ ∃ o, h[q.1]? = some o ∧ waitsFor h o q.2 = true := fun q hq => by
    have := List.all_eq_true.1 hEw q hq
    simp only [Bool.and_eq_true] at this
    refine ⟨this.1, ?_⟩
    cases ho : h[q.1]? with
    | none => simp [ho] at this
    | some o => exact ⟨o, rfl, by simpa [ho] using this.2⟩
  have main := wpAny_inv (P := P) (l := h) (Q := headPost P (h ++ l.drop n).toArray Q (l.drop n))
    (fun listed a' w' => Fr h a a' ∧ Below W0.heap.size W0 w' ∧ (∀ d, Liv h E listed d → ∃ v, a'.tmps[d]? = some v ∧ R d v w' ∧ (O.contains d = true → ∀ b, blkOf v = some b → W0.heap.size ≤ b ∧ b < w'.heap.size)) ∧
      ∀ d d', Liv h E listed d → Liv h E listed d' → O.contains d = true → O.contains d' = true → d ≠ d' → ∀ b, (a'.tmps[d]?).bind blkOf = some b → (a'.tmps[d']?).bind blkOf ≠ some b) hE
    (by
      intro listed a' w' i o hls hI' ho hun hall
      obtain ⟨hF, hB, hV, hD⟩ := hI'
      have hil : i < listed.size := by rw [hls]; exact (List.getElem?_eq_some_iff.1 ho).1
      have hun' : listed.getD i false = false := by simpa [hil] using hun
      obtain ⟨d, hd, hrun⟩ := by have := ownAll_get h 0 hok i o ho; rwa [Nat.zero_add] at this
      have hson : ∀ k, (listed.setIfInBounds i true).getD k false = if k = i then true else listed.getD k false := fun k => by
        by_cases hk : k = i
        · subst hk; simp [hil]
        · rw [if_neg hk, getD_set_ne false (Ne.symm hk)]
      have hlist : ∀ s, waitsFor h o s = true → ∃ (j : Nat) (o' : Oper), h[j]? = some o' ∧ listed.getD j false = true ∧ o'.dst = some s := fun s hs => by
        obtain ⟨x, hx, h1⟩ := Array.any_eq_true'.1 hs
        simp only [Bool.and_eq_true] at h1
        cases ho' : h[x.on]? with
        | none => simp [ho'] at h1
        | some o' => exact ⟨x.on, o', ho', hall x hx h1.1, by simpa [ho'] using h1.2⟩
      have hgot : GotE h E R O W0.heap.size i a' w' o := fun s hs hq => hV s ⟨hlist s hs, fun q hq' he => by
        have := List.all_eq_true.1 hq q hq'
        simp only [he, bne_self_eq_false, Bool.false_or, beq_iff_eq] at this
        rw [this]
        exact hun'⟩
      have hSe : ∀ s, (i, s) ∈ E → Liv h E listed s ∧ O.contains s = true := fun s hs => by
        obtain ⟨h1, o', h2, h3⟩ := hEw' _ hs
        rw [ho] at h2
        cases h2
        refine ⟨⟨hlist s h3, fun q hq he => ?_⟩, h1⟩
        have := apart_eq E hEn q hq (i, s) hs he
        rw [this]
        exact hun'
      obtain ⟨hwant, hwp⟩ := hrun a' w' hF hB hgot
      refine ⟨hwant, wp_false ?_ hwp⟩
      rintro a2 w2 ⟨v, row, rfl, hR, hg, hrow, hblk⟩
      have hdl : d < a'.tmps.size := by
        have := List.all_eq_true.1 hI o (List.mem_of_getElem? ho)
        rw [hd] at this
        rw [hF.size]
        simpa using this
      have hother : ∀ d', d' ≠ d → (a'.put (some d) v).tmps[d']? = a'.tmps[d']? := fun d' hne => by simp [Act.put, Array.getElem?_setIfInBounds_ne (Ne.symm hne)]
      have hself : (a'.put (some d) v).tmps[d]? = some v := by simp [Act.put, hdl]
      have hrange : ∀ s, (i, s) ∈ E → ∀ b, (a'.tmps[s]?).bind blkOf = some b → W0.heap.size ≤ b ∧ b < w'.heap.size := fun s hs b hb => by
        obtain ⟨h1, h2⟩ := hSe s hs
        obtain ⟨u, e1, _, e3⟩ := hV s h1
        rw [e1] at hb
        exact e3 h2 b hb
      have hBw : Below W0.heap.size w' w2 := grown_mono hg hB.size (fun b hb => by
        obtain ⟨s, hs, hb'⟩ := hrow b hb
        exact (hrange s hs b hb').1)
      have hold : ∀ d', Liv h E (listed.setIfInBounds i true) d' → d' ≠ d → Liv h E listed d' := fun d' hL hne => by
        obtain ⟨⟨j, o', h1, h2, h3⟩, h4⟩ := hL
        refine ⟨⟨j, o', h1, ?_, h3⟩, fun q hq he => ?_⟩
        · rw [hson j] at h2
          split at h2
          · next hji => subst hji; rw [ho] at h1; cases h1; rw [hd] at h3; exact absurd (Option.some.inj h3).symm hne
          · exact h2
        · have := h4 q hq he
          rw [hson q.1] at this
          split at this
          · cases this
          · exact this
      have hne_s : ∀ s d', (i, s) ∈ E → Liv h E (listed.setIfInBounds i true) d' → s ≠ d' := fun s d' hs hL he => by
        have := hL.2 (i, s) hs he
        rw [hson i, if_pos rfl] at this
        cases this
      refine ⟨⟨by rw [size_put]; exact hF.size, hF.defers, fun d' h' => ?_⟩, hB.trans hBw, fun d' hL => ?_, fun d1 d2 hL1 hL2 hO1 hO2 hne b hb1 hb2 => ?_⟩
      · rw [hother d' (fun e2 => h' i o ho (by rw [hd, e2]))]
        exact hF.out d' h'
      · by_cases hdd : d' = d
        · subst hdd
          refine ⟨v, hself, hR, fun hO b hb => ?_⟩
          rcases hblk hO b hb with ⟨h1, h2⟩ | ⟨s, hs, hb'⟩
          · exact ⟨Nat.le_trans hB.size h1, h2⟩
          · have := hrange s hs b hb'
            exact ⟨this.1, Nat.lt_of_lt_of_le this.2 hg.size⟩
        · have hL' := hold d' hL hdd
          obtain ⟨u, e1, e2, e3⟩ := hV d' hL'
          refine ⟨u, by rw [hother d' hdd]; exact e1, ?_, fun hO b hb => ⟨(e3 hO b hb).1, Nat.lt_of_lt_of_le (e3 hO b hb).2 hg.size⟩⟩
          cases hO : O.contains d' with
          | false => exact hst1 d' u w' w2 hO e2 hB hBw
          | true =>
            refine hst2 d' u w' w2 row hO e2 hg ?_ (fun b hb => (e3 hO b hb).2)
            cases hb : blkOf u with
            | none => exact .inl rfl
            | some b =>
              refine .inr fun hr => ?_
              obtain ⟨s, hs, hb'⟩ := hrow b hr.symm
              obtain ⟨h1, h2⟩ := hSe s hs
              exact hD s d' h1 hL' h2 hO (hne_s s d' hs hL) b hb' (by rw [e1]; exact hb)
      · by_cases h1 : d1 = d
        · subst h1
          have h2 : d2 ≠ d1 := Ne.symm hne
          have hL2' := hold d2 hL2 h2
          rw [hother d2 h2] at hb2
          rw [hself] at hb1
          rcases hblk hO1 b hb1 with ⟨h3, _⟩ | ⟨s, hs, hb'⟩
          · obtain ⟨u, e1, _, e3⟩ := hV d2 hL2'
            rw [e1] at hb2
            have := (e3 hO2 b hb2).2
            omega
          · obtain ⟨h4, h5⟩ := hSe s hs
            exact hD s d2 h4 hL2' h5 hO2 (hne_s s d2 hs hL2) b hb' hb2
        · have hL1' := hold d1 hL1 h1
          rw [hother d1 h1] at hb1
          by_cases h2 : d2 = d
          · subst h2
            rw [hself] at hb2
            rcases hblk hO2 b hb2 with ⟨h3, _⟩ | ⟨s, hs, hb'⟩
            · obtain ⟨u, e1, _, e3⟩ := hV d1 hL1'
              rw [e1] at hb1
              have := (e3 hO1 b hb1).2
              omega
            · obtain ⟨h4, h5⟩ := hSe s hs
              exact hD s d1 h4 hL1' h5 hO1 (hne_s s d1 hs hL1) b hb' hb1
          · rw [hother d2 h2] at hb2
            exact hD d1 d2 hL1' (hold d2 hL2 h2) hO1 hO2 hne b hb1 hb2)
    (by
      intro a' w' hI'
      obtain ⟨hF, hB, hV, hD⟩ := hI'
      have hliv : ∀ d ∈ ds, d ∉ E.map (·.2) → Liv h E (Array.replicate h.length true) d := fun d hd hn => by
        rw [← hds] at hd
        obtain ⟨o, ho, hd'⟩ := List.mem_filterMap.1 hd
        obtain ⟨i, hi, he⟩ := List.getElem_of_mem ho
        exact ⟨⟨i, o, by rw [List.getElem?_eq_getElem hi, he], by simp [hi], hd'⟩, fun q hq he => absurd (List.mem_map.2 ⟨q, hq, he⟩) hn⟩
      have hsome : ∀ d ∈ ds, ∃ v, a'.tmps[d]? = some v := fun d hd => by
        rw [← hds] at hd
        obtain ⟨o, ho, hd'⟩ := List.mem_filterMap.1 hd
        have := List.all_eq_true.1 hI o ho
        rw [hd'] at this
        exact ⟨_, Array.getElem?_eq_getElem (by rw [hF.size]; simpa using this)⟩
      have hfr := hfin (fun d => (a'.tmps[d]?).getD undef) w' (fun d hd hn => by obtain ⟨v, h1, h2⟩ := hV d (hliv d hd hn); simp only [h1, Option.getD_some]; exact h2)
        (fun d hd d' hd' hn hn' hO hO' hne b hb hb' => by
          obtain ⟨v, h1, _⟩ := hV d (hliv d hd hn)
          obtain ⟨v', h1', _⟩ := hV d' (hliv d' hd' hn')
          simp only [h1, h1', Option.getD_some] at hb hb'
          exact hD d d' (hliv d hd hn) (hliv d' hd' hn') hO hO' hne b (by rw [h1]; exact hb) (by rw [h1']; exact hb')) hB
      have ea : a' = putR a (ds.map fun d => (d, (a'.tmps[d]?).getD undef)) := by
        refine act_eq (Array.ext_getElem? fun d => ?_) (by rw [putR_defers]; exact hF.defers)
        by_cases hdl : d < a.tmps.size
        · rw [putR_get (fun d => (a'.tmps[d]?).getD undef) d ds a hdl]
          by_cases hd : d ∈ ds
          · rw [if_pos hd]
            obtain ⟨v, h1⟩ := hsome d hd
            simp [h1]
          · rw [if_neg hd]
            refine hF.out d fun i o ho hd' => hd ?_
            rw [← hds]
            exact List.mem_filterMap.2 ⟨o, List.mem_of_getElem? ho, hd'⟩
        · rw [Array.getElem?_eq_none (by rw [hF.size]; omega), Array.getElem?_eq_none (by rw [putR_size]; omega)]
      rw [← ea] at hfr
      show wpList P (h ++ l.drop n).toArray Q (l.drop n) a' w'
      rw [e]
      exact hfr)
    h.length (Array.replicate h.length false) a { w with drawn := w.drawn + 1 } (by simp) (by simp [open_])
    ⟨⟨rfl, rfl, fun _ _ => rfl⟩, hw.drew, fun d hL => by
      exfalso
      obtain ⟨⟨i, o, _, hon, _⟩, _⟩ := hL
      rw [Array.getD_eq_getD_getElem?, Array.getElem?_replicate] at hon
      split at hon <;> simp at hon, fun d d' hL => by
      exfalso
      obtain ⟨⟨i, o, _, hon, _⟩, _⟩ := hL
      rw [Array.getD_eq_getD_getElem?, Array.getElem?_replicate] at hon
      split at hon <;> simp at hon⟩
  have h3 := lift_under (Q := Q) hE hG hT (by rw [e]; exact hS) h.length (Array.replicate h.length false) a _ (by simp) (by simp [open_]) (closed_none _) main
  rw [e] at h3
  have e1 : l.toArray.size = h.length + (l.drop n).length := by rw [← List.length_append, e]; simp
  rw [e1, show Array.replicate (h.length + (l.drop n).length) false = Array.replicate h.length false ++ Array.replicate (l.drop n).length false by simp]
  exact h3
end Go.Proofs.YtniogaimhkcedaaDoor.sh
