/-
  Owners apart from each other, whatever they are; rows whose elements are written; the rules of package know in memory.
-/
import Derived.Test.YtniogaimhkcedaaDoorKE
import Derived.Test.YtniogaimhkcedaaDoorKG
namespace Go.Proofs.YtniogaimhkcedaaDoor.sh
open Go Go.RowKit
set_option linter.unusedVariables false
set_option linter.unusedSimpArgs false

/-- An owner: its block, and what is said of it. -/
abbrev Own := Option Nat × (World → Prop)
structure Sep (B : Nat) (l : List Own) (w : World) : Prop where
  holds : ∀ q ∈ l, q.2 w
  range : ∀ q ∈ l, ∀ b, q.1 = some b → B ≤ b ∧ b < w.heap.size
  apart : ∀ (i j : Nat) (q r : Own), l[i]? = some q → l[j]? = some r → i ≠ j → ∀ b, q.1 = some b → r.1 ≠ some b
  keeps : ∀ q ∈ l, ∀ (w w' : World) (row : Option Nat), q.2 w → w.grownBy w' row → (q.1 = none ∨ q.1 ≠ row) → q.2 w'
def SepM (l : List Own) (b : Nat) : Prop := ∃ q ∈ l, q.1 = some b
theorem Sep.under {B : Nat} {l : List Own} {w w' : World} (h : Sep B l w) (hb : Below w.heap.size w w') : Sep B l w' where
  holds q hq := h.keeps q hq w w' none (h.holds q hq) (grown_none hb) (by cases q.1 <;> simp)
  range q hq b hb2 := ⟨(h.range q hq b hb2).1, Nat.lt_of_lt_of_le (h.range q hq b hb2).2 hb.size⟩
  apart := h.apart
  keeps := h.keeps
theorem Sep.out {B : Nat} {l : List Own} {w w' : World} (h : Sep B l w) {row : Option Nat} (hg : w.grownBy w' row) (hr : ∀ b, row = some b → ¬ SepM l b) : Sep B l w' where
  holds q hq := h.keeps q hq w w' row (h.holds q hq) hg (by
    cases hq1 : q.1 with
    | none => exact .inl rfl
    | some b => exact .inr fun e => hr b e.symm ⟨q, hq, hq1⟩)
  range q hq b hb2 := ⟨(h.range q hq b hb2).1, Nat.lt_of_lt_of_le (h.range q hq b hb2).2 hg.size⟩
  apart := h.apart
  keeps := h.keeps
theorem Sep.at {B : Nat} {l : List Own} {w : World} (h : Sep B l w) {k : Nat} {q : Own} (hk : l[k]? = some q) : q.2 w := h.holds q (List.mem_of_getElem? hk)
/-- One owner is written, and says something else then; its block is the same, or a new one. -/
theorem Sep.set {B : Nat} {l : List Own} {w w' : World} (h : Sep B l w) {k : Nat} {q : Own} (hk : l[k]? = some q) (hg : w.grownBy w' q.1) (b' : Option Nat) (P' : World → Prop) (hP : P' w') (hkeep : ∀ (w w' : World) (row : Option Nat), P' w → w.grownBy w' row → (b' = none ∨ b' ≠ row) → P' w') (hB : B ≤ w.heap.size) (hb : b' = q.1 ∨ ∃ n, b' = some n ∧ w.heap.size ≤ n ∧ n < w'.heap.size) : Sep B (l.set k (b', P')) w' ∧ Turn (SepM l) w (SepM (l.set k (b', P'))) w' := by
  have hkl : k < l.length := (List.getElem?_eq_some_iff.1 hk).1
  have hqm := List.mem_of_getElem? hk
  have hmem : ∀ r, r ∈ l.set k (b', P') → r = (b', P') ∨ ∃ j, j ≠ k ∧ l[j]? = some r := fun r hr => by
    obtain ⟨j, hj⟩ := List.mem_iff_getElem?.1 hr
    rw [List.getElem?_set] at hj
    by_cases e : k = j
    · subst e; simp [hkl] at hj; exact .inl hj.symm
    · rw [if_neg e] at hj; exact .inr ⟨j, Ne.symm e, hj⟩
  have hoth : ∀ j r, j ≠ k → l[j]? = some r → r.1 = none ∨ r.1 ≠ q.1 := fun j r hj hr => by
    cases hr1 : r.1 with
    | none => exact .inl rfl
    | some b => exact .inr fun e => h.apart j k r q hr hk hj b hr1 e.symm
  have hnew : ∀ b, b' = some b → (q.1 = some b) ∨ (w.heap.size ≤ b ∧ b < w'.heap.size) := fun b hb2 => by
    rcases hb with e | ⟨n, e, h1, h2⟩
    · exact .inl (e ▸ hb2)
    · rw [hb2] at e; cases e; exact .inr ⟨h1, h2⟩
  refine ⟨⟨fun r hr => ?_, fun r hr b hb2 => ?_, fun i j r r' hi hj hij b hb2 hb3 => ?_, fun r hr => ?_⟩, ⟨⟨hg.os, hg.tape, hg.output, hg.size, fun k' hk' hM => hg.block k' hk' (fun e => hM ⟨q, hqm, e.symm⟩)⟩, fun b hM => ?_⟩⟩
  · rcases hmem r hr with rfl | ⟨j, hj, hr2⟩
    · exact hP
    · exact h.keeps r (List.mem_of_getElem? hr2) w w' q.1 (h.holds r (List.mem_of_getElem? hr2)) hg (hoth j r hj hr2)
  · rcases hmem r hr with rfl | ⟨j, hj, hr2⟩
    · rcases hnew b hb2 with e | ⟨h1, h2⟩
      · exact ⟨(h.range q hqm b e).1, Nat.lt_of_lt_of_le (h.range q hqm b e).2 hg.size⟩
      · exact ⟨Nat.le_trans hB h1, h2⟩
    · have := h.range r (List.mem_of_getElem? hr2) b hb2
      exact ⟨this.1, Nat.lt_of_lt_of_le this.2 hg.size⟩
  · rw [List.getElem?_set] at hi hj
    by_cases e1 : k = i
    · subst e1
      have e2 : ¬ k = j := hij
      rw [if_neg e2] at hj
      simp [hkl] at hi
      subst hi
      rcases hnew b hb2 with e | ⟨h1, h2⟩
      · exact h.apart k j q r' hk hj hij b e hb3
      · have := (h.range r' (List.mem_of_getElem? hj) b hb3).2
        omega
    · rw [if_neg e1] at hi
      by_cases e2 : k = j
      · subst e2
        simp [hkl] at hj
        subst hj
        rcases hnew b hb3 with e | ⟨h1, h2⟩
        · exact h.apart i k r q hi hk hij b hb2 e
        · have := (h.range r (List.mem_of_getElem? hi) b hb2).2
          omega
      · rw [if_neg e2] at hj
        exact h.apart i j r r' hi hj hij b hb2 hb3
  · rcases hmem r hr with rfl | ⟨j, hj, hr2⟩
    · exact hkeep
    · exact h.keeps r (List.mem_of_getElem? hr2)
  · obtain ⟨r, hr, hb2⟩ := hM
    rcases hmem r hr with rfl | ⟨j, hj, hr2⟩
    · rcases hnew b hb2 with e | ⟨h1, h2⟩
      · exact .inl ⟨q, hqm, e⟩
      · exact .inr h1
    · exact .inl ⟨r, List.mem_of_getElem? hr2, hb2⟩
theorem Turn.below {M M' : Nat → Prop} {B : Nat} {w w' : World} (h : Turn M w M' w') (hM : ∀ b, M b → B ≤ b) (hB : B ≤ w.heap.size) : Below B w w' := ⟨h.1.os, h.1.tape, h.1.output, h.1.size, fun k hk => h.1.block k (by omega) (fun hm => by have := hM k hm; omega)⟩
theorem Turn.ints {M M' : Nat → Prop} {w w' : World} (h : Turn M w M' w') {k : IntKind} {l : List Nat} {v : Value} (hr : IntsV k v w l) (hM : ∀ b, blkOf v = some b → ¬ M b) : IntsV k v w' l := by
  obtain ⟨p, c, rfl, hlc, hp⟩ := hr
  refine ⟨p, c, rfl, hlc, fun hne => ?_⟩
  obtain ⟨A, rfl, hA, hc⟩ := hp hne
  exact ⟨A, rfl, Nat.lt_of_lt_of_le hA h.size, fun j x hx => (World.cell?_of_block (by rw [add_block]; exact h.1.block _ hA (hM _ rfl))).trans (hc j x hx)⟩
theorem ints_form {k : IntKind} {v : Value} {w : World} {l : List Nat} {n : Nat} (h : IntsV k v w l) (hn : l.length = n) : ∃ p c, v = .slice p n c ∧ n ≤ c := by
  obtain ⟨p, c, rfl, h2, _⟩ := h
  exact ⟨p, c, by rw [hn], by omega⟩
theorem ints_at {k : IntKind} {p : Option Addr} {n c : Nat} {w : World} {l : List Nat} (h : IntsV k (.slice p n c) w l) {i x : Nat} (hx : l[i]? = some x) : ∃ A, p = some A ∧ A.block < w.heap.size ∧ w.cell? (A.add i) = some (.int k (x : Int)) := by
  obtain ⟨p', c', e1, _, e3⟩ := h
  cases e1
  obtain ⟨A, e4, e6, e5⟩ := e3 (by intro e; rw [e] at hx; cases hx)
  exact ⟨A, e4, e6, e5 i x hx⟩
theorem IntsV.under {k : IntKind} {v : Value} {w w' : World} {l : List Nat} (h : IntsV k v w l) (hb : Below w.heap.size w w') : IntsV k v w' l := (Turn.of_below (M := fun _ => False) hb).ints h (fun _ _ h => h)

/-- Where a row lies. -/
theorem rowG_form {base s n : Nat} {e : TypeId} {v : Value} {xs : List Value} {w : World} (h : w.ownsRow base e s v n xs) (hn : 0 < n) : ∃ g cap cur, v = .slice (some ⟨g, 0, none⟩) n cap ∧ base ≤ g ∧ Blk w g e cur ∧ n ≤ cap ∧ xs.length ≤ cur.size ∧ ∀ (i : Nat) (x : Value), xs[i]? = some x → cur[i]? = some x := by
  obtain ⟨h1, h2⟩ := h
  rcases h2 with ⟨_, h0⟩ | ⟨g, cap, cur, rfl, hb, hg, hc, hm, hs, ht⟩
  · omega
  · have hle : xs.length ≤ cur.size := by rw [h1, hs]; exact Nat.mul_le_mul_right _ hc
    refine ⟨g, cap, cur, rfl, hb, hg, hc, hle, fun i x hx => ?_⟩
    have hi : i < xs.length := (List.getElem?_eq_some_iff.1 hx).1
    have h3 : (cur.toList.take (n * s))[i]? = xs[i]? := by rw [ht]
    rw [List.getElem?_take_of_lt (by omega), Array.getElem?_toList] at h3
    rw [h3, hx]
theorem rowG_set {base g s n cap : Nat} {e : TypeId} {xs : List Value} {cur : Array Value} {w w' : World} (h : w.ownsRow base e s (.slice (some ⟨g, 0, none⟩) n cap) n xs) (hg : Blk w g e cur) (i : Nat) (y : Value) (hw : Blk w' g e (cur.setIfInBounds i y)) : w'.ownsRow base e s (.slice (some ⟨g, 0, none⟩) n cap) n (xs.set i y) := by
  obtain ⟨h1, h2⟩ := h
  rcases h2 with ⟨h3, _⟩ | ⟨g', cap', cur', h3, hb, hg', hc, hm, hs, ht⟩
  · cases h3
  · cases h3
    have : cur' = cur := by
      have hq := hg.symm.trans hg'
      cases hq
      rfl
    subst this
    exact ⟨by rw [List.length_set]; exact h1, .inr ⟨g, cap, _, rfl, hb, hw, hc, hm, by rw [Array.size_setIfInBounds]; exact hs, by rw [Array.toList_setIfInBounds, ← ht, ← List.take_set]⟩⟩
/-- A beginning of a row. -/
theorem rowG_take {base g n m cap : Nat} {e : TypeId} {xs : List Value} {w : World} (h : w.ownsRow base e 1 (.slice (some ⟨g, 0, none⟩) n cap) n xs) (hm : m ≤ n) : w.ownsRow base e 1 (.slice (some ⟨g, 0, none⟩) m cap) m (xs.take m) := by
  obtain ⟨h1, h2⟩ := h
  rcases h2 with ⟨h3, _⟩ | ⟨g', cap', cur', h3, hb, hg', hc, hm2, hs, ht⟩
  · cases h3
  · cases h3
    refine ⟨by rw [List.length_take, h1]; omega, .inr ⟨g, cap, cur', rfl, hb, hg', by omega, hm2, hs, ?_⟩⟩
    rw [← ht, List.take_take, Nat.mul_one, Nat.mul_one, Nat.min_eq_left hm]
theorem rowG_keeps {base s n : Nat} {e : TypeId} {v : Value} {xs : List Value} {w w' : World} {row : Option Nat} (h : w.ownsRow base e s v n xs) (hg : w.grownBy w' row) (hne : blkOf v = none ∨ blkOf v ≠ row) : w'.ownsRow base e s v n xs := World.ownsRow.kept h hg (by rw [rowT_blk h]; exact hne)
theorem info_rule : (Tryd.prog.info? 105).map (fun i => (i.zero, i.size, i.bytes)) = some (some (.agg #[.int .i64 0, .slice none 0 0]), 2, 32) := by kernel_rfl
theorem inf_int : (Tryd.prog.info? 3).map (fun i => (i.zero, i.size, i.bytes)) = some (some (.int .i64 0), 1, 8) := by kernel_rfl
theorem ag_ints : ∀ w, (isAgg 65).run Tryd.prog w = .ok false w := Tryd.isAgg65
theorem sz_ints : ∀ w, (sizeOf 65).run Tryd.prog w = .ok 1 w := Tryd.sizeOf65
theorem sz_rules : ∀ w, (sizeOf 67).run Tryd.prog w = .ok 1 w := Tryd.sizeOf67
theorem run_idxR2 {o : Oper} {a : Act} {x y : Operand} {i l c : Nat} {A : Addr} (ho : o.op = .indexAddr 67 x y) (hx : a.eval x = .slice (some A) l c) (hy : a.eval y = .int .i64 (i : Int)) (hi : i < l) (w : World) : (execOp a.eval o).run Tryd.prog w = .ok (.value (.pointer (some (A.add (i * 2))))) w := by
  have h1 : ((i : Int) < (l : Int)) := by omega
  have hs : ∀ w, (sizeOf 105).run Tryd.prog w = .ok 2 w := fun w => by kernel_rfl
  unfold execOp
  simp only [ho, hx, hy, Instr.indexAt]
  simp [asIntOf, run_underlying Tryd.underlying67, h1, hs, go_sem]
  intro h
  omega
theorem run_fldR0 {o : Oper} {a : Act} {x : Operand} {A : Addr} (ho : o.op = .fieldAddr 105 x 0) (hx : a.eval x = .pointer (some A)) (w : World) : (execOp a.eval o).run Tryd.prog w = .ok (.value (.pointer (some A))) w := by
  unfold execOp
  simp only [ho, hx]
  simp [go_sem, Instr.fieldAt, run_underlying Tryd.underlying105, Addr.add]
theorem run_fldR1 {o : Oper} {a : Act} {x : Operand} {A : Addr} (ho : o.op = .fieldAddr 105 x 1) (hx : a.eval x = .pointer (some A)) (w : World) : (execOp a.eval o).run Tryd.prog w = .ok (.value (.pointer (some (A.add 1)))) w := by
  unfold execOp
  simp only [ho, hx]
  simp [go_sem, Instr.fieldAt, run_underlying Tryd.underlying105]

theorem appR_run {ty : TypeId} {base n m c : Nat} {l ms : List Value} {v : Value} {p : Option Addr} {w : World} (hown : w.ownsRow base 105 2 v n l) (hml : ms.length = m * 2) (hx : m ≠ 0 → ∃ A, p = some A ∧ ∀ (j : Nat) (x : Value), ms[j]? = some x → w.cell? (A.add j) = some x) (h1 : ∀ x ∈ ms, x.oneCell' = true) (hn : n + m ≤ 1000001) (hbase : base ≤ w.heap.size) :
    ∃ v' w', (Builtin.append_ #[67, 67] ty #[v, .slice p m c]).run Tryd.prog w = .ok v' w' ∧ w'.ownsRow base 105 2 v' (n + m) (l ++ ms) ∧ w.grownBy w' (blkOf v) ∧ (blkOf v' = blkOf v ∨ blkOf v' = some w.heap.size) := by
  have hi := info_rule
  cases hq : Tryd.prog.info? 105 with
  | none => rw [hq] at hi; cases hi
  | some i0 =>
  rw [hq] at hi
  simp only [Option.map_some, Option.some.injEq, Prod.mk.injEq] at hi
  obtain ⟨hz0, hz1, hz2⟩ := hi
  have hbl := rowT_blk hown
  cases p with
  | none =>
    have hm0 : m = 0 := by
      rcases Nat.eq_zero_or_pos m with h | h
      · exact h
      · obtain ⟨A, e, _⟩ := hx (by omega); cases e
    subst hm0
    have hms : ms = [] := List.eq_nil_of_length_eq_zero (by omega)
    subst hms
    refine ⟨v, w, ?_, by rw [List.append_nil]; exact hown, ⟨rfl, rfl, rfl, Nat.le_refl _, fun _ _ _ => rfl⟩, .inl rfl⟩
    rcases hown.2 with ⟨rfl, h0⟩ | ⟨g, cap, cur, rfl, _, _, hnc, _⟩
    · simp [Builtin.append_, run_underlying Tryd.underlying67, sizeOf, typeInfo, hq, Builtin.lenOf, Builtin.firstCells, h0]
    · simp [Builtin.append_, run_underlying Tryd.underlying67, sizeOf, typeInfo, hq, Builtin.lenOf, Builtin.firstCells, hnc, storeCells]
  | some A =>
    obtain ⟨v', w', h4, h5, h6, _, h8⟩ := run_append_own_at (P := Tryd.prog) (w := w) base 67 ty 105 i0 (.agg #[.int .i64 0, .slice none 0 0]) 2 32 Tryd.underlying67 hq hz0 hz1 hz2 rfl (by decide) v n l hown A m c ms hml (by
      intro j y hj
      by_cases h0 : m = 0
      · subst h0
        rw [List.eq_nil_of_length_eq_zero (show ms.length = 0 by omega)] at hj
        simp at hj
      · obtain ⟨A', e1, e3⟩ := hx h0
        cases e1
        exact e3 j y hj) h1 (by unfold maxLen; omega) (by omega) hbase
    have hb2 := rowT_blk h5
    rw [hb2, hbl] at h8
    exact ⟨v', w', h4, h5, by rw [← hbl]; exact h6, h8⟩
theorem wl_appR {ops : Array Oper} {rest : List Oper} {o : Oper} {a : Act} {w : World} {Q : Exit → Act → World → Prop} (hgd : o.guard = none) (s x : Operand) (ho : o.op = .call { callee := .builtin .append, args := #[s, x], argTypes := #[67, 67] }) (base n m c : Nat) (l ms : List Value) (v : Value) (p : Option Addr) (hs : a.eval s = v) (hxv : a.eval x = .slice p m c)
    (hown : w.ownsRow base 105 2 v n l) (hml : ms.length = m * 2) (hx : m ≠ 0 → ∃ A, p = some A ∧ ∀ (j : Nat) (x : Value), ms[j]? = some x → w.cell? (A.add j) = some x) (h1 : ∀ x ∈ ms, x.oneCell' = true) (hn : n + m ≤ 1000001) (hbase : base ≤ w.heap.size)
    (hk : ∀ v' w', w'.ownsRow base 105 2 v' (n + m) (l ++ ms) → w.grownBy w' (blkOf v) → (blkOf v' = blkOf v ∨ blkOf v' = some w.heap.size) → wpList Tryd.prog ops Q rest (a.put o.dst v') w') : wpList Tryd.prog ops Q (o :: rest) a w :=
  wpList_plain hgd fun K hK => by
    obtain ⟨v', w', h4, h5, h6, h7⟩ := appR_run (ty := o.type) (c := c) hown hml hx h1 hn hbase
    unfold Oper.wp execOp
    simp only [ho, resolve, invoke, builtin, Sem.run_bind, Sem.run_pure, Result.andThen_ok, List.map_toArray, List.map_cons, List.map_nil, hs, hxv, h4]
    exact hK _ _ (hk v' w' h5 h6 h7)
theorem run_bsR (k : Nat) (p : Option Addr) (m c : Nat) (w : World) : (Instr.buildSlice 67 1 #[(0, .agg #[.int .i64 (k : Int), .slice p m c])]).run Tryd.prog w = .ok (.slice (some ⟨w.heap.size, 0, none⟩) 1 1) (w.alloc (.cells #[.int .i64 (k : Int), .slice p m c] 105)) := by kernel_rfl
theorem wl_bsR {ops : Array Oper} {rest : List Oper} {o : Oper} {a : Act} {w : World} {Q : Exit → Act → World → Prop} (hgd : o.guard = none) (x : Operand) (ho : o.op = .buildSlice 67 1 #[(0, x)]) (k : Nat) (p : Option Addr) (m c : Nat) (hx : a.eval x = .agg #[.int .i64 (k : Int), .slice p m c])
    (h : wpList Tryd.prog ops Q rest (a.put o.dst (.slice (some ⟨w.heap.size, 0, none⟩) 1 1)) (w.alloc (.cells #[.int .i64 (k : Int), .slice p m c] 105))) : wpList Tryd.prog ops Q (o :: rest) a w :=
  wpList_plain hgd fun K hK => by
    have hrun : (execOp a.eval o).run Tryd.prog w = .ok (.value (.slice (some ⟨w.heap.size, 0, none⟩) 1 1)) (w.alloc (.cells #[.int .i64 (k : Int), .slice p m c] 105)) := by
      unfold execOp
      simp only [ho]
      simp [hx, run_bsR]
    unfold Oper.wp
    rw [hrun]
    exact hK _ _ h

theorem run_buildR {o : Oper} {a : Act} {x y : Operand} {k m c : Nat} {p : Option Addr} (ho : o.op = .build 105 #[(0, x), (1, y)]) (hx : a.eval x = .int .i64 (k : Int)) (hy : a.eval y = .slice p m c) (w : World) : (execOp a.eval o).run Tryd.prog w = .ok (.value (.agg #[.int .i64 (k : Int), .slice p m c])) w := by
  have hb : (Instr.build 105 #[(0, .int .i64 (k : Int)), (1, .slice p m c)]).run Tryd.prog w = .ok (.agg #[.int .i64 (k : Int), .slice p m c]) w := by kernel_rfl
  unfold execOp
  simp only [ho]
  simp [hx, hy, hb]
theorem run_bsI (n : Nat) (w : World) : (Instr.buildSlice 65 1 #[(0, .int .i64 (n : Int))]).run Tryd.prog w = .ok (.slice (some ⟨w.heap.size, 0, none⟩) 1 1) (w.alloc (.cells #[.int .i64 (n : Int)] 3)) := by kernel_rfl
theorem wl_bsI {ops : Array Oper} {rest : List Oper} {o : Oper} {a : Act} {w : World} {Q : Exit → Act → World → Prop} (hgd : o.guard = none) (x : Operand) (ho : o.op = .buildSlice 65 1 #[(0, x)]) (n : Nat) (hx : a.eval x = .int .i64 (n : Int))
    (h : wpList Tryd.prog ops Q rest (a.put o.dst (.slice (some ⟨w.heap.size, 0, none⟩) 1 1)) (w.alloc (.cells #[.int .i64 (n : Int)] 3))) : wpList Tryd.prog ops Q (o :: rest) a w :=
  wpList_plain hgd fun K hK => by
    have hrun : (execOp a.eval o).run Tryd.prog w = .ok (.value (.slice (some ⟨w.heap.size, 0, none⟩) 1 1)) (w.alloc (.cells #[.int .i64 (n : Int)] 3)) := by
      unfold execOp
      simp only [ho]
      simp [hx, run_bsI]
    unfold Oper.wp
    rw [hrun]
    exact hK _ _ h
theorem one_int (n : Nat) (w : World) : IntsV .i64 (.slice (some ⟨w.heap.size, 0, none⟩) 1 1) (w.alloc (.cells #[.int .i64 (n : Int)] 3)) [n] := ⟨_, _, rfl, Nat.le_refl _, fun _ => ⟨_, rfl, by rw [alloc_size]; exact Nat.lt_succ_self _, fun j x hx => by
    cases j with
    | zero => cases hx; exact (blk_new w _ _).cell rfl
    | succ j => simp at hx⟩⟩

/-- The cells of rules: a counter, a slice of what they give. -/
def rcells : List Nat → List Value → List Value
  | c :: cs, V :: Vs => .int .i64 (c : Int) :: V :: rcells cs Vs
  | _, _ => []
theorem rcells_append : ∀ {cs : List Nat} {Vs : List Value} (c : Nat) (V : Value), Vs.length = cs.length → rcells (cs ++ [c]) (Vs ++ [V]) = rcells cs Vs ++ [.int .i64 (c : Int), V]
  | [], [], _, _, _ => rfl
  | [], _ :: _, _, _, h => by cases h
  | _ :: _, [], _, _, h => by cases h
  | u :: cs, U :: Vs, c, V, h => by
    have := rcells_append (cs := cs) (Vs := Vs) c V (by simpa using h)
    simp only [List.cons_append, rcells, this]
theorem rcells_get : ∀ {cs : List Nat} {Vs : List Value} {i c : Nat} {V : Value}, cs[i]? = some c → Vs[i]? = some V → (rcells cs Vs)[i * 2]? = some (.int .i64 (c : Int)) ∧ (rcells cs Vs)[i * 2 + 1]? = some V
  | [], _, _, _, _, h, _ => by simp at h
  | _ :: _, [], _, _, _, _, h => by simp at h
  | u :: cs, U :: Vs, 0, c, V, h, h2 => by
    simp at h h2
    subst h h2
    exact ⟨rfl, rfl⟩
  | u :: cs, U :: Vs, i + 1, c, V, h, h2 => by
    simp at h h2
    obtain ⟨h3, h4⟩ := rcells_get (cs := cs) (Vs := Vs) h h2
    rw [show (i + 1) * 2 = i * 2 + 2 by omega]
    exact ⟨h3, h4⟩
theorem rcells_set : ∀ {cs : List Nat} {Vs : List Value} (i c : Nat), rcells (cs.set i c) Vs = (rcells cs Vs).set (i * 2) (.int .i64 (c : Int))
  | [], _, _, _ => by simp [rcells]
  | _ :: _, [], i, _ => by cases i <;> simp [rcells]
  | u :: cs, U :: Vs, 0, c => rfl
  | u :: cs, U :: Vs, i + 1, c => by
    have := rcells_set (cs := cs) (Vs := Vs) i c
    rw [show (i + 1) * 2 = i * 2 + 2 by omega]
    simp only [List.set_cons_succ, rcells, this]
theorem zip_set {α β γ : Type} (f : α → β → γ) : ∀ (l : List α) (m : List β) (i : Nat) (x : α) (y : β), List.zipWith f (l.set i x) (m.set i y) = (List.zipWith f l m).set i (f x y)
  | [], _, _, _, _ => by simp
  | _ :: _, [], i, _, _ => by cases i <;> simp
  | a :: l, b :: m, 0, x, y => rfl
  | a :: l, b :: m, i + 1, x, y => by simp [zip_set f l m i x y]
theorem zip_at {α β γ : Type} (f : α → β → γ) {l : List α} {m : List β} {i : Nat} {x : α} {y : β} (hx : l[i]? = some x) (hy : m[i]? = some y) : (List.zipWith f l m)[i]? = some (f x y) := by
  rw [List.getElem?_zipWith, hx, hy]

/-- The owners of a state. -/
def ruC (rb B : Nat) (va vw vk vf : Value) (gvs wvs : List Value) (s : RS) : List Own :=
  (some rb, fun w => Blk w rb 70 #[va, vw, vk, vf]) :: (blkOf va, fun w => w.ownsRow B 105 2 va s.cs.length (rcells s.cs gvs)) :: (blkOf vw, VRow B 65 wvs vw) :: (blkOf vk, VRow B 4 (s.kn.map Value.bool) vk) :: (blkOf vf, Row B 3 .i64 s.fr vf) :: List.zipWith (fun v l => (blkOf v, Row B 3 .i64 l v)) wvs s.ws
/-- Ints that nobody writes. -/
def GivV (M : Nat → Prop) (w : World) (V : Value) (g : List Nat) : Prop := IntsV .i64 V w g ∧ ∀ b, blkOf V = some b → ¬ M b ∧ b < w.heap.size
theorem GivV.under {M : Nat → Prop} {w w' : World} {V : Value} {g : List Nat} (h : GivV M w V g) (hb : Below w.heap.size w w') : GivV M w' V g := ⟨h.1.under hb, fun b hb2 => ⟨(h.2 b hb2).1, Nat.lt_of_lt_of_le (h.2 b hb2).2 hb.size⟩⟩
theorem GivV.turn {M M' : Nat → Prop} {w w' : World} {V : Value} {g : List Nat} (h : GivV M w V g) (ht : Turn M w M' w') : GivV M' w' V g := ⟨ht.ints h.1 (fun b hb => (h.2 b hb).1), fun b hb => ⟨ht.not (h.2 b hb).1 (h.2 b hb).2, Nat.lt_of_lt_of_le (h.2 b hb).2 ht.size⟩⟩
/-- The rules in memory, with all that they own. -/
structure RuO (rb B : Nat) (va vw vk vf : Value) (gvs wvs : List Value) (s : RS) (w : World) : Prop where
  sep : Sep B (ruC rb B va vw vk vf gvs wvs s) w
  wl : wvs.length = s.ws.length
  gl : gvs.length = s.gs.length
  cl : s.cs.length = s.gs.length
  giv : ∀ (k : Nat) (V : Value) (g : List Nat), gvs[k]? = some V → s.gs[k]? = some g → GivV (SepM (ruC rb B va vw vk vf gvs wvs s)) w V g
  big : B ≤ w.heap.size
def RuV (rb B : Nat) (s : RS) (M : Nat → Prop) (w : World) : Prop := ∃ va vw vk vf gvs wvs, RuO rb B va vw vk vf gvs wvs s w ∧ M = SepM (ruC rb B va vw vk vf gvs wvs s)
/-- The same, where those that wait lie in these slices. -/
def RuW (rb B : Nat) (vw : Value) (wvs : List Value) (s : RS) (M : Nat → Prop) (w : World) : Prop := ∃ va vk vf gvs, RuO rb B va vw vk vf gvs wvs s w ∧ M = SepM (ruC rb B va vw vk vf gvs wvs s)
theorem RuW.to {rb B : Nat} {vw : Value} {wvs : List Value} {s : RS} {M : Nat → Prop} {w : World} (h : RuW rb B vw wvs s M w) : RuV rb B s M w := by
  obtain ⟨va, vk, vf, gvs, h1, h2⟩ := h
  exact ⟨va, vw, vk, vf, gvs, wvs, h1, h2⟩
theorem RuV.from {rb B : Nat} {s : RS} {M : Nat → Prop} {w : World} (h : RuV rb B s M w) : ∃ vw wvs, RuW rb B vw wvs s M w := by
  obtain ⟨va, vw, vk, vf, gvs, wvs, h1, h2⟩ := h
  exact ⟨vw, wvs, va, vk, vf, gvs, h1, h2⟩
section
variable {rb B : Nat} {va vw vk vf : Value} {gvs wvs : List Value} {s : RS} {w w' : World}
theorem RuO.obj (h : RuO rb B va vw vk vf gvs wvs s w) : Blk w rb 70 #[va, vw, vk, vf] := h.sep.at (k := 0) rfl
theorem RuO.all (h : RuO rb B va vw vk vf gvs wvs s w) : w.ownsRow B 105 2 va s.cs.length (rcells s.cs gvs) := h.sep.at (k := 1) rfl
theorem RuO.wait (h : RuO rb B va vw vk vf gvs wvs s w) : VRow B 65 wvs vw w := h.sep.at (k := 2) rfl
theorem RuO.known (h : RuO rb B va vw vk vf gvs wvs s w) : VRow B 4 (s.kn.map Value.bool) vk w := h.sep.at (k := 3) rfl
theorem RuO.fresh (h : RuO rb B va vw vk vf gvs wvs s w) : Row B 3 .i64 s.fr vf w := h.sep.at (k := 4) rfl
theorem RuO.one (h : RuO rb B va vw vk vf gvs wvs s w) {x : Nat} {v : Value} {l : List Nat} (hv : wvs[x]? = some v) (hl : s.ws[x]? = some l) : Row B 3 .i64 l v w := h.sep.at (k := x + 5) (q := (blkOf v, Row B 3 .i64 l v)) (zip_at (fun v l => ((blkOf v, Row B 3 .i64 l v) : Own)) hv hl)
theorem RuO.under (h : RuO rb B va vw vk vf gvs wvs s w) (hb : Below w.heap.size w w') : RuO rb B va vw vk vf gvs wvs s w' := ⟨h.sep.under hb, h.wl, h.gl, h.cl, fun k V g h1 h2 => (h.giv k V g h1 h2).under hb, Nat.le_trans h.big hb.size⟩
theorem RuV.under {M : Nat → Prop} (h : RuV rb B s M w) (hb : Below w.heap.size w w') : RuV rb B s M w' := by
  obtain ⟨va, vw, vk, vf, gvs, wvs, h1, h2⟩ := h
  exact ⟨va, vw, vk, vf, gvs, wvs, h1.under hb, h2⟩
theorem RuV.range {M : Nat → Prop} (h : RuV rb B s M w) {b : Nat} (hb : M b) : B ≤ b ∧ b < w.heap.size := by
  obtain ⟨va, vw, vk, vf, gvs, wvs, h1, rfl⟩ := h
  obtain ⟨q, hq, e⟩ := hb
  exact h1.sep.range q hq b e
theorem RuV.below {M M' : Nat → Prop} (h : RuV rb B s M w) (ht : Turn M w M' w') : Below B w w' := ht.below (fun b hb => (h.range hb).1) (by
  obtain ⟨va, vw, vk, vf, gvs, wvs, h1, rfl⟩ := h
  exact h1.big)
theorem ru_size {n : Nat} {v : Value} {w w2 : World} (hne : blkOf v = some w.heap.size) (hr : ∀ b, blkOf v = some b → b < w2.heap.size) : ∃ n, blkOf v = some n ∧ w.heap.size ≤ n ∧ n < w2.heap.size := ⟨_, hne, Nat.le_refl _, hr _ hne⟩
/-- A place is known. -/
theorem RuO.setKnown (h : RuO rb B va vw vk vf gvs wvs s w) {g n cap x : Nat} {cur : Array Value} (hv : vk = .slice (some ⟨g, 0, none⟩) n cap) (hn : n = s.kn.length) (hb : Blk w g 4 cur) (hw : Blk w' g 4 (cur.setIfInBounds x (.bool true))) (hp : Put w w' g) :
    RuO rb B va vw vk vf gvs wvs { s with kn := s.kn.set x true } w' ∧ Turn (SepM (ruC rb B va vw vk vf gvs wvs s)) w (SepM (ruC rb B va vw vk vf gvs wvs { s with kn := s.kn.set x true })) w' := by
  subst hv
  have hk := h.known
  have hk' : VRow B 4 ((s.kn.set x true).map Value.bool) (.slice (some ⟨g, 0, none⟩) n cap) w' := by
    unfold VRow at *
    rw [List.length_map, ← hn] at hk
    rw [List.length_map, List.length_set, ← hn, List.map_set]
    exact rowG_set hk hb x _ hw
  obtain ⟨h1, h2⟩ := h.sep.set (k := 3) (q := (some g, _)) rfl hp.grown (some g) _ hk' (fun w w' row h hg hne => VRow.keeps h hg hne) h.big (.inl rfl)
  exact ⟨⟨h1, h.wl, h.gl, h.cl, fun k V l h3 h4 => (h.giv k V l h3 h4).turn h2, Nat.le_trans h.big hp.grown.size⟩, h2⟩
/-- What is fresh is another row, of the same block or a new one. -/
theorem RuO.setFresh (h : RuO rb B va vw vk vf gvs wvs s w) {w2 w3 : World} {fr' : List Nat} {vf' : Value} (hr : Row B 3 .i64 fr' vf' w2) (hg : w.grownBy w2 (blkOf vf)) (hne : blkOf vf' = blkOf vf ∨ blkOf vf' = some w.heap.size) (hw : Blk w3 rb 70 #[va, vw, vk, vf']) (hp : Put w2 w3 rb) :
    RuO rb B va vw vk vf' gvs wvs { s with fr := fr' } w3 ∧ Turn (SepM (ruC rb B va vw vk vf gvs wvs s)) w (SepM (ruC rb B va vw vk vf' gvs wvs { s with fr := fr' })) w3 := by
  obtain ⟨h1, h2⟩ := h.sep.set (k := 4) (q := (blkOf vf, _)) rfl hg (blkOf vf') _ hr (fun w w' row h hg hne => Row.keeps h hg hne) h.big (by
    rcases hne with e | e
    · exact .inl e
    · exact .inr (ru_size (n := 0) e (fun b hb => (hr.range b hb).2)))
  obtain ⟨h3, h4⟩ := h1.set (k := 0) (q := (some rb, _)) rfl hp.grown (some rb) (fun w => Blk w rb 70 #[va, vw, vk, vf']) hw (fun w w' row h hg hne => blk_grown hg h (by simpa using hne)) (Nat.le_trans h.big hg.size) (.inl rfl)
  have ht := h2.trans h4
  exact ⟨⟨h3, h.wl, h.gl, h.cl, fun k V l h5 h6 => (h.giv k V l h5 h6).turn ht, Nat.le_trans h.big ht.size⟩, ht⟩
/-- One of those that wait is another row, of the same block or a new one. -/
theorem RuO.setWait (h : RuO rb B va vw vk vf gvs wvs s w) {w2 w3 : World} {x n g cap : Nat} {v v' : Value} {l l' : List Nat} {cur : Array Value} (hv : wvs[x]? = some v) (hl : s.ws[x]? = some l) (hr : Row B 3 .i64 l' v' w2) (hg : w.grownBy w2 (blkOf v)) (hne : blkOf v' = blkOf v ∨ ∃ n, blkOf v' = some n ∧ w.heap.size ≤ n)
    (hvw : vw = .slice (some ⟨g, 0, none⟩) n cap) (hn : n = s.ws.length) (hb : Blk w2 g 65 cur) (hw : Blk w3 g 65 (cur.setIfInBounds x v')) (hp : Put w2 w3 g) :
    RuO rb B va vw vk vf gvs (wvs.set x v') { s with ws := s.ws.set x l' } w3 ∧ Turn (SepM (ruC rb B va vw vk vf gvs wvs s)) w (SepM (ruC rb B va vw vk vf gvs (wvs.set x v') { s with ws := s.ws.set x l' })) w3 := by
  subst hvw
  have hk := h.wait
  have hne2 : (some g : Option Nat) ≠ blkOf v := fun e => h.sep.apart 2 (x + 5) (some g, VRow B 65 wvs (.slice (some ⟨g, 0, none⟩) n cap)) (blkOf v, Row B 3 .i64 l v) rfl (zip_at (fun v l => ((blkOf v, Row B 3 .i64 l v) : Own)) hv hl) (by omega) g rfl e.symm
  have hk2 : VRow B 65 wvs (.slice (some ⟨g, 0, none⟩) n cap) w2 := hk.keeps hg (.inr hne2)
  have hk' : VRow B 65 (wvs.set x v') (.slice (some ⟨g, 0, none⟩) n cap) w3 := by
    unfold VRow at *
    rw [h.wl, ← hn] at hk2
    rw [List.length_set, h.wl, ← hn]
    exact rowG_set hk2 hb x _ hw
  obtain ⟨h1, h2⟩ := h.sep.set (k := x + 5) (q := (blkOf v, _)) (zip_at (fun v l => ((blkOf v, Row B 3 .i64 l v) : Own)) hv hl) hg (blkOf v') _ hr (fun w w' row h hg hne => Row.keeps h hg hne) h.big (by
    rcases hne with e | e
    · exact .inl e
    · obtain ⟨n, e1, e2⟩ := e
      exact .inr ⟨n, e1, e2, (hr.range n e1).2⟩)
  obtain ⟨h3, h4⟩ := h1.set (k := 2) (q := (some g, _)) rfl hp.grown (some g) _ hk' (fun w w' row h hg hne => VRow.keeps h hg hne) (Nat.le_trans h.big hg.size) (.inl rfl)
  have e : (((ruC rb B va (.slice (some ⟨g, 0, none⟩) n cap) vk vf gvs wvs s).set (x + 5) (blkOf v', Row B 3 .i64 l' v')).set 2 (some g, VRow B 65 (wvs.set x v') (.slice (some ⟨g, 0, none⟩) n cap))) = ruC rb B va (.slice (some ⟨g, 0, none⟩) n cap) vk vf gvs (wvs.set x v') { s with ws := s.ws.set x l' } := by
    unfold ruC
    rw [zip_set]
    rfl
  have ht := h2.trans h4
  rw [e] at h3 ht
  exact ⟨⟨h3, by rw [List.length_set, List.length_set]; exact h.wl, h.gl, h.cl, fun k V l h5 h6 => (h.giv k V l h5 h6).turn ht, Nat.le_trans h.big ht.size⟩, ht⟩
/-- A rule more. -/
theorem RuO.addRule (h : RuO rb B va vw vk vf gvs wvs s w) {w2 w3 : World} {n c : Nat} {va' V : Value} {g : List Nat} (hn : n = s.cs.length + 1) (hr : w2.ownsRow B 105 2 va' n (rcells (s.cs ++ [c]) (gvs ++ [V]))) (hg : w.grownBy w2 (blkOf va)) (hne : blkOf va' = blkOf va ∨ blkOf va' = some w.heap.size) (hw : Blk w3 rb 70 #[va', vw, vk, vf]) (hp : Put w2 w3 rb)
    (hV : GivV (SepM (ruC rb B va vw vk vf gvs wvs s)) w V g) :
    RuO rb B va' vw vk vf (gvs ++ [V]) wvs { s with cs := s.cs ++ [c], gs := s.gs ++ [g] } w3 ∧ Turn (SepM (ruC rb B va vw vk vf gvs wvs s)) w (SepM (ruC rb B va' vw vk vf (gvs ++ [V]) wvs { s with cs := s.cs ++ [c], gs := s.gs ++ [g] })) w3 := by
  have hr' : w2.ownsRow B 105 2 va' (s.cs ++ [c]).length (rcells (s.cs ++ [c]) (gvs ++ [V])) := by
    rw [List.length_append, List.length_singleton, ← hn]
    exact hr
  obtain ⟨h1, h2⟩ := h.sep.set (k := 1) (q := (blkOf va, _)) rfl hg (blkOf va') _ hr' (fun w w' row h hg hne => rowG_keeps h hg hne) h.big (by
    rcases hne with e | e
    · exact .inl e
    · exact .inr (ru_size (n := 0) e (fun b hb => (row_range hr b hb).2)))
  obtain ⟨h3, h4⟩ := h1.set (k := 0) (q := (some rb, _)) rfl hp.grown (some rb) (fun w => Blk w rb 70 #[va', vw, vk, vf]) hw (fun w w' row h hg hne => blk_grown hg h (by simpa using hne)) (Nat.le_trans h.big hg.size) (.inl rfl)
  have ht := h2.trans h4
  refine ⟨⟨h3, h.wl, by show (gvs ++ [V]).length = (s.gs ++ [g]).length; rw [List.length_append, List.length_append, h.gl]; rfl, by show (s.cs ++ [c]).length = (s.gs ++ [g]).length; rw [List.length_append, List.length_append, h.cl]; rfl, fun k U l h5 h6 => ?_, Nat.le_trans h.big ht.size⟩, ht⟩
  by_cases hk : k < s.gs.length
  · have h6 : (s.gs ++ [g])[k]? = some l := h6
    rw [List.getElem?_append_left hk] at h6
    rw [List.getElem?_append_left (by rw [h.gl]; exact hk)] at h5
    exact (h.giv k U l h5 h6).turn ht
  · have h6 : (s.gs ++ [g])[k]? = some l := h6
    have hk2 := (List.getElem?_eq_some_iff.1 h6).1
    rw [List.length_append, List.length_singleton] at hk2
    obtain rfl : k = s.gs.length := by omega
    rw [List.getElem?_append_right (Nat.le_refl _), Nat.sub_self] at h6
    rw [List.getElem?_append_right (by rw [h.gl]; exact Nat.le_refl _), h.gl, Nat.sub_self] at h5
    simp at h5 h6
    subst h5 h6
    exact hV.turn ht
/-- A counter is written. -/
theorem RuO.setCount (h : RuO rb B va vw vk vf gvs wvs s w) {g n cap k c : Nat} {cur : Array Value} (hv : va = .slice (some ⟨g, 0, none⟩) n cap) (hn : n = s.cs.length) (hb : Blk w g 105 cur) (hw : Blk w' g 105 (cur.setIfInBounds (k * 2) (.int .i64 (c : Int)))) (hp : Put w w' g) :
    RuO rb B va vw vk vf gvs wvs { s with cs := s.cs.set k c } w' ∧ Turn (SepM (ruC rb B va vw vk vf gvs wvs s)) w (SepM (ruC rb B va vw vk vf gvs wvs { s with cs := s.cs.set k c })) w' := by
  subst hv
  have hk := h.all
  have hk' : w'.ownsRow B 105 2 (.slice (some ⟨g, 0, none⟩) n cap) (s.cs.set k c).length (rcells (s.cs.set k c) gvs) := by
    rw [← hn] at hk
    rw [List.length_set, ← hn, rcells_set]
    exact rowG_set hk hb _ _ hw
  obtain ⟨h1, h2⟩ := h.sep.set (k := 1) (q := (some g, _)) rfl hp.grown (some g) _ hk' (fun w w' row h hg hne => rowG_keeps (v := .slice (some ⟨g, 0, none⟩) n cap) h hg hne) h.big (.inl rfl)
  exact ⟨⟨h1, h.wl, h.gl, by show (s.cs.set k c).length = _; rw [List.length_set]; exact h.cl, fun k V l h3 h4 => (h.giv k V l h3 h4).turn h2, Nat.le_trans h.big hp.grown.size⟩, h2⟩
end
end Go.Proofs.YtniogaimhkcedaaDoor.sh
