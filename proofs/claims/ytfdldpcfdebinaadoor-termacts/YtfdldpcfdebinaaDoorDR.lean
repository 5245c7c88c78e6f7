/-
  The reference's lists of terms in memory; appended to; what is picked of them.
-/
import Derived.Test.YtfdldpcfdebinaaDoorDQ
namespace Go.Proofs.YtfdldpcfdebinaaDoor.sh
open Go Go.RowKit
set_option linter.unusedVariables false
set_option linter.unusedSimpArgs false

/-- The cells of terms: a kind, a slice of parts. -/
def tcells : List TermL → List Value → List Value
  | t :: ts, V :: Vs => .int .u8 (t.1 : Int) :: V :: tcells ts Vs
  | _, _ => []
theorem tcells_len : ∀ {ts : List TermL} {Vs : List Value}, Vs.length = ts.length → (tcells ts Vs).length = ts.length * 2
  | [], [], _ => rfl
  | [], _ :: _, h => by cases h
  | _ :: _, [], h => by cases h
  | t :: ts, V :: Vs, h => by
    have := tcells_len (ts := ts) (Vs := Vs) (by simpa using h)
    simp only [tcells, List.length_cons, this]
    omega
theorem tcells_append : ∀ {ts : List TermL} {Vs : List Value} (t : TermL) (V : Value), Vs.length = ts.length → tcells (ts ++ [t]) (Vs ++ [V]) = tcells ts Vs ++ [.int .u8 (t.1 : Int), V]
  | [], [], _, _, _ => rfl
  | [], _ :: _, _, _, h => by cases h
  | _ :: _, [], _, _, h => by cases h
  | u :: ts, U :: Vs, t, V, h => by
    have := tcells_append (ts := ts) (Vs := Vs) t V (by simpa using h)
    simp only [List.cons_append, tcells, this]
theorem tcells_get : ∀ {ts : List TermL} {Vs : List Value} {i : Nat} {t : TermL} {V : Value}, ts[i]? = some t → Vs[i]? = some V → (tcells ts Vs)[i * 2]? = some (.int .u8 (t.1 : Int)) ∧ (tcells ts Vs)[i * 2 + 1]? = some V
  | [], _, _, _, _, h, _ => by simp at h
  | _ :: _, [], _, _, _, _, h => by simp at h
  | u :: ts, U :: Vs, 0, t, V, h, h2 => by
    simp at h h2
    subst h h2
    exact ⟨rfl, rfl⟩
  | u :: ts, U :: Vs, i + 1, t, V, h, h2 => by
    simp at h h2
    obtain ⟨h3, h4⟩ := tcells_get (ts := ts) (Vs := Vs) h h2
    rw [show (i + 1) * 2 = i * 2 + 2 by omega]
    exact ⟨h3, h4⟩
theorem tcells_one : ∀ {ts : List TermL} {Vs : List Value}, (∀ V ∈ Vs, V.oneCell' = true) → ∀ x ∈ tcells ts Vs, x.oneCell' = true
  | [], _, _, x, hx => by simp [tcells] at hx
  | _ :: _, [], _, x, hx => by simp [tcells] at hx
  | t :: ts, V :: Vs, h, x, hx => by
    simp only [tcells, List.mem_cons] at hx
    rcases hx with rfl | rfl | hx
    · rfl
    · exact h _ List.mem_cons_self
    · exact tcells_one (fun V hV => h V (List.mem_cons_of_mem _ hV)) x hx
/-- Terms that a slice of the reference holds, all in blocks of D. -/
def TsV (D : Nat → Prop) (v : Value) (w : World) (ts : List TermL) : Prop := ∃ (Vs : List Value) (p : Option Addr) (c : Nat), Vs.length = ts.length ∧ v = .slice p ts.length c ∧ ts.length ≤ c ∧
  (ts ≠ [] → ∃ A, p = some A ∧ A.block < w.heap.size ∧ D A.block ∧ ∀ (j : Nat) (x : Value), (tcells ts Vs)[j]? = some x → w.cell? (A.add j) = some x) ∧
  ∀ (j : Nat) (t : TermL) (V : Value), ts[j]? = some t → Vs[j]? = some V → ValsV V w (strs t.2) ∧ ∀ b, blkOf V = some b → D b
theorem ts_nil (D : Nat → Prop) (w : World) : TsV D (.slice none 0 0) w [] := ⟨[], none, 0, rfl, rfl, Nat.le_refl _, fun h => absurd rfl h, fun j t V h => by simp at h⟩
theorem ts_form {D : Nat → Prop} {v : Value} {w : World} {ts : List TermL} {n : Nat} (h : TsV D v w ts) (hn : ts.length = n) : ∃ p c, v = .slice p n c ∧ n ≤ c := by
  obtain ⟨Vs, p, c, _, rfl, h2, _⟩ := h
  exact ⟨p, c, by rw [hn], by omega⟩
theorem TsV.under {D : Nat → Prop} {v : Value} {w w' : World} {ts : List TermL} (h : TsV D v w ts) (hb : Below w.heap.size w w') : TsV D v w' ts := by
  obtain ⟨Vs, p, c, h1, h2, h3, h4, h5⟩ := h
  refine ⟨Vs, p, c, h1, h2, h3, fun hne => ?_, fun j t V ht hV => ⟨(h5 j t V ht hV).1.under hb, (h5 j t V ht hV).2⟩⟩
  obtain ⟨A, e1, e2, e3, e4⟩ := h4 hne
  exact ⟨A, e1, Nat.lt_of_lt_of_le e2 hb.size, e3, fun j x hx => (hb.cell (by rw [add_block]; exact e2)).trans (e4 j x hx)⟩
theorem TsV.turn {D : Nat → Prop} {v : Value} {w w' : World} {ts : List TermL} {M M' : Nat → Prop} (h : TsV D v w ts) (ht : Turn M w M' w') (hD : ∀ b, D b → ¬ M b) : TsV D v w' ts := by
  obtain ⟨Vs, p, c, h1, h2, h3, h4, h5⟩ := h
  refine ⟨Vs, p, c, h1, h2, h3, fun hne => ?_, fun j t V ht' hV => ⟨ht.vals (h5 j t V ht' hV).1 (fun b hb => hD b ((h5 j t V ht' hV).2 b hb)), (h5 j t V ht' hV).2⟩⟩
  obtain ⟨A, e1, e2, e3, e4⟩ := h4 hne
  exact ⟨A, e1, Nat.lt_of_lt_of_le e2 ht.size, e3, fun j x hx => (World.cell?_of_block (by rw [add_block]; exact ht.1.block _ e2 (hD _ e3))).trans (e4 j x hx)⟩
theorem TsV.mono {D D' : Nat → Prop} {v : Value} {w : World} {ts : List TermL} (h : TsV D v w ts) (hD : ∀ b, D b → D' b) : TsV D' v w ts := by
  obtain ⟨Vs, p, c, h1, h2, h3, h4, h5⟩ := h
  refine ⟨Vs, p, c, h1, h2, h3, fun hne => ?_, fun j t V ht hV => ⟨(h5 j t V ht hV).1, fun b hb => hD b ((h5 j t V ht hV).2 b hb)⟩⟩
  obtain ⟨A, e1, e2, e3, e4⟩ := h4 hne
  exact ⟨A, e1, e2, hD _ e3, e4⟩
theorem ts_at {D : Nat → Prop} {p : Option Addr} {n c : Nat} {w : World} {ts : List TermL} {i k : Nat} {ll : List (List Nat)} (h : TsV D (.slice p n c) w ts) (ht : ts[i]? = some (k, ll)) : ∃ A V, p = some A ∧ A.block < w.heap.size ∧ w.cell? (A.add (i * 2)) = some (.int .u8 (k : Int)) ∧ w.cell? ((A.add (i * 2)).add 1) = some V ∧ ValsV V w (strs ll) := by
  obtain ⟨Vs, p', c', h1, h2, h3, h4, h5⟩ := h
  cases h2
  obtain ⟨A, rfl, e2, e3, e4⟩ := h4 (by intro e; rw [e] at ht; simp at ht)
  obtain ⟨V, hV⟩ : ∃ V, Vs[i]? = some V := ⟨_, List.getElem?_eq_getElem (by rw [h1]; exact (List.getElem?_eq_some_iff.1 ht).1)⟩
  obtain ⟨g1, g2⟩ := tcells_get ht hV
  exact ⟨A, V, rfl, e2, e4 _ _ g1, by rw [add_add]; exact e4 _ _ g2, (h5 i _ V ht hV).1⟩

theorem run_idxT {o : Oper} {a : Act} {x y : Operand} {i l c : Nat} {A : Addr} (ho : o.op = .indexAddr 27 x y) (hx : a.eval x = .slice (some A) l c) (hy : a.eval y = .int .i64 (i : Int)) (hi : i < l) (w : World) : (execOp a.eval o).run Tryd.prog w = .ok (.value (.pointer (some (A.add (i * 2))))) w := by
  have h1 : ((i : Int) < (l : Int)) := by omega
  have hs : ∀ w, (sizeOf 41).run Tryd.prog w = .ok 2 w := fun w => by kernel_rfl
  unfold execOp
  simp only [ho, hx, hy, Instr.indexAt]
  simp [asIntOf, run_underlying Tryd.underlying27, h1, hs, go_sem]
  intro h
  omega
theorem run_fldT0 {o : Oper} {a : Act} {x : Operand} {A : Addr} (ho : o.op = .fieldAddr 41 x 0) (hx : a.eval x = .pointer (some A)) (w : World) : (execOp a.eval o).run Tryd.prog w = .ok (.value (.pointer (some A))) w := by
  unfold execOp
  simp only [ho, hx]
  simp [go_sem, Instr.fieldAt, run_underlying Tryd.underlying41, Addr.add]
theorem run_fldT1 {o : Oper} {a : Act} {x : Operand} {A : Addr} (ho : o.op = .fieldAddr 41 x 1) (hx : a.eval x = .pointer (some A)) (w : World) : (execOp a.eval o).run Tryd.prog w = .ok (.value (.pointer (some (A.add 1)))) w := by
  unfold execOp
  simp only [ho, hx]
  simp [go_sem, Instr.fieldAt, run_underlying Tryd.underlying41]

theorem rowT_blk {base : Nat} {e : TypeId} {s n : Nat} {v : Value} {xs : List Value} {w : World} (h : w.ownsRow base e s v n xs) : v.ownBlock = blkOf v := by
  rcases h.2 with ⟨rfl, _⟩ | ⟨g, cap, cur, rfl, _⟩ <;> rfl
theorem appT_run {ty : TypeId} {base n m c : Nat} {l ms : List Value} {v : Value} {p : Option Addr} {w : World} (hown : w.ownsRow base 41 2 v n l) (hml : ms.length = m * 2) (hx : m ≠ 0 → ∃ A, p = some A ∧ ∀ (j : Nat) (x : Value), ms[j]? = some x → w.cell? (A.add j) = some x) (h1 : ∀ x ∈ ms, x.oneCell' = true) (hn : n + m ≤ 1000001) (hbase : base ≤ w.heap.size) :
    ∃ v' w', (Builtin.append_ #[27, 27] ty #[v, .slice p m c]).run Tryd.prog w = .ok v' w' ∧ w'.ownsRow base 41 2 v' (n + m) (l ++ ms) ∧ w.grownBy w' (blkOf v) ∧ (blkOf v' = blkOf v ∨ blkOf v' = some w.heap.size) := by
  have hi := info_term
  cases hq : Tryd.prog.info? 41 with
  | none => rw [hq] at hi; cases hi
  | some i0 =>
  rw [hq] at hi
  simp only [Option.map_some, Option.some.injEq, Prod.mk.injEq] at hi
  obtain ⟨hz0, hz1, hz2⟩ := hi
  have hbl := rowT_blk hown
  cases p with
  | none =>
    have hm0 : m = 0 := by
      rcases Nat.eq_zero_or_pos m with h | h
      · exact h
      · obtain ⟨A, e, _⟩ := hx (by omega); cases e
    subst hm0
    have hms : ms = [] := List.eq_nil_of_length_eq_zero (by omega)
    subst hms
    refine ⟨v, w, ?_, by rw [List.append_nil]; exact hown, ⟨rfl, rfl, rfl, Nat.le_refl _, fun _ _ _ => rfl⟩, .inl rfl⟩
    rcases hown.2 with ⟨rfl, h0⟩ | ⟨g, cap, cur, rfl, _, _, hnc, _⟩
    · simp [Builtin.append_, run_underlying Tryd.underlying27, sizeOf, typeInfo, hq, Builtin.lenOf, Builtin.firstCells, h0]
    · simp [Builtin.append_, run_underlying Tryd.underlying27, sizeOf, typeInfo, hq, Builtin.lenOf, Builtin.firstCells, hnc, storeCells]
  | some A =>
    obtain ⟨v', w', h4, h5, h6, _, h8⟩ := run_append_own_at (P := Tryd.prog) (w := w) base 27 ty 41 i0 (.agg #[.int .u8 0, .slice none 0 0]) 2 32 Tryd.underlying27 hq hz0 hz1 hz2 rfl (by decide) v n l hown A m c ms hml (by
      intro j y hj
      by_cases h0 : m = 0
      · subst h0
        rw [List.eq_nil_of_length_eq_zero (show ms.length = 0 by omega)] at hj
        simp at hj
      · obtain ⟨A', e1, e3⟩ := hx h0
        cases e1
        exact e3 j y hj) h1 (by unfold maxLen; omega) (by omega) hbase
    have hb2 := rowT_blk h5
    rw [hb2, hbl] at h8
    exact ⟨v', w', h4, h5, by rw [← hbl]; exact h6, h8⟩
/-- 'append' of terms in a plain region. -/
theorem wl_appT {ops : Array Oper} {rest : List Oper} {o : Oper} {a : Act} {w : World} {Q : Exit → Act → World → Prop} (hgd : o.guard = none) (s x : Operand) (ho : o.op = .call { callee := .builtin .append, args := #[s, x], argTypes := #[27, 27] }) (base n m c : Nat) (l ms : List Value) (v : Value) (p : Option Addr) (hs : a.eval s = v) (hxv : a.eval x = .slice p m c)
    (hown : w.ownsRow base 41 2 v n l) (hml : ms.length = m * 2) (hx : m ≠ 0 → ∃ A, p = some A ∧ ∀ (j : Nat) (x : Value), ms[j]? = some x → w.cell? (A.add j) = some x) (h1 : ∀ x ∈ ms, x.oneCell' = true) (hn : n + m ≤ 1000001) (hbase : base ≤ w.heap.size)
    (hk : ∀ v' w', w'.ownsRow base 41 2 v' (n + m) (l ++ ms) → w.grownBy w' (blkOf v) → (blkOf v' = blkOf v ∨ blkOf v' = some w.heap.size) → wpList Tryd.prog ops Q rest (a.put o.dst v') w') : wpList Tryd.prog ops Q (o :: rest) a w :=
  wpList_plain hgd fun K hK => by
    obtain ⟨v', w', h4, h5, h6, h7⟩ := appT_run (ty := o.type) (c := c) hown hml hx h1 hn hbase
    unfold Oper.wp execOp
    simp only [ho, resolve, invoke, builtin, Sem.run_bind, Sem.run_pure, Result.andThen_ok, List.map_toArray, List.map_cons, List.map_nil, hs, hxv, h4]
    exact hK _ _ (hk v' w' h5 h6 h7)
theorem run_bsT (k : Nat) (p : Option Addr) (m c : Nat) (w : World) : (Instr.buildSlice 27 1 #[(0, .agg #[.int .u8 (k : Int), .slice p m c])]).run Tryd.prog w = .ok (.slice (some ⟨w.heap.size, 0, none⟩) 1 1) (w.alloc (.cells #[.int .u8 (k : Int), .slice p m c] 41)) := by kernel_rfl
theorem wl_bsT {ops : Array Oper} {rest : List Oper} {o : Oper} {a : Act} {w : World} {Q : Exit → Act → World → Prop} (hgd : o.guard = none) (x : Operand) (ho : o.op = .buildSlice 27 1 #[(0, x)]) (k : Nat) (p : Option Addr) (m c : Nat) (hx : a.eval x = .agg #[.int .u8 (k : Int), .slice p m c])
    (h : wpList Tryd.prog ops Q rest (a.put o.dst (.slice (some ⟨w.heap.size, 0, none⟩) 1 1)) (w.alloc (.cells #[.int .u8 (k : Int), .slice p m c] 41))) : wpList Tryd.prog ops Q (o :: rest) a w :=
  wpList_plain hgd fun K hK => by
    have hrun : (execOp a.eval o).run Tryd.prog w = .ok (.value (.slice (some ⟨w.heap.size, 0, none⟩) 1 1)) (w.alloc (.cells #[.int .u8 (k : Int), .slice p m c] 41)) := by
      unfold execOp
      simp only [ho]
      simp [hx, run_bsT]
    unfold Oper.wp
    rw [hrun]
    exact hK _ _ h

set_option maxRecDepth 100000 in
set_option maxHeartbeats 4000000 in
theorem PickR {x : ActL} {N n g h : Nat} {p : Option Addr} {c : Nat} {w : World} (hx : Blk w g 30 (actA x)) (hh : Blk w h 27 #[.slice p N c]) (hn : n < 256) (hN : N < 1000001) :
    Calls Tryd.prog 24 #[.int .u8 (n : Int), .pointer (some ⟨g, 0, none⟩), .pointer (some ⟨h, 0, none⟩)] w fun e w' => e = .returned (.string (strOf (pickN N x n))) ∧ Below w.heap.size w w' := by
  have c4 : Kept (w.cell? ⟨g, 4, none⟩ = some (.string (strOf x.s))) := ⟨act_cell hx rfl⟩
  have c5 : Kept (w.cell? ⟨g, 5, none⟩ = some (.bool x.raw)) := ⟨act_cell hx rfl⟩
  have cH : Kept (w.cell? ⟨h, 0, none⟩ = some (.slice p N c)) := ⟨hh.cell rfl⟩
  obtain ⟨T, hT⟩ : ∃ T, T = pickN N x n := ⟨_, rfl⟩
  rw [← hT]
  obtain ⟨s, hs⟩ : ∃ s, s = x.s := ⟨_, rfl⟩
  rw [← hs] at c4
  obtain ⟨r, hr⟩ : ∃ r, r = x.raw := ⟨_, rfl⟩
  rw [← hr] at c5
  cases r with
  | true =>
    have KT : Kept (T = s) := ⟨by rw [hT, hs]; unfold pickN; rw [if_pos (.inl hr.symm)]⟩
    clear hx hh hT hs hr cH
    go_enter Tryd.func24, Tryd.ntmps24
    go_wp2_with (first | ((with_reducible refine wv_elem (d := 6) ?hd ?hw 4 Tryd.isAgg4 (.tmp 5) ?ho (⟨g, 5, none⟩) ?hx (.bool true) ?hc ?_); (case hd => rfl); (case hw => kernel_rfl); (case ho => rfl); (case hx => kernel_rfl); (case hc => exact c5.out); simp only [Act.put, List.setIfInBounds_toArray, List.set_cons_succ, List.set_cons_zero]) | ((with_reducible refine wv_elem (d := 13) ?hd ?hw 9 ag_str (.tmp 12) ?ho (⟨g, 4, none⟩) ?hx (.string (strOf s)) ?hc ?_); (case hd => rfl); (case hw => kernel_rfl); (case ho => rfl); (case hx => kernel_rfl); (case hc => exact c4.out); simp only [Act.put, List.setIfInBounds_toArray, List.set_cons_succ, List.set_cons_zero]))
    go_ret
    exact ⟨by rw [KT.out]; rfl, Below.refl _ _⟩
  | false =>
    by_cases hN0 : N = 0
    · have KT : Kept (T = s) := ⟨by rw [hT, hs]; unfold pickN; rw [if_pos (.inr hN0)]⟩
      subst hN0
      clear hx hh hT hs hr
      go_enter Tryd.func24, Tryd.ntmps24
      go_wp2_with (first | ((with_reducible refine wv_elem (d := 6) ?hd ?hw 4 Tryd.isAgg4 (.tmp 5) ?ho (⟨g, 5, none⟩) ?hx (.bool false) ?hc ?_); (case hd => rfl); (case hw => kernel_rfl); (case ho => rfl); (case hx => kernel_rfl); (case hc => exact c5.out); simp only [Act.put, List.setIfInBounds_toArray, List.set_cons_succ, List.set_cons_zero]) | ((with_reducible refine wv_elem (d := 8) ?hd ?hw 27 Tryd.isAgg27 (.tmp 2) ?ho (⟨h, 0, none⟩) ?hx (.slice p 0 c) ?hc ?_); (case hd => rfl); (case hw => kernel_rfl); (case ho => rfl); (case hx => kernel_rfl); (case hc => exact cH.out); simp only [Act.put, List.setIfInBounds_toArray, List.set_cons_succ, List.set_cons_zero]) | ((with_reducible refine wv_elem (d := 13) ?hd ?hw 9 ag_str (.tmp 12) ?ho (⟨g, 4, none⟩) ?hx (.string (strOf s)) ?hc ?_); (case hd => rfl); (case hw => kernel_rfl); (case ho => rfl); (case hx => kernel_rfl); (case hc => exact c4.out); simp only [Act.put, List.setIfInBounds_toArray, List.set_cons_succ, List.set_cons_zero]))
      go_ret
      exact ⟨by rw [KT.out]; rfl, Below.refl _ _⟩
    · obtain ⟨j, hj⟩ : ∃ j, j = n % N := ⟨_, rfl⟩
      have hjn : j < N := by rw [hj]; exact Nat.mod_lt _ (by omega)
      obtain ⟨j1, hj1⟩ : ∃ j1, j1 = j + 1 := ⟨_, rfl⟩
      have hTt : T = termN j1 := by rw [hT, hj1, hj]; unfold pickN; rw [if_neg (by rw [← hr]; simp [hN0])]
      have CN := rNameD (n := j1) (w := w) (by omega)
      rw [← hTt] at CN
      have KCN : Kept _ := ⟨CN⟩
      have KJ : Kept _ := ⟨hj⟩
      have KJ1 : Kept _ := ⟨hj1⟩
      have hj62 : j1 < 4611686018427387904 := by omega
      have hN0 : 0 < N := by omega
      have hnI : n < 4611686018427387904 := by omega
      have B0 : Kept (false = decide ((N : Int) = 0)) := ⟨(decide_eq_false (by omega)).symm⟩
      clear hx hh hT hs hr hTt hj hj1 CN
      go_enter Tryd.func24, Tryd.ntmps24
      go_wp2_with (first | ((with_reducible refine wv_elem (d := 6) ?hd ?hw 4 Tryd.isAgg4 (.tmp 5) ?ho (⟨g, 5, none⟩) ?hx (.bool false) ?hc ?_); (case hd => rfl); (case hw => kernel_rfl); (case ho => rfl); (case hx => kernel_rfl); (case hc => exact c5.out); simp only [Act.put, List.setIfInBounds_toArray, List.set_cons_succ, List.set_cons_zero]) | ((with_reducible refine wv_elem (d := 8) ?hd ?hw 27 Tryd.isAgg27 (.tmp 2) ?ho (⟨h, 0, none⟩) ?hx (.slice p N c) ?hc ?_); (case hd => rfl); (case hw => kernel_rfl); (case ho => rfl); (case hx => kernel_rfl); (case hc => exact cH.out); simp only [Act.put, List.setIfInBounds_toArray, List.set_cons_succ, List.set_cons_zero]) | ((with_reducible refine wv_val (d := 10) ?hd ?hw (.bool false) ?hr ?_); (case hd => rfl); (case hw => kernel_rfl); (case hr => intro w; exact run_eqII (n := 0) rfl (by kernel_rfl) rfl B0.out w); simp only [Act.put, List.setIfInBounds_toArray, List.set_cons_succ, List.set_cons_zero]) | ((with_reducible refine wv_val (d := 15) ?hd ?hw (.int .i64 (n : Int)) ?hr ?_); (case hd => rfl); (case hw => kernel_rfl); (case hr => intro w; exact run_conv83 rfl (by kernel_rfl) hn w); simp only [Act.put, List.setIfInBounds_toArray, List.set_cons_succ, List.set_cons_zero]) | ((with_reducible refine wv_elem (d := 16) ?hd ?hw 27 Tryd.isAgg27 (.tmp 2) ?ho (⟨h, 0, none⟩) ?hx (.slice p N c) ?hc ?_); (case hd => rfl); (case hw => kernel_rfl); (case ho => rfl); (case hx => kernel_rfl); (case hc => exact cH.out); simp only [Act.put, List.setIfInBounds_toArray, List.set_cons_succ, List.set_cons_zero]) | ((with_reducible refine wv_val (d := 18) ?hd ?hw (.int .i64 (j : Int)) ?hr ?_); (case hd => rfl); (case hw => kernel_rfl); (case hr => intro w; exact run_remV rfl (by kernel_rfl) (by kernel_rfl) hN0 KJ.out hnI w); simp only [Act.put, List.setIfInBounds_toArray, List.set_cons_succ, List.set_cons_zero]) | ((with_reducible refine wv_val (d := 19) ?hd ?hw (.int .i64 (j1 : Int)) ?hr ?_); (case hd => rfl); (case hw => kernel_rfl); (case hr => intro w; exact run_addZ 1 rfl (by kernel_rfl) KJ1.out hj62 w); simp only [Act.put, List.setIfInBounds_toArray, List.set_cons_succ, List.set_cons_zero]))
      refine KCN.out.mono ?_
      rintro e w2 ⟨rfl, b2⟩
      go_wp2_with fail
      go_ret
      exact ⟨rfl, b2⟩
end Go.Proofs.YtfdldpcfdebinaaDoor.sh
