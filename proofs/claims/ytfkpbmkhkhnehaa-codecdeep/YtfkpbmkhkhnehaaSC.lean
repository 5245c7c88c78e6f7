/-
  Slices whose elements have one cell each, whatever they are: read, owned, appended to; slices of strings.
-/
import Derived.Test.YtfkpbmkhkhnehaaSA
namespace Go.Proofs.Ytfkpbmkhkhnehaa.sh
open Go Go.RowKit
set_option linter.unusedVariables false
set_option linter.unusedSimpArgs false

/-- Values, of one cell each, that a slice holds. -/
def ValsV (v : Value) (w : World) (vs : List Value) : Prop := ∃ p c, v = .slice p vs.length c ∧ vs.length ≤ c ∧ (vs ≠ [] → ∃ A, p = some A ∧ A.block < w.heap.size ∧ ∀ (j : Nat) (x : Value), vs[j]? = some x → w.cell? (A.add j) = some x)
theorem ValsV.below {v : Value} {w w' : World} {vs : List Value} {B : Nat} (h : ValsV v w vs) (hB : ∀ b, blkOf v = some b → b < B) (hb : Below B w w') : ValsV v w' vs := by
  obtain ⟨p, c, rfl, h2, h3⟩ := h
  refine ⟨p, c, rfl, h2, fun hne => ?_⟩
  obtain ⟨A, rfl, e2, e3⟩ := h3 hne
  exact ⟨A, rfl, Nat.lt_of_lt_of_le e2 hb.size, fun j x hx => by rw [hb.cell (by rw [add_block]; exact hB _ rfl)]; exact e3 j x hx⟩
theorem ValsV.under {v : Value} {w w' : World} {vs : List Value} (h : ValsV v w vs) (hb : Below w.heap.size w w') : ValsV v w' vs := by
  obtain ⟨p, c, rfl, hlc, hp⟩ := h
  refine ⟨p, c, rfl, hlc, fun hne => ?_⟩
  obtain ⟨A, rfl, hA, hc⟩ := hp hne
  exact ⟨A, rfl, Nat.lt_of_lt_of_le hA hb.size, fun j x hx => (hb.cell (by rw [add_block]; exact hA)).trans (hc j x hx)⟩
theorem vals_nil (w : World) : ValsV (.slice none 0 0) w [] := ⟨none, 0, rfl, Nat.le_refl _, fun h => absurd rfl h⟩
theorem vals_form {v : Value} {w : World} {vs : List Value} {n : Nat} (h : ValsV v w vs) (hn : vs.length = n) : ∃ p c, v = .slice p n c ∧ n ≤ c := by
  obtain ⟨p, c, rfl, h2, _⟩ := h
  exact ⟨p, c, by rw [hn], by omega⟩
theorem vals_at {p : Option Addr} {n c : Nat} {w : World} {vs : List Value} (h : ValsV (.slice p n c) w vs) {i : Nat} {x : Value} (hx : vs[i]? = some x) : ∃ A, p = some A ∧ A.block < w.heap.size ∧ w.cell? (A.add i) = some x := by
  obtain ⟨p', c', e1, _, e3⟩ := h
  cases e1
  obtain ⟨A, e4, e6, e5⟩ := e3 (by intro e; rw [e] at hx; cases hx)
  exact ⟨A, e4, e6, e5 i x hx⟩
theorem vals_cell {A : Addr} {n c : Nat} {w : World} {vs : List Value} (h : ValsV (.slice (some A) n c) w vs) {i : Nat} {x : Value} (hx : vs[i]? = some x) : w.cell? (A.add i) = some x := by
  obtain ⟨A', e1, _, e2⟩ := vals_at h hx
  cases e1
  exact e2
/-- The same, in a block that the call owns. -/
def VRow (base : Nat) (e : TypeId) (vs : List Value) : Value → World → Prop := fun v w => w.ownsRow base e 1 v vs.length vs
theorem vrow_blk {base : Nat} {e : TypeId} {vs : List Value} {v : Value} {w : World} (h : VRow base e vs v w) : v.ownBlock = blkOf v := by
  rcases h.2 with ⟨rfl, _⟩ | ⟨g, cap, cur, rfl, _⟩ <;> rfl
theorem VRow.keeps {base : Nat} {e : TypeId} {vs : List Value} {v : Value} {w w' : World} {row : Option Nat} (h : VRow base e vs v w) (hg : w.grownBy w' row) (hne : blkOf v = none ∨ blkOf v ≠ row) : VRow base e vs v w' := by
  obtain ⟨h1, h2⟩ := h
  refine ⟨h1, ?_⟩
  rcases h2 with h | ⟨g, cap, cur, rfl, hb, hgt, r⟩
  · exact .inl h
  · refine .inr ⟨g, cap, cur, rfl, hb, ?_, r⟩
    have hlt : g < w.heap.size := (Array.getElem?_eq_some_iff.1 hgt).1
    rw [hg.block g hlt (fun e => by
      rcases hne with h | h
      · cases h
      · exact h e)]
    exact hgt
theorem VRow.mono {base b' : Nat} {e : TypeId} {vs : List Value} {v : Value} {w : World} (h : VRow base e vs v w) (hb : b' ≤ base) : VRow b' e vs v w := by
  obtain ⟨h1, h2⟩ := h
  refine ⟨h1, ?_⟩
  rcases h2 with h | ⟨g, cap, cur, a, b, c⟩
  · exact .inl h
  · exact .inr ⟨g, cap, cur, a, Nat.le_trans hb b, c⟩
theorem VRow.range {base : Nat} {e : TypeId} {vs : List Value} {v : Value} {w : World} (h : VRow base e vs v w) : ∀ b, blkOf v = some b → base ≤ b ∧ b < w.heap.size := fun b hb => h.lt b (by rw [vrow_blk h]; exact hb)
theorem VRow.under {base : Nat} {e : TypeId} {vs : List Value} {v : Value} {w w' : World} (h : VRow base e vs v w) (hb : Below w.heap.size w w') : VRow base e vs v w' := h.keeps (grown_under hb) (ne_none v)
theorem VRow.alloc {base : Nat} {e : TypeId} {vs : List Value} {v : Value} {w : World} (h : VRow base e vs v w) (o : Obj) : VRow base e vs v (w.alloc o) := World.ownsRow.alloc h o
theorem vrow_nil (w : World) (base : Nat) (e : TypeId) : VRow base e [] (.slice none 0 0) w := World.ownsRow_nil w base e 1
theorem vrow_lit {base : Nat} {e : TypeId} (w : World) (A : Array Value) (n : Nat) (hn : A.size = n) (hb : base ≤ w.heap.size) (hm : n ≤ maxLen) : VRow base e A.toList (.slice (some ⟨w.heap.size, 0, none⟩) n n) (w.alloc (.cells A e)) := by
  subst hn
  unfold VRow
  rw [Array.length_toList]
  refine ⟨by simp, .inr ⟨w.heap.size, A.size, A, rfl, hb, heap_new w _, Nat.le_refl _, hm, by omega, ?_⟩⟩
  rw [Nat.mul_one, List.take_of_length_le (by simp)]
theorem vrow_vals {base : Nat} {e : TypeId} {vs : List Value} {v : Value} {w : World} (h : VRow base e vs v w) : ValsV v w vs := by
  rcases h.2 with ⟨rfl, h0⟩ | ⟨g, cap, cur, rfl, hb, hg, hn, hm, hs, ht⟩
  · have : vs = [] := List.eq_nil_of_length_eq_zero h0
    subst this
    exact vals_nil w
  · refine ⟨_, cap, rfl, hn, fun _ => ⟨_, rfl, (Array.getElem?_eq_some_iff.1 hg).1, fun j x hx => ?_⟩⟩
    rw [addr_add, Nat.zero_add]
    refine cell_row hg ?_
    have hj : j < vs.length := (List.getElem?_eq_some_iff.1 hx).1
    have h3 : (cur.toList.take (vs.length * 1))[j]? = vs[j]? := by rw [ht]
    rw [List.getElem?_take_of_lt (by omega), hx, Array.getElem?_toList] at h3
    exact h3
theorem appV_run {P : Program} {t ty e : TypeId} {z : Value} {bytes : Nat} (ht : P.underlying t = some (.slice e)) (hi : (P.info? e).map (fun i => (i.zero, i.size, i.bytes)) = some (some z, 1, bytes)) (hz : z.cells.size = 1) {base : Nat} {l m : List Value} {v u : Value} {w : World} (hown : VRow base e l v w) (hx : ValsV u w m) (h1 : ∀ x ∈ m, x.oneCell' = true) (hn : l.length + m.length ≤ 1099511627776) (hby : bytes ≤ 64) (hbase : base ≤ w.heap.size) :
    ∃ v' w', (Builtin.append_ #[t, t] ty #[v, u]).run P w = .ok v' w' ∧ VRow base e (l ++ m) v' w' ∧ w.grownBy w' (blkOf v) ∧ (blkOf v' = blkOf v ∨ blkOf v' = some w.heap.size) := by
  cases hq : P.info? e with
  | none => rw [hq] at hi; cases hi
  | some i0 =>
  rw [hq] at hi
  simp only [Option.map_some, Option.some.injEq, Prod.mk.injEq] at hi
  obtain ⟨hz0, hz1, hz2⟩ := hi
  obtain ⟨p, c, rfl, h2, h3⟩ := hx
  have hbl := vrow_blk hown
  have hmax : l.length + m.length ≤ maxLen := by unfold maxLen; omega
  have hbb : (l.length + m.length) * bytes ≤ 140737488355328 := Nat.le_trans (Nat.mul_le_mul hn hby) (by decide)
  cases p with
  | none =>
    have hm0 : m = [] := by
      cases m with
      | nil => rfl
      | cons x r => obtain ⟨A, h, _⟩ := h3 (by simp); cases h
    subst hm0
    refine ⟨v, w, ?_, by rw [List.append_nil]; exact hown, ⟨rfl, rfl, rfl, Nat.le_refl _, fun _ _ _ => rfl⟩, .inl rfl⟩
    rcases hown.2 with ⟨rfl, h0⟩ | ⟨g, cap, cur, rfl, _, _, hnc, _⟩
    · simp [Builtin.append_, run_underlying ht, sizeOf, typeInfo, hq, Builtin.lenOf, Builtin.firstCells, h0]
    · simp [Builtin.append_, run_underlying ht, sizeOf, typeInfo, hq, Builtin.lenOf, Builtin.firstCells, hnc, storeCells]
  | some A =>
    obtain ⟨v', w', h4, h5, h6, _, h8⟩ := run_append_own_at (P := P) w base t ty e i0 z 1 bytes ht hq hz0 hz1 hz2 hz (by decide) v l.length l hown A m.length c m (by simp) (by
      intro j y hj
      obtain ⟨A', e1, _, e3⟩ := h3 (by intro e; rw [e] at hj; simp at hj)
      cases e1
      exact e3 j y hj) h1 hmax hbb hbase
    have hrow : VRow base e (l ++ m) v' w' := by unfold VRow; rw [List.length_append]; exact h5
    rw [vrow_blk hrow, hbl] at h8
    exact ⟨v', w', h4, hrow, by rw [← hbl]; exact h6, h8⟩
/-- 'append' in a plain region. -/
theorem wl_appV {ops : Array Oper} {rest : List Oper} {o : Oper} {a : Act} {w : World} {Q : Exit → Act → World → Prop} (hw : Region.wanted o (yielded ops a.tmps) = true) (s x : Operand) (t e : TypeId) (z : Value) (bytes : Nat) (ho : o.op = .call { callee := .builtin .append, args := #[s, x], argTypes := #[t, t] }) (ht : Try.prog.underlying t = some (.slice e)) (hi : (Try.prog.info? e).map (fun i => (i.zero, i.size, i.bytes)) = some (some z, 1, bytes)) (hz : z.cells.size = 1) (hby : bytes ≤ 64) (base : Nat) (l m : List Value) (v u : Value) (hs : a.eval s = v) (hx : a.eval x = u) (hv : VRow base e l v w) (hu : ValsV u w m) (h1 : ∀ x ∈ m, x.oneCell' = true) (hn : l.length + m.length ≤ 1099511627776) (hbase : base ≤ w.heap.size)
    (hk : ∀ v' w', VRow base e (l ++ m) v' w' → w.grownBy w' (blkOf v) → (blkOf v' = blkOf v ∨ blkOf v' = some w.heap.size) → wpList Try.prog ops Q rest (a.put o.dst v') w') : wpList Try.prog ops Q (o :: rest) a w :=
  BigFrame.wpList_want hw fun K hK => by
    obtain ⟨v', w', h4, h5, h6, h7⟩ := appV_run (ty := o.type) ht hi hz hv hu h1 hn hby hbase
    unfold Oper.wp execOp
    simp only [ho, resolve, invoke, builtin, Sem.run_bind, Sem.run_pure, Result.andThen_ok, List.map_toArray, List.map_cons, List.map_nil, hs, hx, h4]
    exact hK _ _ (hk v' w' h5 h6 h7)
theorem vapp_below {w0 w w' : World} {v : Value} {B : Nat} {e : TypeId} {l : List Value} (h : Below B w0 w) (hB : B ≤ w.heap.size) (hr : VRow B e l v w) (hg : w.grownBy w' (blkOf v)) : Below B w0 w' := h.trans (grown_mono hg hB (fun b hb => (hr.range b hb).1))
/-- Strings as values. -/
def strs (ll : List (List Nat)) : List Value := ll.map fun l => .string (strOf l)
theorem strs_len (ll : List (List Nat)) : (strs ll).length = ll.length := by simp [strs]
theorem strs_one (ll : List (List Nat)) : ∀ x ∈ strs ll, x.oneCell' = true := fun x hx => by
  unfold strs at hx
  obtain ⟨l, _, rfl⟩ := List.mem_map.1 hx
  rfl
theorem strs_get {ll : List (List Nat)} {i : Nat} {l : List Nat} (h : ll[i]? = some l) : (strs ll)[i]? = some (.string (strOf l)) := by unfold strs; rw [List.getElem?_map, h]; rfl
theorem strs_append (ll mm : List (List Nat)) : strs (ll ++ mm) = strs ll ++ strs mm := by simp [strs]
end Go.Proofs.Ytfkpbmkhkhnehaa.sh
