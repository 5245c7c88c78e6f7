/-
  Keys of a key and bytes: mac.Keys.
-/
import Derived.Test.YthnkipicehppmaaDoorUR
namespace Go.Proofs.YthnkipicehppmaaDoor.sh
open Go Go.RowKit Go.Shelf
set_option linter.unusedVariables false
set_option linter.unusedSimpArgs false

def flatK (kl : List (List Nat)) : List Value := kl.flatMap fun k => (ints .u8 k).toList
/-- A slice of keys that the call owns. -/
def KRow (base : Nat) (kl : List (List Nat)) : Value → World → Prop := fun v w => w.ownsRow base 24 32 v kl.length (flatK kl)
theorem krow_blk {base : Nat} {kl : List (List Nat)} {v : Value} {w : World} (h : KRow base kl v w) : v.ownBlock = blkOf v := by
  rcases h.2 with ⟨rfl, _⟩ | ⟨g, cap, cur, rfl, _⟩ <;> rfl
theorem KRow.keeps {base : Nat} {kl : List (List Nat)} {v : Value} {w w' : World} {row : Option Nat} (h : KRow base kl v w) (hg : w.grownBy w' row) (hne : blkOf v = none ∨ blkOf v ≠ row) : KRow base kl v w' := World.ownsRow.kept h hg (by rw [krow_blk h]; exact hne)
theorem KRow.range {base : Nat} {kl : List (List Nat)} {v : Value} {w : World} (h : KRow base kl v w) : ∀ b, blkOf v = some b → base ≤ b ∧ b < w.heap.size := fun b hb => h.lt b (by rw [krow_blk h]; exact hb)
theorem KRow.alloc {base : Nat} {kl : List (List Nat)} {v : Value} {w : World} (h : KRow base kl v w) (o : Obj) : KRow base kl v (w.alloc o) := World.ownsRow.alloc h o
theorem KRow.under {base : Nat} {kl : List (List Nat)} {v : Value} {w w' : World} (h : KRow base kl v w) (hb : Below w.heap.size w w') : KRow base kl v w' := h.keeps (grown_under (row := none) hb) (ne_none v)
theorem KRow.mono {base b' : Nat} {kl : List (List Nat)} {v : Value} {w : World} (h : KRow base kl v w) (hb : b' ≤ base) : KRow b' kl v w := by
  obtain ⟨h1, h2⟩ := h
  refine ⟨h1, ?_⟩
  rcases h2 with h | ⟨g, cap, cur, a, b, c⟩
  · exact .inl h
  · exact .inr ⟨g, cap, cur, a, Nat.le_trans hb b, c⟩
theorem key_parts : (Tryd.prog.info? 24).map (fun i => (i.zero, i.size, i.bytes)) = some (some (.agg #[.int .u8 0, .int .u8 0, .int .u8 0, .int .u8 0, .int .u8 0, .int .u8 0, .int .u8 0, .int .u8 0, .int .u8 0, .int .u8 0, .int .u8 0, .int .u8 0, .int .u8 0, .int .u8 0, .int .u8 0, .int .u8 0, .int .u8 0, .int .u8 0, .int .u8 0, .int .u8 0, .int .u8 0, .int .u8 0, .int .u8 0, .int .u8 0, .int .u8 0, .int .u8 0, .int .u8 0, .int .u8 0, .int .u8 0, .int .u8 0, .int .u8 0, .int .u8 0]), 32, 32) := by kernel_rfl
theorem ag_keys (w : World) : (isAgg 32).run Tryd.prog w = .ok false w := by kernel_rfl
theorem sz_keys (w : World) : (sizeOf 32).run Tryd.prog w = .ok 1 w := by kernel_rfl
section
variable {ops : Array Oper} {rest : List Oper} {o : Oper} {a : Act} {w : World} {Q : Exit → Act → World → Prop}
/-- What makes memory, its run known. -/
theorem wv_run {d : Nat} (hd : o.dst = some d) (hw : Region.wanted o (yielded ops a.tmps) = true) (v : Value) (w' : World) (hrun : (execOp a.eval o).run Tryd.prog w = .ok (.value v) w') (h : wpList Tryd.prog ops Q rest (a.put o.dst v) w') : wpList Tryd.prog ops Q (o :: rest) a w :=
  BigFrame.wpList_want hw fun K hK => by
    unfold Oper.wp
    rw [hrun]
    exact hK _ _ h
/-- A slice is stored into a variable. -/
theorem wl_setS (hgd : o.guard = none) (t : TypeId) (sz : ∀ w, (sizeOf t).run Tryd.prog w = .ok 1 w) (x y : Operand) (ho : o.op = .store t x y) (g : Nat) (p : Option Addr) (l c : Nat) (hx : a.eval x = .pointer (some ⟨g, 0, none⟩)) (hy : a.eval y = .slice p l c) {t' : TypeId} (u : Value)
    (hg : Blk w g t' #[u]) (h : ∀ w', Blk w' g t' #[.slice p l c] → Put w w' g → wpList Tryd.prog ops Q rest (a.put o.dst undef) w') : wpList Tryd.prog ops Q (o :: rest) a w :=
  wpList_plain hgd fun K hK => by
    have hc : w.cell? ⟨g, 0, none⟩ = some u := cell_row hg rfl
    have hf : w.frozen? ⟨g, 0, none⟩ = false := frozen_of_row w g 0 #[u] _ hg
    have hrun : (execOp a.eval o).run Tryd.prog w = .ok .skip (w.setCell ⟨g, 0, none⟩ (.slice p l c)) := by
      unfold execOp
      simp only [ho, hx, hy, Instr.storeAt, Instr.sureAddr, Sem.run_bind, Sem.run_pure, Result.andThen_ok]
      simp [storeVar, storeCells, sz, go_sem, hc, hf, Value.cells]
      try rfl
    unfold Oper.wp
    rw [hrun]
    exact hK _ _ (h _ (heap_setCell_same _ _ _ _ _ _ hg) ⟨⟨rfl, rfl, rfl, by simp, fun j _ hj => heap_setCell_other w ⟨g, 0, none⟩ j _ (fun e => hj (by rw [e]))⟩, by simp⟩)
theorem wl_build1 (hg : o.guard = none) (t e : TypeId) (x : Operand) (ho : o.op = .buildSlice t 1 #[(0, x)]) (X : Array Value) (hx : a.eval x = .agg X) (hu : Tryd.prog.underlying t = some (.slice e)) (hsz : (Tryd.prog.info? e).map (·.size) = some X.size) (hz : ((Tryd.prog.info? e).bind (·.zero)).isSome = true) (hpos : 0 < X.size) (hle : X.size ≤ 1000)
    (h : wpList Tryd.prog ops Q rest (a.put o.dst (.slice (some ⟨w.heap.size, 0, none⟩) 1 1)) (w.alloc (.cells X e))) : wpList Tryd.prog ops Q (o :: rest) a w := by
  cases hie : Tryd.prog.info? e with
  | none => simp [hie] at hsz
  | some ie =>
    simp only [hie, Option.map_some, Option.some.injEq, Option.bind_some] at hsz hz
    obtain ⟨z, hzz⟩ := Option.isSome_iff_exists.1 hz
    have hf := Great.fill_whole (s := X.size) hpos [Value.agg X] ((Array.range (1 * X.size)).map (z.cells[· % z.cells.size]!)) (fun v hv => by simp at hv; subst hv; rfl) (by simp)
    refine wpList_buildSlice hg t e 1 #[(0, x)] ho _ ie z hu hie hzz (by rw [hsz]; omega) (by rw [hsz]; omega) ?_ h
    rw [hsz]
    simpa [hx, Value.cells] using hf
theorem wl_appK (hgd : o.guard = none) (s x : Operand) (ho : o.op = .call { callee := .builtin .append, args := #[s, x], argTypes := #[32, 32] }) (base : Nat) (kl : List (List Nat)) (k : List Nat) (hk : k.length = 32) (v : Value) (g : Nat) (hs : a.eval s = v) (hx : a.eval x = .slice (some ⟨g, 0, none⟩) 1 1) (hv : KRow base kl v w) (hg : Blk w g 24 (ints .u8 k)) (hn : kl.length < 1000000) (hbase : base ≤ w.heap.size)
    (hk' : ∀ p l c w', KRow base (kl ++ [k]) (.slice p l c) w' → w.grownBy w' (blkOf v) → (blkOf (.slice p l c) = blkOf v ∨ blkOf (.slice p l c) = some w.heap.size) → wpList Tryd.prog ops Q rest (a.put o.dst (.slice p l c)) w') : wpList Tryd.prog ops Q (o :: rest) a w := by
  obtain ⟨i0, hi, hz0, hz1, hz2⟩ := info_parts key_parts
  refine wpList_append_own_at w hgd s x 32 ho base 24 i0 _ 32 32 Tryd.underlying32 hi hz0 hz1 hz2 rfl (by decide) v kl.length (flatK kl) hs hv ⟨g, 0, none⟩ 1 1 (ints .u8 k).toList hx (by rw [ints_toList, hk]) (by
    intro j u hj
    rw [Array.getElem?_toList] at hj
    rw [addr_add, Nat.zero_add]
    exact hg.cell hj) (oneCell_ints _ _) (by unfold maxLen; omega) (by omega) hbase ?_
  intro v' w' h1 h2 _ h4
  have hrow : KRow base (kl ++ [k]) v' w' := by
    unfold KRow
    rw [List.length_append]
    have : flatK (kl ++ [k]) = flatK kl ++ (ints .u8 k).toList := by simp [flatK]
    rw [this]
    exact h1
  rw [krow_blk hv] at h2
  rw [krow_blk hrow, krow_blk hv] at h4
  obtain ⟨g', cap, rfl⟩ := ownsRow_succ h1
  exact hk' _ _ _ w' hrow h2 h4
end
theorem run_makeK (c : Nat) (hc : c < 1000000) (w : World) : ∃ MC : Array Value, MC.size = c * 32 ∧ (Instr.makeSlice 32 (.int .i64 0) (.int .i64 (c : Int))).run Tryd.prog w = .ok (.slice (some ⟨w.heap.size, 0, none⟩) 0 c) (w.alloc (.cells MC 24)) := by
  obtain ⟨i0, hi, hz0, hz1, hz2⟩ := info_parts key_parts
  have h := run_make (P := Tryd.prog) w 32 24 i0 _ Tryd.underlying32 hi hz0 .i64 .i64 0 (c : Int) (Int.le_refl _) (by omega) (by rw [hz2]; omega) (by omega)
  rw [hz1, Int.toNat_natCast] at h
  exact ⟨_, size_madeCells _ _, h⟩
theorem krow_made (w : World) (base c : Nat) (MC : Array Value) (hM : MC.size = c * 32) (hc : c < 1000000) (hb : base ≤ w.heap.size) : KRow base [] (.slice (some ⟨w.heap.size, 0, none⟩) 0 c) (w.alloc (.cells MC 24)) :=
  ⟨rfl, .inr ⟨w.heap.size, c, MC, rfl, hb, heap_new w _, Nat.zero_le _, Nat.le_of_lt (Nat.lt_of_lt_of_le hc (by decide)), hM, by simp [flatK]⟩⟩
/-- The keys of a key and bytes. -/
def keysL (key b : List Nat) (n : Nat) : List (List Nat) := (List.range n).map fun i => tL (macL key b) [] (i + 1)
theorem keysL_len (key b : List Nat) (n : Nat) : (keysL key b n).length = n := by simp [keysL]
theorem keysL_get (key b : List Nat) (n i : Nat) (h : i < n) : (keysL key b n)[i]? = some (tL (macL key b) [] (i + 1)) := by simp [keysL, h]
theorem chunks_keys (key b : List Nat) (n : Nat) (hn : n ≤ 255) (X : List Nat) (hX : X = expL (macL key b) [] (32 * n)) : (chunks X n).map (·.1) = keysL key b n := by
  have hl : X.length = 32 * n := by rw [hX]; exact expL_len _ _ _ (by omega)
  unfold chunks keysL
  rw [List.map_map]
  refine List.map_congr_left fun i hi => ?_
  have hi' : i < n := by simpa using hi
  show (chunkK X i).1 = _
  have hX' : X = tsL (macL key b) [] n := by rw [hX, ← expL_of _ _ n (32 * n) hn (Nat.le_refl _), List.take_of_length_le (by rw [tsL_len]; exact Nat.le_refl _)]
  rw [chunkK_val hl hi', hX', tsL_cut _ _ n i hi']
theorem blk_own {β : Type} (B : Nat) (Bx : Nat) (t : TypeId) (C : Array Value) : OwnFrom B (fun (_ : β) W => Blk W Bx t C) := fun s W W' row hs hg hr => (hg.block Bx hs.lt (fun e => by
  obtain ⟨_, o, ho, hc⟩ := hr Bx e.symm
  rw [show W.heap[Bx]? = _ from hs] at ho
  cases ho
  cases hc)).trans hs

theorem flatK_at : ∀ (kl : List (List Nat)), (∀ k ∈ kl, k.length = 32) → ∀ (i : Nat) (k : List Nat), kl[i]? = some k → ∀ (j : Nat) (v : Value), (ints .u8 k)[j]? = some v → (flatK kl)[i * 32 + j]? = some v
  | [], _, i, b, h, _, _, _ => by simp at h
  | x :: r, hall, 0, b, h, j, v, hv => by
    simp at h
    subst h
    have hj : j < (ints .u8 x).toList.length := by have := (Array.getElem?_eq_some_iff.1 hv).1; simpa using this
    unfold flatK
    rw [List.flatMap_cons, Nat.zero_mul, Nat.zero_add, List.getElem?_append_left hj, Array.getElem?_toList]
    exact hv
  | x :: r, hall, i + 1, b, h, j, v, hv => by
    have hx : (ints .u8 x).toList.length = 32 := by rw [ints_toList]; exact hall x List.mem_cons_self
    unfold flatK
    rw [List.flatMap_cons, List.getElem?_append_right (by omega), hx, show (i + 1) * 32 + j - 32 = i * 32 + j from by omega]
    exact flatK_at r (fun b hb => hall b (List.mem_cons_of_mem _ hb)) i b (by simpa using h) j v hv
/-- Keys that a slice holds. -/
def KeysV (v : Value) (w : World) (kl : List (List Nat)) : Prop := ∃ p c, v = .slice p kl.length c ∧ kl.length ≤ c ∧ (kl ≠ [] → ∃ g cur, p = some ⟨g, 0, none⟩ ∧ Blk w g 24 cur ∧ ∀ (i : Nat) (k : List Nat), kl[i]? = some k → ∀ (j : Nat) (u : Value), (ints .u8 k)[j]? = some u → cur[i * 32 + j]? = some u)
theorem KRow.keys {base : Nat} {kl : List (List Nat)} {v : Value} {w : World} (h : KRow base kl v w) (hall : ∀ k ∈ kl, k.length = 32) : KeysV v w kl := by
  obtain ⟨h1, h2⟩ := h
  rcases h2 with ⟨rfl, h0⟩ | ⟨g, cap, cur, rfl, hb, hg, hc, hm, hs, ht⟩
  · have : kl = [] := List.eq_nil_of_length_eq_zero h0
    subst this
    exact ⟨none, 0, rfl, Nat.le_refl _, fun hne => absurd rfl hne⟩
  · refine ⟨_, cap, rfl, hc, fun _ => ⟨g, cur, rfl, hg, fun i b hi j v hv => ?_⟩⟩
    have h3 := flatK_at kl hall i b hi j v hv
    rw [← ht, List.getElem?_take] at h3
    split at h3
    · rwa [Array.getElem?_toList] at h3
    · cases h3
theorem KeysV.under {v : Value} {w w' : World} {kl : List (List Nat)} (h : KeysV v w kl) (hb : Below w.heap.size w w') : KeysV v w' kl := by
  obtain ⟨p, c, rfl, h2, h3⟩ := h
  refine ⟨p, c, rfl, h2, fun hne => ?_⟩
  obtain ⟨g, cur, rfl, e2, e3⟩ := h3 hne
  exact ⟨g, cur, rfl, e2.under hb, e3⟩
theorem KeysV.take {p : Option Addr} {l c m : Nat} {w : World} {kl : List (List Nat)} (h : KeysV (.slice p l c) w kl) (hm : m ≤ kl.length) : KeysV (.slice p m c) w (kl.take m) := by
  obtain ⟨p', c', e, h2, h3⟩ := h
  cases e
  refine ⟨p, c, by rw [List.length_take, Nat.min_eq_left hm], by rw [List.length_take]; omega, fun hne => ?_⟩
  have hne' : kl ≠ [] := fun e => hne (by rw [e]; simp)
  obtain ⟨g, cur, rfl, e2, e3⟩ := h3 hne'
  refine ⟨g, cur, rfl, e2, fun i k hi => e3 i k ?_⟩
  rw [List.getElem?_take] at hi
  split at hi
  · exact hi
  · cases hi
theorem sz_key (w : World) : (sizeOf 24).run Tryd.prog w = .ok 32 w := by kernel_rfl
theorem run_idxK {o : Oper} {a : Act} {x y : Operand} {i l c g : Nat} (ho : o.op = .indexAddr 32 x y) (hx : a.eval x = .slice (some ⟨g, 0, none⟩) l c) (hy : a.eval y = .int .i64 (i : Int)) (hi : i < l) (w : World) : (execOp a.eval o).run Tryd.prog w = .ok (.value (.pointer (some ⟨g, i * 32, none⟩))) w := by
  have h1 : ((i : Int) < (l : Int)) := by omega
  unfold execOp
  simp only [ho, hx, hy, Instr.indexAt]
  simp [asIntOf, run_underlying Tryd.underlying32, h1, sz_key, go_sem, Addr.add]
  rw [if_pos hi]
  by_cases h0 : i = 0
  · simp [h0]
  · have : ¬ i * 32 = 0 := by omega
    simp [h0, this]
theorem cutTo_runK {o : Oper} {a : Act} {x z : Operand} {p : Option Addr} {l c m : Nat} (ho : o.op = .slice 32 x none (some z) none) (hx : a.eval x = .slice p l c) (hz : a.eval z = .int .i64 (m : Int)) (hm : m ≤ c) (w : World) :
    (execOp a.eval o).run Tryd.prog w = .ok (.value (.slice p m c)) w := by
  have h2 : ((m : Int) ≤ (c : Int)) := by omega
  have h3 : ∀ q : Addr, q.add 0 = q := fun q => by simp [Addr.add]
  unfold execOp
  simp only [ho, hx, hz, Option.map_some, Option.map_none, Instr.sliceAt, Instr.slice, Instr.sliceBounds, Sem.run_bind, run_underlying Tryd.underlying32, Result.andThen_ok]
  simp [Instr.sliceBound, asIntOf, sz_key, go_sem, h2]
  intro h
  omega
section
variable {P : Program} {h : List Oper} {A0 A : Act} {W0 : World} {S : Nat → Option (Value → World → Prop)} {sp O : List Nat} {E : List (Nat × Nat)} {i : Nat} {o : Oper}
/-- An array in the midst of a block is read. -/
theorem ow_partA (hA : Full h A0 A S sp) (hw : Wants h A0 A S O E W0.heap.size i o) (d : Nat) (v : Value) (hdet : detE h sp E i o = true) (hsel : notSel o = true) (hd : o.dst = some d) (hds : sp.contains d = false) (hO : O.contains d = false) (hv : A.tmps[d]? = some v) (ty : TypeId) (x : Operand) (ho : o.op = .load ty x) (g off : Nat) (hx : A.eval x = .pointer (some ⟨g, off, none⟩)) (t : TypeId) (cs es : Array Value) (len : Nat) (e : TypeId) (hu : P.underlying ty = some (.array len e)) (hi : (P.info? ty).map (·.size) = some es.size)
    (hb : ∀ w, Below W0.heap.size W0 w → Blk w g t cs) (hp : ∀ j v, es[j]? = some v → cs[off + j]? = some v) (hvB : v = .agg es) : OwnOk P h A0 W0 (relR A S) O E i o :=
  ow_q hA hdet hsel hw d v hd hds hO hv fun w hw => by
    unfold Oper.quietAt execOp
    simp only [ho, hx, Instr.loadAt, Instr.sureAddr, Sem.run_bind, Sem.run_pure, Result.andThen_ok, run_loadVar_at w g off t ty cs es (0, 0) _ (hb w hw) hp hu rfl hi]
    exact ⟨rfl, hvB.symm⟩
end
theorem keysL_32 (key b : List Nat) (n : Nat) : ∀ k ∈ keysL key b n, k.length = 32 := fun k hk => by
  simp only [keysL, List.mem_map] at hk
  obtain ⟨i, _, rfl⟩ := hk
  exact tL_len _ _ i
end Go.Proofs.YthnkipicehppmaaDoor.sh
