/-
  General pieces, joined: UU UX SHG UN UO.
-/
import Derived.Test.YtkibojjbghopkaaDoorG30
import Derived.Test.YtkibojjbghopkaaDoorG29
import Derived.Lib.AppendZeros
import Derived.Test.YtkibojjbghopkaaDoorG27
/-
  Keys of a key and bytes: mac.Keys.
-/
namespace Go.Proofs.YtkibojjbghopkaaDoor.sh
open Go Go.RowKit Go.Shelf
set_option linter.unusedVariables false
set_option linter.unusedSimpArgs false

def flatK (kl : List (List Nat)) : List Value := kl.flatMap fun k => (ints .u8 k).toList
/-- A slice of keys that the call owns. -/
def KRow (base : Nat) (kl : List (List Nat)) : Value → World → Prop := fun v w => w.ownsRow base 22 32 v kl.length (flatK kl)
theorem krow_blk {base : Nat} {kl : List (List Nat)} {v : Value} {w : World} (h : KRow base kl v w) : v.ownBlock = blkOf v := by
  rcases h.2 with ⟨rfl, _⟩ | ⟨g, cap, cur, rfl, _⟩ <;> rfl
theorem KRow.keeps {base : Nat} {kl : List (List Nat)} {v : Value} {w w' : World} {row : Option Nat} (h : KRow base kl v w) (hg : w.grownBy w' row) (hne : blkOf v = none ∨ blkOf v ≠ row) : KRow base kl v w' := World.ownsRow.kept h hg (by rw [krow_blk h]; exact hne)
theorem KRow.range {base : Nat} {kl : List (List Nat)} {v : Value} {w : World} (h : KRow base kl v w) : ∀ b, blkOf v = some b → base ≤ b ∧ b < w.heap.size := fun b hb => h.lt b (by rw [krow_blk h]; exact hb)
theorem KRow.alloc {base : Nat} {kl : List (List Nat)} {v : Value} {w : World} (h : KRow base kl v w) (o : Obj) : KRow base kl v (w.alloc o) := World.ownsRow.alloc h o
theorem KRow.under {base : Nat} {kl : List (List Nat)} {v : Value} {w w' : World} (h : KRow base kl v w) (hb : Below w.heap.size w w') : KRow base kl v w' := h.keeps (grown_under (row := none) hb) (ne_none v)
theorem KRow.mono {base b' : Nat} {kl : List (List Nat)} {v : Value} {w : World} (h : KRow base kl v w) (hb : b' ≤ base) : KRow b' kl v w := by
  obtain ⟨h1, h2⟩ := h
  refine ⟨h1, ?_⟩
  rcases h2 with h | ⟨g, cap, cur, a, b, c⟩
  · exact .inl h
  · exact .inr ⟨g, cap, cur, a, Nat.le_trans hb b, c⟩
theorem key_parts : (Tryd.prog.info? 22).map (fun i => (i.zero, i.size, i.bytes)) = some (some (.agg #[.int .u8 0, .int .u8 0, .int .u8 0, .int .u8 0, .int .u8 0, .int .u8 0, .int .u8 0, .int .u8 0, .int .u8 0, .int .u8 0, .int .u8 0, .int .u8 0, .int .u8 0, .int .u8 0, .int .u8 0, .int .u8 0, .int .u8 0, .int .u8 0, .int .u8 0, .int .u8 0, .int .u8 0, .int .u8 0, .int .u8 0, .int .u8 0, .int .u8 0, .int .u8 0, .int .u8 0, .int .u8 0, .int .u8 0, .int .u8 0, .int .u8 0, .int .u8 0]), 32, 32) := by kernel_rfl
theorem ag_keys (w : World) : (isAgg 27).run Tryd.prog w = .ok false w := by kernel_rfl
theorem sz_keys (w : World) : (sizeOf 27).run Tryd.prog w = .ok 1 w := by kernel_rfl
section
variable {ops : Array Oper} {rest : List Oper} {o : Oper} {a : Act} {w : World} {Q : Exit → Act → World → Prop}
/-- What makes memory, its run known. -/
theorem wv_run {d : Nat} (hd : o.dst = some d) (hw : Region.wanted o (yielded ops a.tmps) = true) (v : Value) (w' : World) (hrun : (execOp a.eval o).run Tryd.prog w = .ok (.value v) w') (h : wpList Tryd.prog ops Q rest (a.put o.dst v) w') : wpList Tryd.prog ops Q (o :: rest) a w :=
  BigFrame.wpList_want hw fun K hK => by
    unfold Oper.wp
    rw [hrun]
    exact hK _ _ h
/-- A slice is stored into a variable. -/
theorem wl_setS (hgd : o.guard = none) (t : TypeId) (sz : ∀ w, (sizeOf t).run Tryd.prog w = .ok 1 w) (x y : Operand) (ho : o.op = .store t x y) (g : Nat) (p : Option Addr) (l c : Nat) (hx : a.eval x = .pointer (some ⟨g, 0, none⟩)) (hy : a.eval y = .slice p l c) {t' : TypeId} (u : Value)
    (hg : Blk w g t' #[u]) (h : ∀ w', Blk w' g t' #[.slice p l c] → Put w w' g → wpList Tryd.prog ops Q rest (a.put o.dst undef) w') : wpList Tryd.prog ops Q (o :: rest) a w :=
  wpList_plain hgd fun K hK => by
    have hc : w.cell? ⟨g, 0, none⟩ = some u := cell_row hg rfl
    have hf : w.frozen? ⟨g, 0, none⟩ = false := frozen_of_row w g 0 #[u] _ hg
    have hrun : (execOp a.eval o).run Tryd.prog w = .ok .skip (w.setCell ⟨g, 0, none⟩ (.slice p l c)) := by
      unfold execOp
      simp only [ho, hx, hy, Instr.storeAt, Instr.sureAddr, Sem.run_bind, Sem.run_pure, Result.andThen_ok]
      simp [storeVar, storeCells, sz, go_sem, hc, hf, Value.cells]
      try rfl
    unfold Oper.wp
    rw [hrun]
    exact hK _ _ (h _ (heap_setCell_same _ _ _ _ _ _ hg) ⟨⟨rfl, rfl, rfl, by simp, fun j _ hj => heap_setCell_other w ⟨g, 0, none⟩ j _ (fun e => hj (by rw [e]))⟩, by simp⟩)
theorem wl_build1 (hg : o.guard = none) (t e : TypeId) (x : Operand) (ho : o.op = .buildSlice t 1 #[(0, x)]) (X : Array Value) (hx : a.eval x = .agg X) (hu : Tryd.prog.underlying t = some (.slice e)) (hsz : (Tryd.prog.info? e).map (·.size) = some X.size) (hz : ((Tryd.prog.info? e).bind (·.zero)).isSome = true) (hpos : 0 < X.size) (hle : X.size ≤ 1000)
    (h : wpList Tryd.prog ops Q rest (a.put o.dst (.slice (some ⟨w.heap.size, 0, none⟩) 1 1)) (w.alloc (.cells X e))) : wpList Tryd.prog ops Q (o :: rest) a w := by
  cases hie : Tryd.prog.info? e with
  | none => simp [hie] at hsz
  | some ie =>
    simp only [hie, Option.map_some, Option.some.injEq, Option.bind_some] at hsz hz
    obtain ⟨z, hzz⟩ := Option.isSome_iff_exists.1 hz
    have hf := Great.fill_whole (s := X.size) hpos [Value.agg X] ((Array.range (1 * X.size)).map (z.cells[· % z.cells.size]!)) (fun v hv => by simp at hv; subst hv; rfl) (by simp)
    refine wpList_buildSlice hg t e 1 #[(0, x)] ho _ ie z hu hie hzz (by rw [hsz]; omega) (by rw [hsz]; omega) ?_ h
    rw [hsz]
    simpa [hx, Value.cells] using hf
theorem wl_appK (hgd : o.guard = none) (s x : Operand) (ho : o.op = .call { callee := .builtin .append, args := #[s, x], argTypes := #[27, 27] }) (base : Nat) (kl : List (List Nat)) (k : List Nat) (hk : k.length = 32) (v : Value) (g : Nat) (hs : a.eval s = v) (hx : a.eval x = .slice (some ⟨g, 0, none⟩) 1 1) (hv : KRow base kl v w) (hg : Blk w g 22 (ints .u8 k)) (hn : kl.length < 1000000) (hbase : base ≤ w.heap.size)
    (hk' : ∀ p l c w', KRow base (kl ++ [k]) (.slice p l c) w' → w.grownBy w' (blkOf v) → (blkOf (.slice p l c) = blkOf v ∨ blkOf (.slice p l c) = some w.heap.size) → wpList Tryd.prog ops Q rest (a.put o.dst (.slice p l c)) w') : wpList Tryd.prog ops Q (o :: rest) a w := by
  obtain ⟨i0, hi, hz0, hz1, hz2⟩ := info_parts key_parts
  refine wpList_append_own_at w hgd s x 27 ho base 22 i0 _ 32 32 Tryd.underlying27 hi hz0 hz1 hz2 rfl (by decide) v kl.length (flatK kl) hs hv ⟨g, 0, none⟩ 1 1 (ints .u8 k).toList hx (by rw [ints_toList, hk]) (by
    intro j u hj
    rw [Array.getElem?_toList] at hj
    rw [addr_add, Nat.zero_add]
    exact hg.cell hj) (oneCell_ints _ _) (by unfold maxLen; omega) (by omega) hbase ?_
  intro v' w' h1 h2 _ h4
  have hrow : KRow base (kl ++ [k]) v' w' := by
    unfold KRow
    rw [List.length_append]
    have : flatK (kl ++ [k]) = flatK kl ++ (ints .u8 k).toList := by simp [flatK]
    rw [this]
    exact h1
  rw [krow_blk hv] at h2
  rw [krow_blk hrow, krow_blk hv] at h4
  obtain ⟨g', cap, rfl⟩ := ownsRow_succ h1
  exact hk' _ _ _ w' hrow h2 h4
end
theorem run_makeK (c : Nat) (hc : c < 1000000) (w : World) : ∃ MC : Array Value, MC.size = c * 32 ∧ (Instr.makeSlice 27 (.int .i64 0) (.int .i64 (c : Int))).run Tryd.prog w = .ok (.slice (some ⟨w.heap.size, 0, none⟩) 0 c) (w.alloc (.cells MC 22)) := by
  obtain ⟨i0, hi, hz0, hz1, hz2⟩ := info_parts key_parts
  have h := run_make (P := Tryd.prog) w 27 22 i0 _ Tryd.underlying27 hi hz0 .i64 .i64 0 (c : Int) (Int.le_refl _) (by omega) (by rw [hz2]; omega) (by omega)
  rw [hz1, Int.toNat_natCast] at h
  exact ⟨_, size_madeCells _ _, h⟩
theorem krow_made (w : World) (base c : Nat) (MC : Array Value) (hM : MC.size = c * 32) (hc : c < 1000000) (hb : base ≤ w.heap.size) : KRow base [] (.slice (some ⟨w.heap.size, 0, none⟩) 0 c) (w.alloc (.cells MC 22)) :=
  ⟨rfl, .inr ⟨w.heap.size, c, MC, rfl, hb, heap_new w _, Nat.zero_le _, Nat.le_of_lt (Nat.lt_of_lt_of_le hc (by decide)), hM, by simp [flatK]⟩⟩
/-- The keys of a key and bytes. -/
def keysL (key b : List Nat) (n : Nat) : List (List Nat) := (List.range n).map fun i => tL (macL key b) [] (i + 1)
theorem keysL_len (key b : List Nat) (n : Nat) : (keysL key b n).length = n := by simp [keysL]
theorem keysL_get (key b : List Nat) (n i : Nat) (h : i < n) : (keysL key b n)[i]? = some (tL (macL key b) [] (i + 1)) := by simp [keysL, h]
theorem chunks_keys (key b : List Nat) (n : Nat) (hn : n ≤ 255) (X : List Nat) (hX : X = expL (macL key b) [] (32 * n)) : (chunks X n).map (·.1) = keysL key b n := by
  have hl : X.length = 32 * n := by rw [hX]; exact expL_len _ _ _ (by omega)
  unfold chunks keysL
  rw [List.map_map]
  refine List.map_congr_left fun i hi => ?_
  have hi' : i < n := by simpa using hi
  show (chunkK X i).1 = _
  have hX' : X = tsL (macL key b) [] n := by rw [hX, ← expL_of _ _ n (32 * n) hn (Nat.le_refl _), List.take_of_length_le (by rw [tsL_len]; exact Nat.le_refl _)]
  rw [chunkK_val hl hi', hX', tsL_cut _ _ n i hi']
theorem blk_own {β : Type} (B : Nat) (Bx : Nat) (t : TypeId) (C : Array Value) : OwnFrom B (fun (_ : β) W => Blk W Bx t C) := fun s W W' row hs hg hr => (hg.block Bx hs.lt (fun e => by
  obtain ⟨_, o, ho, hc⟩ := hr Bx e.symm
  rw [show W.heap[Bx]? = _ from hs] at ho
  cases ho
  cases hc)).trans hs

theorem flatK_at : ∀ (kl : List (List Nat)), (∀ k ∈ kl, k.length = 32) → ∀ (i : Nat) (k : List Nat), kl[i]? = some k → ∀ (j : Nat) (v : Value), (ints .u8 k)[j]? = some v → (flatK kl)[i * 32 + j]? = some v
  | [], _, i, b, h, _, _, _ => by simp at h
  | x :: r, hall, 0, b, h, j, v, hv => by
    simp at h
    subst h
    have hj : j < (ints .u8 x).toList.length := by have := (Array.getElem?_eq_some_iff.1 hv).1; simpa using this
    unfold flatK
    rw [List.flatMap_cons, Nat.zero_mul, Nat.zero_add, List.getElem?_append_left hj, Array.getElem?_toList]
    exact hv
  | x :: r, hall, i + 1, b, h, j, v, hv => by
    have hx : (ints .u8 x).toList.length = 32 := by rw [ints_toList]; exact hall x List.mem_cons_self
    unfold flatK
    rw [List.flatMap_cons, List.getElem?_append_right (by omega), hx, show (i + 1) * 32 + j - 32 = i * 32 + j from by omega]
    exact flatK_at r (fun b hb => hall b (List.mem_cons_of_mem _ hb)) i b (by simpa using h) j v hv
/-- Keys that a slice holds. -/
def KeysV (v : Value) (w : World) (kl : List (List Nat)) : Prop := ∃ p c, v = .slice p kl.length c ∧ kl.length ≤ c ∧ (kl ≠ [] → ∃ g cur, p = some ⟨g, 0, none⟩ ∧ Blk w g 22 cur ∧ ∀ (i : Nat) (k : List Nat), kl[i]? = some k → ∀ (j : Nat) (u : Value), (ints .u8 k)[j]? = some u → cur[i * 32 + j]? = some u)
theorem KRow.keys {base : Nat} {kl : List (List Nat)} {v : Value} {w : World} (h : KRow base kl v w) (hall : ∀ k ∈ kl, k.length = 32) : KeysV v w kl := by
  obtain ⟨h1, h2⟩ := h
  rcases h2 with ⟨rfl, h0⟩ | ⟨g, cap, cur, rfl, hb, hg, hc, hm, hs, ht⟩
  · have : kl = [] := List.eq_nil_of_length_eq_zero h0
    subst this
    exact ⟨none, 0, rfl, Nat.le_refl _, fun hne => absurd rfl hne⟩
  · refine ⟨_, cap, rfl, hc, fun _ => ⟨g, cur, rfl, hg, fun i b hi j v hv => ?_⟩⟩
    have h3 := flatK_at kl hall i b hi j v hv
    rw [← ht, List.getElem?_take] at h3
    split at h3
    · rwa [Array.getElem?_toList] at h3
    · cases h3
theorem KeysV.under {v : Value} {w w' : World} {kl : List (List Nat)} (h : KeysV v w kl) (hb : Below w.heap.size w w') : KeysV v w' kl := by
  obtain ⟨p, c, rfl, h2, h3⟩ := h
  refine ⟨p, c, rfl, h2, fun hne => ?_⟩
  obtain ⟨g, cur, rfl, e2, e3⟩ := h3 hne
  exact ⟨g, cur, rfl, e2.under hb, e3⟩
theorem KeysV.take {p : Option Addr} {l c m : Nat} {w : World} {kl : List (List Nat)} (h : KeysV (.slice p l c) w kl) (hm : m ≤ kl.length) : KeysV (.slice p m c) w (kl.take m) := by
  obtain ⟨p', c', e, h2, h3⟩ := h
  cases e
  refine ⟨p, c, by rw [List.length_take, Nat.min_eq_left hm], by rw [List.length_take]; omega, fun hne => ?_⟩
  have hne' : kl ≠ [] := fun e => hne (by rw [e]; simp)
  obtain ⟨g, cur, rfl, e2, e3⟩ := h3 hne'
  refine ⟨g, cur, rfl, e2, fun i k hi => e3 i k ?_⟩
  rw [List.getElem?_take] at hi
  split at hi
  · exact hi
  · cases hi
theorem sz_key (w : World) : (sizeOf 22).run Tryd.prog w = .ok 32 w := by kernel_rfl
theorem run_idxK {o : Oper} {a : Act} {x y : Operand} {i l c g : Nat} (ho : o.op = .indexAddr 27 x y) (hx : a.eval x = .slice (some ⟨g, 0, none⟩) l c) (hy : a.eval y = .int .i64 (i : Int)) (hi : i < l) (w : World) : (execOp a.eval o).run Tryd.prog w = .ok (.value (.pointer (some ⟨g, i * 32, none⟩))) w := by
  have h1 : ((i : Int) < (l : Int)) := by omega
  unfold execOp
  simp only [ho, hx, hy, Instr.indexAt]
  simp [asIntOf, run_underlying Tryd.underlying27, h1, sz_key, go_sem, Addr.add]
  rw [if_pos hi]
  by_cases h0 : i = 0
  · simp [h0]
  · have : ¬ i * 32 = 0 := by omega
    simp [h0, this]
section
variable {P : Program} {h : List Oper} {A0 A : Act} {W0 : World} {S : Nat → Option (Value → World → Prop)} {sp O : List Nat} {E : List (Nat × Nat)} {i : Nat} {o : Oper}
/-- An array in the midst of a block is read. -/
theorem ow_partK (hA : Full h A0 A S sp) (hw : Wants h A0 A S O E W0.heap.size i o) (d : Nat) (v : Value) (hdet : detE h sp E i o = true) (hsel : notSel o = true) (hd : o.dst = some d) (hds : sp.contains d = false) (hO : O.contains d = false) (hv : A.tmps[d]? = some v) (ty : TypeId) (x : Operand) (ho : o.op = .load ty x) (g off : Nat) (hx : A.eval x = .pointer (some ⟨g, off, none⟩)) (t : TypeId) (cs es : Array Value) (len : Nat) (e : TypeId) (hu : P.underlying ty = some (.array len e)) (hi : (P.info? ty).map (·.size) = some es.size)
    (hb : ∀ w, Below W0.heap.size W0 w → Blk w g t cs) (hp : ∀ j v, es[j]? = some v → cs[off + j]? = some v) (hvB : v = .agg es) : OwnOk P h A0 W0 (relR A S) O E i o :=
  ow_q hA hdet hsel hw d v hd hds hO hv fun w hw => by
    unfold Oper.quietAt execOp
    simp only [ho, hx, Instr.loadAt, Instr.sureAddr, Sem.run_bind, Sem.run_pure, Result.andThen_ok, run_loadVar_at w g off t ty cs es (0, 0) _ (hb w hw) hp hu rfl hi]
    exact ⟨rfl, hvB.symm⟩
end
theorem keysL_32 (key b : List Nat) (n : Nat) : ∀ k ∈ keysL key b n, k.length = 32 := fun k hk => by
  simp only [keysL, List.mem_map] at hk
  obtain ⟨i, _, rfl⟩ := hk
  exact tL_len _ _ i
end Go.Proofs.YtkibojjbghopkaaDoor.sh
/-
  Keys of a key and bytes: mac.Keys, where it is not refused.
-/
namespace Go.Proofs.YtkibojjbghopkaaDoor.sh
open Go Go.RowKit Go.Shelf
set_option linter.unusedVariables false
set_option linter.unusedSimpArgs false

theorem zip_one (p : Nat) (v : Value) (T : Array Value) : Array.foldl (fun t (x : Nat × Value) => match x with | (p, v) => t.setIfInBounds p v) T (Array.zip #[p] #[v]) = T.setIfInBounds p v := by simp
def vals (pre : List K32) : List (List Nat) := pre.map (·.1)
theorem vals_snoc (pre : List K32) (x : K32) : vals (pre ++ [x]) = vals pre ++ [x.1] := by simp [vals]
theorem vals_len (pre : List K32) : (vals pre).length = pre.length := by simp [vals]
set_option maxRecDepth 100000 in
set_option maxHeartbeats 4000000 in
theorem Keys_ok (key b : List Nat) (n : Nat) (vb : Value) (w : World) (hk : key.length = 32) (hy : Bytes key) (hb : Bytes b) (hbn : b.length < 800000000) (h1 : 1 ≤ n) (h3 : n ≤ 3) (hr : RootsAt w) (hvb : BytesV vb w b) :
    Calls Tryd.prog 7 #[.agg (ints .u8 key), vb, .int .i64 (n : Int)] w fun e w' => ∃ v, e = .returned (.tuple #[v, .int .i64 0]) ∧ KRow w.heap.size (keysL key b n) v w' ∧ Below w.heap.size w w' := by
  have KR : Kept _ := ⟨hr⟩
  have LK : Kept _ := ⟨hk⟩
  have YK : Kept _ := ⟨hy⟩
  have YB : Kept _ := ⟨hb⟩
  have NB : Kept _ := ⟨hbn⟩
  have KV : Kept _ := ⟨hvb⟩
  have h0 := hr.1
  obtain ⟨pb, cb, eb, _, _⟩ := hvb
  obtain ⟨nb, hnb⟩ : ∃ n, n = b.length := ⟨_, rfl⟩
  rw [← hnb] at eb
  subst eb
  obtain ⟨E, hE⟩ : ∃ E, E = macL key b := ⟨_, rfl⟩
  have EE : Kept _ := ⟨hE⟩
  have LE : Kept (E.length = 32) := ⟨by rw [hE]; exact macL_len _ _⟩
  have YE : Kept (Bytes E) := ⟨by rw [hE]; exact macL_bytes _ _⟩
  obtain ⟨M, hM⟩ : ∃ M, M = 32 * n := ⟨_, rfl⟩
  have EM : Kept _ := ⟨hM⟩
  have M96 : M ≤ 96 := by omega
  obtain ⟨X, hX⟩ : ∃ X, X = expL E [] M := ⟨_, rfl⟩
  have EX : Kept _ := ⟨hX⟩
  have LX : Kept (X.length = M) := ⟨by rw [hX]; exact expL_len _ _ _ (by omega)⟩
  have A0 : Blk (w.alloc (.cells (ints .u8 key) 22)) w.heap.size 22 (ints .u8 key) := blk_new w _ _
  have Q0 : Below w.heap.size w (w.alloc (.cells (ints .u8 key) 22)) := (Below.refl _ _).alloc (Nat.le_refl _) _
  obtain ⟨MC, hMC, hmk⟩ := run_makeK n (by omega) (w.alloc (.cells (ints .u8 key) 22))
  have MK : Kept (∀ {o : Oper} {a : Act}, o.op = .makeSlice 27 (.const (.int .i64 0)) (.tmp 16) → a.eval (.tmp 16) = .int .i64 (n : Int) → (execOp a.eval o).run Tryd.prog (w.alloc (.cells (ints .u8 key) 22)) = .ok (.value (.slice (some ⟨w.heap.size + 1, 0, none⟩) 0 n)) ((w.alloc (.cells (ints .u8 key) 22)).alloc (.cells MC 22))) := ⟨fun ho hx => by
    have e3 : ∀ a : Act, a.eval (.const (.int .i64 0)) = .int .i64 0 := fun _ => rfl
    unfold execOp
    simp only [ho, hx, e3]
    rw [World.size_alloc] at hmk
    simp [hmk]⟩
  have h1' : ¬ (n : Int) < 1 := by omega
  have h3' : ¬ (3 : Int) < (n : Int) := by omega
  have R17 : Kept (KRow w.heap.size [] (.slice (some ⟨w.heap.size + 1, 0, none⟩) 0 n) ((w.alloc (.cells (ints .u8 key) 22)).alloc (.cells MC 22))) := ⟨by
    have := krow_made (w.alloc (.cells (ints .u8 key) 22)) w.heap.size n MC hMC (by omega) Q0.size
    rwa [World.size_alloc] at this⟩
  clear hk hy hb hbn hr hE hM hX hnb hmk hMC
  refine (callsIn_wide (n := 5)).1 (callsIn_of_wp_marks Tryd.func7 rfl trivial (wpIn_wide.2 ?_))
  simp only [Tryd.ntmps7, List.size_toArray, List.length_cons, List.length_nil, Nat.reduceAdd, Nat.reduceSub, Array.replicate_succ, Array.replicate_zero, List.push_toArray, List.append_toArray, List.nil_append, List.cons_append]
  have A8 : Blk (((w.alloc (.cells (ints .u8 key) 22)).alloc (.cells MC 22)).alloc (.cells #[.slice none 0 0] 27)) (w.heap.size + 2) 27 #[.slice none 0 0] := blk_top _ _ _ _ (by simp)
  go_wp2_with (first | ((with_reducible refine wv_run (d := 17) ?hd ?hw (.slice (some ⟨w.heap.size + 1, 0, none⟩) 0 n) ((w.alloc (.cells (ints .u8 key) 22)).alloc (.cells MC 22)) ?hr ?_); (case hd => rfl); (case hw => kernel_rfl); (case hr => exact MK.out rfl (by kernel_rfl)); simp only [Act.put, List.setIfInBounds_toArray, List.set_cons_succ, List.set_cons_zero]) | (refine wl_setS rfl 27 sz_keys (.tmp 8) (.tmp 17) rfl (w.heap.size + 2) (some ⟨w.heap.size + 1, 0, none⟩) 0 n rfl rfl (.slice none 0 0) A8 ?_))
  intro w2 A82 P2
  have A2 : Blk w2 w.heap.size 22 (ints .u8 key) := P2.blk ((A0.alloc _).alloc _) (by omega)
  have Q2 : Below w.heap.size w w2 := (((Q0.alloc Q0.size _).alloc (by simp; omega) _)).trans (P2.below (by omega))
  have K2 : Kept (KRow w.heap.size [] (.slice (some ⟨w.heap.size + 1, 0, none⟩) 0 n) w2) := ⟨(R17.out.alloc _).keeps P2.grown (.inr (by simp [blkOf]))⟩
  have s2 := A82.lt
  clear A0 Q0 A8 P2 R17 MK
  go_wp2_with fail
  refine (mExtract_any key b _ _ w2 YK.out (by rw [LK.out]; decide) YB.out (by have := NB.out; omega) (KR.out.below h0 Q2) (arr_bytes A2 LK.out) (KV.out.under Q2)).mono ?_
  rintro e w3 ⟨rfl, hb3⟩
  rw [← EE.out]
  have A83 := A82.under hb3
  have Q3 := Q2.trans (hb3.mono Q2.size)
  have K3 : Kept _ := ⟨K2.out.under hb3⟩
  have s3 := Nat.lt_of_lt_of_le s2 hb3.size
  clear A2 A82 Q2 K2 hb3 s2
  go_wp2_with (first | ((with_reducible refine wv_val (d := 22) ?hd ?hw (.int .i64 (M : Int)) ?hr ?_); (case hd => rfl); (case hw => kernel_rfl); (case hr => intro w; exact run_mulV 32 rfl (by kernel_rfl) (by rw [EM.out, Nat.mul_comm]) (by omega) w); simp only [Act.put, List.setIfInBounds_toArray, List.set_cons_succ, List.set_cons_zero]))
  refine (expanded_any E [] M (.slice none 0 0) w3 LE.out YE.out nil_bytes (by decide) (by omega) (KR.out.below h0 Q3) ⟨none, 0, rfl, Nat.le_refl _, fun h => absurd rfl h⟩).mono ?_
  rintro e w4 ⟨v23, rfl, RX, hb4⟩
  rw [← EX.out] at RX
  obtain ⟨gx, cx, cur, e23, hgx, hBx, hsx, hcur⟩ := Row.form RX (by rw [LX.out]; have := EM.out; omega)
  have hcx : M ≤ cx := by
    obtain ⟨_, cx', e24, hl, _⟩ := row_cells RX
    rw [e23] at e24
    cases e24
    rw [← LX.out]
    exact hl
  rw [LX.out] at e23
  subst e23
  have A84 := A83.under hb4
  have Q4 := Q3.trans (hb4.mono Q3.size)
  have K4 : Kept _ := ⟨K3.out.under hb4⟩
  have KCU : Kept _ := ⟨hcur⟩
  have s4 := Nat.lt_of_lt_of_le s3 hb4.size
  clear RX A83 Q3 K3 hb4 hcur
  go_wp2_with fail
  refine (cut_any _ _ _ w4).mono ?_
  rintro e w5 ⟨rfl, rfl⟩
  have A85 := A84.alloc (.cells #[.slice (some ⟨gx, 0, none⟩) M cx] 23)
  have Q5 : Below w.heap.size w (w4.alloc (.cells #[.slice (some ⟨gx, 0, none⟩) M cx] 23)) := Q4.alloc Q4.size _
  have K5 : Kept (KRow w.heap.size [] (.slice (some ⟨w.heap.size + 1, 0, none⟩) 0 n) (w4.alloc (.cells #[.slice (some ⟨gx, 0, none⟩) M cx] 23))) := ⟨K4.out.alloc _⟩
  have hBx5 := hBx.alloc (.cells #[.slice (some ⟨gx, 0, none⟩) M cx] 23)
  have hBb5 : Blk (w4.alloc (.cells #[.slice (some ⟨gx, 0, none⟩) M cx] 23)) w4.heap.size 23 #[.slice (some ⟨gx, 0, none⟩) M cx] := blk_new w4 _ _
  have sL : (w4.alloc (.cells #[.slice (some ⟨gx, 0, none⟩) M cx] 23)).heap.size = w4.heap.size + 1 := by simp
  have gx4 := hBx.lt
  generalize hWL : w4.alloc (.cells #[.slice (some ⟨gx, 0, none⟩) M cx] 23) = wL at *
  generalize hgb : w4.heap.size = gb at *
  clear hWL hgb A84 Q4 K4 hBx hsx
  go_wp2_with fail
  have gxL : gx < wL.heap.size := hBx5.lt
  have gbL : gb < wL.heap.size := hBb5.lt
  have g8L : w.heap.size + 1 + 1 < wL.heap.size := A85.lt
  have hM32 : Kept (M = 32 * n) := ⟨EM.out⟩
  have hseq := cut1_stops 4 (by decide) gb n gx cx (by omega) X cur wL (by rw [← EM.out]; exact hBb5) (by rw [← EM.out]; exact hcx) (by rw [← EM.out]; exact LX.out) hBx5 KCU.out
  have hInv : OwnFrom wL.heap.size (fun (pre : List K32) (W : World) => (∃ v, Blk W (w.heap.size + 1 + 1) 27 #[v] ∧ KRow w.heap.size (vals pre) v W ∧ blkOf v ≠ some gx ∧ blkOf v ≠ some gb ∧ blkOf v ≠ some (w.heap.size + 1 + 1)) ∧ Below w.heap.size w W ∧ wL.heap.size ≤ W.heap.size) := by
    rintro pre W W' row ⟨⟨v, hB, hR, hne⟩, hb, hs⟩ hg hr
    refine ⟨⟨v, blk_own wL.heap.size _ _ _ () W W' row hB hg hr, hR.keeps hg ?_, hne⟩, hb.grown hg hb.size (fun k e => Nat.le_trans Q5.size (hr k e).1), Nat.le_trans hs hg.size⟩
    cases hbv : blkOf v with
    | none => exact .inl rfl
    | some bv =>
      refine .inr fun e => ?_
      obtain ⟨_, o, ho, hc⟩ := hr bv e.symm
      rcases hR.2 with ⟨rfl, _⟩ | ⟨g, cap, cu, rfl, _, hgb, _⟩
      · cases hbv
      · cases hbv
        rw [hgb] at ho
        cases ho
        cases hc
  refine (wpIn_wide (n := 5)).1 ?_
  refine wpIn_rangeFunc_ownH (F := Fence.wide) rfl (by decide) (gf := 26) (lb := #[.pointer (some ⟨gb, 0, none⟩)]) rfl trivial (enters_of Tryd.func26 (by kernel_rfl) rfl) hseq (fun h h' => h.trans h') (keep2_b gxL gbL) (Below.refl _ _) (fun _ => rfl)
    (fun (pre : List K32) (W : World) => (∃ v, Blk W (w.heap.size + 1 + 1) 27 #[v] ∧ KRow w.heap.size (vals pre) v W ∧ blkOf v ≠ some gx ∧ blkOf v ≠ some gb ∧ blkOf v ≠ some (w.heap.size + 1 + 1)) ∧ Below w.heap.size w W ∧ wL.heap.size ≤ W.heap.size) (fun _ _ _ => False) hInv (fun _ _ _ _ _ hs _ _ => hs) ⟨⟨_, A85, K5.out, by simp [blkOf]; omega, by simp [blkOf]; omega, by simp [blkOf]⟩, Q5, Nat.le_refl _⟩ (fun (x : K32) (a' : Act) (W : World) => ∃ Bx, Blk W Bx 22 (ints .u8 x.1) ∧ a' = { tmps := #[.agg (ints .u8 key), .slice pb nb cb, .int .i64 (n : Int), .pointer (some ⟨w.heap.size, 0, none⟩), undef, undef, .slice none 0 0, .int .i64 0, .pointer (some ⟨w.heap.size + 1 + 1, 0, none⟩), .pointer (some ⟨Bx, 0, none⟩), .int .i64 (n : Int), .bool false, .bool false, .int .i64 (n : Int), .bool false, .bool false, .int .i64 (n : Int), .slice (some ⟨w.heap.size + 1, 0, none⟩) 0 n, .slice (some ⟨w.heap.size, 0, none⟩) 32 32, .slice pb nb cb, .agg (ints .u8 E), .int .i64 (n : Int), .int .i64 (M : Int), .slice (some ⟨gx, 0, none⟩) M cx, .func (.func 26) #[] #[.pointer (some ⟨gb, 0, none⟩)], .agg (ints .u8 x.1), undef, undef, undef, undef, undef], defers := [] }) (fun x a' s W W' row hs hg hr => by
      obtain ⟨Bx, h1, h2⟩ := hs
      exact ⟨Bx, blk_own wL.heap.size _ _ _ () W W' row h1 hg hr, h2⟩) ?assign ?body ?done ?stop
  case stop =>
    rintro D c pre W _ _ h _
    exact h.elim
  case assign =>
    rintro l pre x W K hI hK
    refine region_round (fun h => by obtain ⟨_, _, h⟩ := h; exact h) rfl ?_
    simp only [zip_one, List.setIfInBounds_toArray, List.set_cons_succ, List.set_cons_zero]
    have LC : Kept (x.1.length = 32) := ⟨x.2⟩
    have KH : Kept _ := ⟨hI⟩
    clear hI
    go_wp2_with (first | (refine wl_store rfl 22 (.tmp 9) (.tmp 25) rfl W.heap.size (ints .u8 x.1) rfl rfl _ (blk_new W _ _) (by rw [ints_size, LC.out]; exact t32_info) (by rw [ints_size, LC.out]; rfl) (ints_one _ _) ?_))
    intro W' A' P'
    have hbW : Below W.heap.size W W' := ((Below.refl _ _).alloc (Nat.le_refl _) _).trans (P'.below (Nat.le_refl _))
    have kO : KeepsOthers W W' := (KeepsOthers.alloc _ _).trans (KeepsOthers.of_grownBy P'.grown (fun j o ej hj => by cases ej; rw [show (W.alloc _).heap[W.heap.size]? = _ from blk_new W _ _] at hj; cases hj; rfl))
    have hI' := hInv pre W W' none KH.out (grown_none hbW) (fun r e => by cases e)
    have hL := KH.out.2.2
    go_wp2
    exact hK _ _ (kO.from _) (Keep2.below hbW (by omega) (by omega)) hI' ⟨W.heap.size, A', rfl⟩
  case body =>
    rintro l pre x a' W hl _ ⟨⟨v, hB, hR, hn1, hn2, hn3⟩, hb, hs⟩ ⟨Bx, hBx, rfl⟩ hlt
    refine wpIn_block (region_round (fun h => by obtain ⟨_, _, h⟩ := h; exact h) rfl ?_)
    obtain ⟨p8, l8, c8, rfl⟩ : ∃ p l c, v = .slice p l c := by
      rcases hR.2 with ⟨rfl, _⟩ | ⟨g, cap, cu, rfl, _⟩ <;> exact ⟨_, _, _, rfl⟩
    have LC : Kept (x.1.length = 32) := ⟨x.2⟩
    have KI : Kept ((Tryd.prog.info? 22).map (·.size) = some (ints .u8 x.1).size) := ⟨by rw [ints_size, x.2]; exact t32_info⟩
    have KZ : Kept (((Tryd.prog.info? 22).bind (·.zero)).isSome = true) := ⟨by kernel_rfl⟩
    have s1 : Kept (0 < (ints .u8 x.1).size) := ⟨by rw [ints_size, x.2]; decide⟩
    have s2 : Kept ((ints .u8 x.1).size ≤ 1000) := ⟨by rw [ints_size, x.2]; decide⟩
    have RA : KRow w.heap.size (vals pre) (.slice p8 l8 c8) (W.alloc (.cells (ints .u8 x.1) 22)) := hR.alloc _
    have BA : Blk (W.alloc (.cells (ints .u8 x.1) 22)) W.heap.size 22 (ints .u8 x.1) := blk_new W _ _
    have nK : (vals pre).length < 1000000 := by rw [vals_len]; omega
    have hbA : w.heap.size ≤ (W.alloc (.cells (ints .u8 x.1) 22)).heap.size := by have := hb.size; simp; omega
    have hc8 := hB.cell (j := 0) rfl
    go_wp2_with (first | ((with_reducible refine wv_elem (d := 26) ?hd ?hw 27 ag_keys (.tmp 8) ?ho ⟨w.heap.size + 1 + 1, 0, none⟩ ?hx (.slice p8 l8 c8) ?hg ?_); (case hd => rfl); (case hw => kernel_rfl); (case ho => rfl); (case hx => first | rfl | kernel_rfl); (case hg => exact hc8); simp only [Act.put, List.setIfInBounds_toArray, List.set_cons_succ, List.set_cons_zero]) | ((with_reducible refine wv_row (d := 27) ?hd ?hw 22 (.tmp 9) ?ho (Bx) ?hx (t' := 22) (ints .u8 x.1) _ _ Tryd.underlying22 ?hs ?hg ?_); (case hd => rfl); (case hw => kernel_rfl); (case ho => rfl); (case hx => kernel_rfl); (case hs => exact KI.out); (case hg => exact hBx); simp only [Act.put, List.setIfInBounds_toArray, List.set_cons_succ, List.set_cons_zero]) | (refine wl_build1 rfl 27 22 (.tmp 27) rfl (ints .u8 x.1) rfl Tryd.underlying27 KI.out KZ.out s1.out s2.out ?_) | (refine wl_appK rfl (.tmp 26) (.tmp 28) rfl w.heap.size (vals pre) x.1 LC.out _ W.heap.size rfl rfl RA BA nK hbA ?_))
    intro p9 l9 c9 w1 R1 G1 B1
    have B81 : Blk w1 (w.heap.size + 1 + 1) 27 #[.slice p8 l8 c8] := (G1.block _ (hB.alloc _).lt (fun e => hn3 e.symm)).trans (hB.alloc _)
    go_wp2_with (first | (refine wl_setS rfl 27 sz_keys (.tmp 8) (.tmp 29) rfl (w.heap.size + 1 + 1) p9 l9 c9 rfl rfl _ B81 ?_))
    intro w2 B82 P2
    go_wp2
    have szW : (W.alloc (.cells (ints .u8 x.1) 22)).heap.size = W.heap.size + 1 := by simp
    have hne : ∀ g, g < W.heap.size → blkOf (.slice p8 l8 c8) ≠ some g → blkOf (.slice p9 l9 c9) ≠ some g := fun g hg h e => by
      rcases B1 with h1 | h1
      · exact h (h1.symm.trans e)
      · rw [e] at h1
        cases h1
        omega
    have g1 : blkOf (.slice p9 l9 c9) ≠ some gx := hne gx (by omega) hn1
    have g2 : blkOf (.slice p9 l9 c9) ≠ some gb := hne gb (by omega) hn2
    have g3 : blkOf (.slice p9 l9 c9) ≠ some (w.heap.size + 1 + 1) := hne _ (by omega) hn3
    have kO : KeepsOthers W w2 := ((KeepsOthers.alloc W _).trans (KeepsOthers.of_grownBy G1 (fun j o ej hj => by
      rcases RA.2 with ⟨e, _⟩ | ⟨g, cap, cu, e, _, hgb, _⟩
      · cases e; cases ej
      · cases e; cases ej; rw [hgb] at hj; cases hj; rfl))).trans (KeepsOthers.of_grownBy P2.grown (fun j o ej hj => by cases ej; rw [show w1.heap[_]? = _ from B81] at hj; cases hj; rfl))
    have kk : Keep2 gx gb W w2 := ((Keep2.below ((Below.refl W.heap.size W).alloc (Nat.le_refl _) _) (by omega) (by omega)).trans (Keep2.grown G1 (by omega) (by omega) hn1 hn2)).trans (Keep2.grown P2.grown (by have := G1.size; omega) (by have := G1.size; omega) (fun e => by cases e; omega) (fun e => by cases e; omega))
    have hb2 : Below w.heap.size w w2 := ((hb.alloc hb.size _).trans (grown_mono G1 hbA (fun b e => (RA.range b e).1))).trans (P2.below (by omega))
    refine ⟨kO.from _, kk, ⟨_, B82, ?_, g1, g2, g3⟩, hb2, by have := G1.size; have := P2.size; omega⟩
    rw [vals_snoc]
    exact R1.keeps P2.grown (.inr g3)
  case done =>
    rintro D ys W hD rfl ⟨⟨v, hB, hR, _⟩, hb, hs⟩ hK
    have hc8 := hB.cell (j := 0) rfl
    have ek : vals (chunks X n) = keysL key b n := chunks_keys key b n (by omega) X (by rw [EX.out, EE.out, EM.out])
    rw [ek] at hR
    go_wp2_with (first | ((with_reducible refine wv_elem (d := 30) ?hd ?hw 27 ag_keys (.tmp 8) ?ho ⟨w.heap.size + 1 + 1, 0, none⟩ ?hx v ?hg ?_); (case hd => rfl); (case hw => kernel_rfl); (case ho => rfl); (case hx => first | rfl | kernel_rfl); (case hg => exact hc8); simp only [Act.put, List.setIfInBounds_toArray, List.set_cons_succ, List.set_cons_zero]))
    refine ⟨by simp, .inl ⟨_, _, rfl, run_takeDeferred hK, ?_⟩⟩
    exact ⟨_, results_tmp2 rfl _ _ _, v, rfl, ownsRow_putObj hR _ hK rfl, hb.trans (belowK_b (w := w) (Nat.le_refl _) W D _ _ (by have := Q5.size; omega) hK rfl rfl)⟩
end Go.Proofs.YtkibojjbghopkaaDoor.sh
/-
  Regions that draw their order, as in SHS, where slices that were there ahead of them are taken over, too.
-/
namespace Go.Proofs.YtkibojjbghopkaaDoor.sh
open Go Go.RowKit
set_option linter.unusedVariables false
set_option linter.unusedSimpArgs false

section
variable {P : Program} {h : List Oper} {A0 A : Act} {W0 : World} {S : Nat → Option (Value → World → Prop)} {O : List Nat} {E : List (Nat × Nat)} {G : List Nat} {i : Nat} {o : Oper}
end
end Go.Proofs.YtkibojjbghopkaaDoor.sh
/-
  What MacFilled answers.
-/
namespace Go.Proofs.YtkibojjbghopkaaDoor.sh
open Go Go.RowKit
set_option linter.unusedVariables false
set_option linter.unusedSimpArgs false

theorem zero_cells (m : Nat) : Builtin.zeroCells (Value.int .u8 0).cells m = ints .u8 (List.replicate m 0) := by
  apply Array.ext_getElem?
  intro i
  by_cases h : i < m
  · simp [Builtin.zeroCells, ints, Value.cells, h, Nat.mod_one]
  · rw [Array.getElem?_eq_none (by rw [size_zeroCells]; simp [Value.cells]; omega), Array.getElem?_eq_none (by rw [ints_size, List.length_replicate]; omega)]
theorem zapp_run {ty : TypeId} {base : Nat} {l : List Nat} {v : Value} {w : World} {m : Nat} (hown : Row base 5 .u8 l v w) (hn : l.length + m ≤ 1000000) (hbase : base ≤ w.heap.size) :
    ∃ v' w', (Builtin.append_ #[23, 3] ty #[v, .int .i64 (m : Int)]).run Tryd.prog w = .ok v' w' ∧ Row base 5 .u8 (l ++ List.replicate m 0) v' w' ∧ w.grownBy w' (blkOf v) ∧ (blkOf v' = blkOf v ∨ blkOf v' = some w.heap.size) := by
  obtain ⟨i0, hi, hz0, hz1, hz2⟩ := info_parts inf_u8
  have ht := Tryd.underlying23
  have htn := Tryd.underlying3
  have hwr : IntKind.i64.wrap (m : Int) = m := by rw [IntKind.wrap_i64]; omega
  have h48i : ¬ (281474976710656 < (m : Int) * (i0.bytes : Int)) := by rw [hz2]; omega
  have hneg : ¬ ((m : Int) < 0) := by omega
  have hlen : (ints .u8 (l ++ List.replicate m 0)).toList = (ints .u8 l).toList ++ (ints .u8 (List.replicate m 0)).toList := by rw [← ints_append]; simp
  have hl1 : (ints .u8 (l ++ List.replicate m 0)).toList.length = l.length + m := by rw [ints_toList, List.length_append, List.length_replicate]
  have h63 : l.length + m ≤ maxLen := Nat.le_trans hn (by decide)
  have grown : ∀ (old : Nat), ∀ (row : Option Nat),
      Row base 5 .u8 (l ++ List.replicate m 0) (.slice (some ⟨w.heap.size, 0, none⟩) (l.length + m) (grownCap w (l.length + m) old 5)) (w.drew.alloc (.cells (ints .u8 l ++ ints .u8 (List.replicate m 0) ++ ints .u8 (List.replicate (grownCap w (l.length + m) old 5 - (l.length + m)) 0)) 5)) ∧
      w.grownBy (w.drew.alloc (.cells (ints .u8 l ++ ints .u8 (List.replicate m 0) ++ ints .u8 (List.replicate (grownCap w (l.length + m) old 5 - (l.length + m)) 0)) 5)) row := by
    intro old row
    have hge := grownCap_ge w (l.length + m) old 5
    have hcm : grownCap w (l.length + m) old 5 ≤ maxLen := grownCap_le_maxLen w (l.length + m) old 5 h63
    refine ⟨⟨by rw [hl1, List.length_append, List.length_replicate, Nat.mul_one], .inr ⟨w.heap.size, _, _, by rw [List.length_append, List.length_replicate], hbase, heap_alloc_new w.drew _, by rw [List.length_append, List.length_replicate]; exact hge, hcm, ?_, ?_⟩⟩, ⟨rfl, rfl, rfl, by simp, fun k hk _ => Below.heap_alloc w.drew _ k hk⟩⟩
    · rw [Array.size_append, Array.size_append, ints_size, ints_size, ints_size, List.length_replicate, List.length_replicate]
      omega
    · rw [ints_append, Array.toList_append, List.length_append, List.length_replicate, Nat.mul_one, ← hl1]
      exact List.take_left
  rcases hown.2 with ⟨rfl, h0⟩ | ⟨g, cap, cur, rfl, hbg, hg, hnc, hcm, hcs, htake⟩
  · have hx : l = [] := List.eq_nil_of_length_eq_zero h0
    subst hx
    by_cases hm : m = 0
    · subst hm
      refine ⟨.slice none 0 0, w, ?_, row_nil w base _ _, ⟨rfl, rfl, rfl, Nat.le_refl _, fun _ _ _ => rfl⟩, .inl rfl⟩
      simp [Builtin.append_, run_underlying ht, run_underlying htn, sizeOf, typeInfo, hi, asInt, asIntOf, IntKind.wrap_i64]
    · have hr := Lib.run_append_nil_zeros (P := Tryd.prog) w 23 3 ty 5 i0 (.int .u8 0) .i64 .i64 ht htn hi hz0 m (by omega) (by rw [hz1]; decide) (by omega) (by rw [hz2]; simp at hn; omega)
      rw [zero_cells, zero_cells] at hr
      have hgr := grown 0 (blkOf (.slice none 0 0))
      have e0 : ints .u8 ([] : List Nat) = #[] := rfl
      rw [e0, Array.empty_append] at hgr
      simp only [List.length_nil, Nat.zero_add, List.nil_append] at hgr ⊢
      exact ⟨_, _, hr, hgr.1, hgr.2, .inr rfl⟩
  · have hf : cur.toList.take l.length = (ints .u8 l).toList := by rw [Nat.mul_one] at htake; exact htake
    by_cases hroom : l.length + m ≤ cap
    · obtain ⟨NL, hNL⟩ : ∃ NL, NL = (ints .u8 (List.replicate m 0)).toList := ⟨_, rfl⟩
      have lNL : NL.length = m := by rw [hNL, ints_toList, List.length_replicate]
      have hst := run_storeCells_at Tryd.prog g l.length 5 NL 0 cur w hg (by rw [lNL]; omega) (by rw [hNL]; exact oneCell_ints _ _)
      simp only [Nat.add_zero, lNL] at hst
      have hz' : (Builtin.zeroCells (Value.int .u8 0).cells m).toList = NL := by rw [zero_cells, hNL]
      refine ⟨.slice (some ⟨g, 0, none⟩) (l.length + m) cap, w.setRow g (cur.toList.take l.length ++ NL ++ cur.toList.drop (l.length + m)).toArray, ?_, ⟨by rw [hl1, List.length_append, List.length_replicate, Nat.mul_one], .inr ⟨g, cap, _, by rw [List.length_append, List.length_replicate], hbg, setRow_heap w g cur _ 5 _ hg, by rw [List.length_append, List.length_replicate]; exact hroom, hcm, ?_, ?_⟩⟩, ⟨rfl, rfl, rfl, by simp, fun k _ hk => setRow_other w g k _ (fun e => hk (by rw [e]; rfl))⟩, .inl rfl⟩
      · by_cases hm : m = 0
        · have e0 : NL = [] := List.eq_nil_of_length_eq_zero (by rw [lNL, hm])
          rw [e0] at hst ⊢
          subst hm
          simp only [Nat.add_zero, Int.natCast_zero] at hst hroom ⊢
          simp [Builtin.append_, run_underlying ht, run_underlying htn, sizeOf, typeInfo, hi, hz1, asInt, asIntOf, IntKind.wrap_i64, hroom, Addr.add_lit, hst]
        · have hm0 : ¬ (m * i0.size = 0) := by rw [hz1]; omega
          simp [Builtin.append_, run_underlying ht, run_underlying htn, sizeOf, typeInfo, zeroValue, hi, hz0, hz1, asInt, asIntOf, hwr, hneg, h48i, hroom, hm, Addr.add_lit, hz', hst]
      · simp only [List.size_toArray, List.length_append, List.length_take, List.length_drop, Array.length_toList, lNL]
        omega
      · simp only [List.append_assoc]
        rw [hf, hNL, ← List.append_assoc, ← hlen, List.length_append, List.length_replicate, Nat.mul_one, ← hl1]
        exact List.take_left
    · have holds : ∀ j u, (ints .u8 l).toList[j]? = some u → w.cell? ((⟨g, 0, none⟩ : Addr).add j) = some u := hown.cells (g := g) rfl
      have hgr := grown cap (blkOf (.slice (some ⟨g, 0, none⟩) l.length cap))
      refine ⟨_, _, ?_, hgr.1, hgr.2, .inr rfl⟩
      have hn2 : ¬ (l.length + m ≤ cap) := hroom
      have hm0 : ¬ (m * i0.size = 0) := by rw [hz1]; omega
      have h63' : ¬ (9223372036854775807 < ((l.length : Int) + (m : Int))) := by omega
      have h48' : ¬ (281474976710656 < Builtin.nextslicecap (l.length + m) cap * i0.bytes) := by have := growslice_fits (need := l.length + m) (old := cap) (bytes := i0.bytes) (by omega) (by rw [hz2]; omega); omega
      have hfo := run_firstCells_some (P := Tryd.prog) w.drew i0.size l.length ⟨g, 0, none⟩ l.length cap (ints .u8 l).toList (by rw [ints_toList, hz1, Nat.mul_one]) (by simpa using holds)
      simp [Builtin.append_, run_underlying ht, run_underlying htn, sizeOf, typeInfo, zeroValue, hi, hz0, asInt, asIntOf, hwr, hneg, h48i, hn2, hm0, h63', h48', Question.forced, hfo, newRow, grownCap, zero_cells]
section
variable {h : List Oper} {A0 A : Act} {W0 : World} {S : Nat → Option (Value → World → Prop)} {sp O : List Nat} {E : List (Nat × Nat)} {i : Nat} {o : Oper}
end
end Go.Proofs.YtkibojjbghopkaaDoor.sh
/-
  Arguments that are arrays of ints.
-/
namespace Go.Proofs.YtkibojjbghopkaaDoor.sh
open Go Go.ChangeShapes Go.WideShapes Go.ChangeAt Go.RowKit
set_option linter.unusedVariables false
set_option linter.unusedSimpArgs false

end Go.Proofs.YtkibojjbghopkaaDoor.sh
