/-
  General pieces, joined: SB ST SP.
-/
import Derived.Test.YtjkdonjcngmjeaaDoorRows
import Derived.Test.YtjkdonjcngmjeaaDoorG01
import Derived.WalkKit
import Derived.WalkSpells
import Derived.WalkLawsBesides
import Derived.Laws.BitsAllLaws
import Derived.Laws.CopyRow
import Derived.Laws.CopyOwn
import Derived.Laws.Rows
import Derived.Great.BuildSlice
import Derived.RegionTactic
import Derived.BigRegion
import Derived.Deep.QuietTactic
import Derived.Deep.LoopGhost
import Derived.BigQuiet
import Derived.Below
/-
  Blocks of ints: read, written, by one cell or whole; what holds behind.
-/
namespace Go.Proofs.YtjkdonjcngmjeaaDoor.sh
open Go Go.RowKit
set_option linter.unusedVariables false
set_option linter.unusedSimpArgs false

/-- A fact that no unifier looks into. -/
structure Kept (p : Prop) : Prop where
  out : p

def ints (k : IntKind) (l : List Nat) : Array Value := (l.map fun n : Nat => Value.int k (n : Int)).toArray
theorem ints_size (k : IntKind) (l : List Nat) : (ints k l).size = l.length := by simp [ints]
theorem ints_get {k : IntKind} {l : List Nat} {i n : Nat} (h : l[i]? = some n) : (ints k l)[i]? = some (.int k (n : Int)) := by simp [ints, h]
theorem ints_set (k : IntKind) (l : List Nat) (i n : Nat) : (ints k l).setIfInBounds i (.int k (n : Int)) = ints k (l.set i n) := by simp [ints, List.map_set]
theorem ints_one (k : IntKind) (l : List Nat) : (ints k l).all (·.oneCell') = true := by simp [ints, Value.oneCell']
theorem ints_append (k : IntKind) (l m : List Nat) : ints k l ++ ints k m = ints k (l ++ m) := by simp [ints]

def Blk (w : World) (g : Nat) (t : TypeId) (A : Array Value) : Prop := w.heap[g]? = some (.cells A t (0, 0))
theorem Blk.lt {w : World} {g : Nat} {t : TypeId} {A : Array Value} (h : Blk w g t A) : g < w.heap.size := (Array.getElem?_eq_some_iff.1 h).1
theorem Blk.below {w w' : World} {g B : Nat} {t : TypeId} {A : Array Value} (h : Blk w g t A) (hb : Below B w w') (hB : g < B) : Blk w' g t A := (hb.block _ hB).trans h
theorem Blk.under {w w' : World} {g : Nat} {t : TypeId} {A : Array Value} (h : Blk w g t A) (hb : Below w.heap.size w w') : Blk w' g t A := h.below hb h.lt
theorem Blk.alloc {w : World} {g : Nat} {t : TypeId} {A : Array Value} (h : Blk w g t A) (o : Obj) : Blk (w.alloc o) g t A := (Below.heap_alloc w o g h.lt).trans h
theorem heap_new (w : World) (o : Obj) : (w.alloc o).heap[w.heap.size]? = some o := by
  show (w.heap.push o)[w.heap.size]? = some o
  simp
theorem blk_new (w : World) (t : TypeId) (A : Array Value) : Blk (w.alloc (.cells A t)) w.heap.size t A := heap_new _ _
theorem blk_top (w : World) (g : Nat) (t : TypeId) (A : Array Value) (h : g = w.heap.size) : Blk (w.alloc (.cells A t)) g t A := by rw [h]; exact heap_new _ _
theorem cell_row {w : World} {g : Nat} {A : Array Value} {t : TypeId} {fr : Nat × Nat} {j : Nat} {v : Value} (hg : w.heap[g]? = some (.cells A t fr)) (hv : A[j]? = some v) : w.cell? ⟨g, j, none⟩ = some v := by
  simp [World.cell?, hg, hv]
theorem Blk.cell {w : World} {g j : Nat} {t : TypeId} {A : Array Value} {v : Value} (h : Blk w g t A) (hv : A[j]? = some v) : w.cell? ⟨g, j, none⟩ = some v := cell_row h hv

theorem addr_add (g k j : Nat) : (⟨g, k, none⟩ : Addr).add j = ⟨g, k + j, none⟩ := by
  simp [Addr.add]

/-- The world behind a store to block g alone. -/
structure Put (w w' : World) (g : Nat) : Prop where
  grown : w.grownBy w' (some g)
  size : w'.heap.size = w.heap.size
theorem Put.below {w w' : World} {g B : Nat} (h : Put w w' g) (hB : B ≤ g) : Below B w w' := ⟨h.grown.os, h.grown.tape, h.grown.output, by rw [h.size]; exact Nat.le_refl _, fun k hk => by
  by_cases hk2 : k < w.heap.size
  · exact h.grown.block k hk2 (fun e => by cases e; omega)
  · rw [Array.getElem?_eq_none (by rw [h.size]; omega), Array.getElem?_eq_none (by omega)]⟩
theorem Put.blk {w w' : World} {g k : Nat} {t : TypeId} {A : Array Value} (h : Put w w' g) (hk : Blk w k t A) (hne : k ≠ g) : Blk w' k t A := (h.grown.block k hk.lt (fun e => by cases e; exact hne rfl)).trans hk

theorem ag_u8 (w : World) : (isAgg 5).run Tryd.prog w = .ok false w := by kernel_rfl
theorem sz_u8 (w : World) : (sizeOf 5).run Tryd.prog w = .ok 1 w := by kernel_rfl
theorem ag_u32 (w : World) : (isAgg 45).run Tryd.prog w = .ok false w := by kernel_rfl
theorem sz_u32 (w : World) : (sizeOf 45).run Tryd.prog w = .ok 1 w := by kernel_rfl
theorem ag_u64 (w : World) : (isAgg 49).run Tryd.prog w = .ok false w := by kernel_rfl
theorem sz_u64 (w : World) : (sizeOf 49).run Tryd.prog w = .ok 1 w := by kernel_rfl
theorem ag_int (w : World) : (isAgg 3).run Tryd.prog w = .ok false w := by kernel_rfl
section
variable {ops : Array Oper} {rest : List Oper} {o : Oper} {a : Act} {w : World} {Q : Exit → Act → World → Prop}
/-- One cell of a block is read. -/
theorem run_elem {P : Program} {e : TypeId} (ag : ∀ w, (isAgg e).run P w = .ok false w) (x : Operand) (ho : o.op = .load e x) (g k : Nat) (hx : a.eval x = .pointer (some ⟨g, k, none⟩)) {t : TypeId} (A : Array Value) (v : Value) (hg : Blk w g t A) (hv : A[k]? = some v) : (execOp a.eval o).run P w = .ok (.value v) w := by
  have hc : w.cell? ⟨g, k, none⟩ = some v := cell_row hg hv
  unfold execOp
  simp only [ho, hx, Instr.loadAt, Instr.sureAddr, Sem.run_bind, Sem.run_pure, Result.andThen_ok]
  simp [loadVar, ag, go_sem, hc]
theorem wl_elem (hgd : o.guard = none) (e : TypeId) (ag : ∀ w, (isAgg e).run Tryd.prog w = .ok false w) (x : Operand) (ho : o.op = .load e x) (g k : Nat) (hx : a.eval x = .pointer (some ⟨g, k, none⟩)) {t : TypeId} (A : Array Value) (v : Value)
    (hg : Blk w g t A) (hv : A[k]? = some v) (h : wpList Tryd.prog ops Q rest (a.put o.dst v) w) : wpList Tryd.prog ops Q (o :: rest) a w :=
  wpList_plain hgd fun K hK => by
    unfold Oper.wp
    rw [run_elem ag x ho g k hx A v hg hv]
    exact hK _ _ h
/-- One cell of a block is written. -/
theorem wl_setElem (hgd : o.guard = none) (e : TypeId) (sz : ∀ w, (sizeOf e).run Tryd.prog w = .ok 1 w) (x y : Operand) (ho : o.op = .store e x y) (g k : Nat) (kd : IntKind) (v : Int) (hx : a.eval x = .pointer (some ⟨g, k, none⟩)) (hy : a.eval y = .int kd v) {t : TypeId} (A : Array Value)
    (hg : Blk w g t A) (hk : k < A.size) (h : ∀ w', Blk w' g t (A.setIfInBounds k (.int kd v)) → Put w w' g → wpList Tryd.prog ops Q rest (a.put o.dst undef) w') : wpList Tryd.prog ops Q (o :: rest) a w :=
  wpList_plain hgd fun K hK => by
    have hc : w.cell? ⟨g, k, none⟩ = some A[k] := cell_row hg (Array.getElem?_eq_getElem hk)
    have hf : w.frozen? ⟨g, k, none⟩ = false := frozen_of_row w g k A _ hg
    have hrun : (execOp a.eval o).run Tryd.prog w = .ok .skip (w.setCell ⟨g, k, none⟩ (.int kd v)) := by
      unfold execOp
      simp only [ho, hx, hy, Instr.storeAt, Instr.sureAddr, Sem.run_bind, Sem.run_pure, Result.andThen_ok]
      simp [storeVar, storeCells, sz, go_sem, hc, hf, Value.cells]
      try rfl
    unfold Oper.wp
    rw [hrun]
    exact hK _ _ (h _ (heap_setCell_same _ _ _ _ _ _ hg) ⟨⟨rfl, rfl, rfl, by simp, fun j _ hj => heap_setCell_other w ⟨g, k, none⟩ j _ (fun e => hj (by rw [e]))⟩, by simp⟩)
/-- A whole block is read. -/
theorem wl_load (hgd : o.guard = none) (t : TypeId) (x : Operand) (ho : o.op = .load t x) (g : Nat) (hx : a.eval x = .pointer (some ⟨g, 0, none⟩)) {t' : TypeId} (A : Array Value) (len : Nat) (e : TypeId) (hd : Tryd.prog.underlying t = some (.array len e)) (hs : (Tryd.prog.info? t).map (·.size) = some A.size)
    (hg : Blk w g t' A) (h : wpList Tryd.prog ops Q rest (a.put o.dst (.agg A)) w) : wpList Tryd.prog ops Q (o :: rest) a w :=
  wpList_load_row hgd t x ho g hx t' A (0, 0) _ hg hd rfl hs h
theorem wl_loadS (hgd : o.guard = none) (t : TypeId) (x : Operand) (ho : o.op = .load t x) (g : Nat) (hx : a.eval x = .pointer (some ⟨g, 0, none⟩)) {t' : TypeId} (A : Array Value) (fs : Array Field) (hd : Tryd.prog.underlying t = some (.struct fs)) (hs : (Tryd.prog.info? t).map (·.size) = some A.size)
    (hg : Blk w g t' A) (h : wpList Tryd.prog ops Q rest (a.put o.dst (.agg A)) w) : wpList Tryd.prog ops Q (o :: rest) a w :=
  wpList_load_row hgd t x ho g hx t' A (0, 0) _ hg hd rfl hs h
/-- A whole block is written. -/
theorem wl_store (hgd : o.guard = none) (t : TypeId) (x y : Operand) (ho : o.op = .store t x y) (g : Nat) (A : Array Value) (hx : a.eval x = .pointer (some ⟨g, 0, none⟩)) (hy : a.eval y = .agg A) {t' : TypeId} (cs : Array Value) (hg : Blk w g t' cs) (hs : (Tryd.prog.info? t).map (·.size) = some A.size) (hl : cs.size = A.size) (h1 : A.all (·.oneCell') = true)
    (h : ∀ w', Blk w' g t' A → Put w w' g → wpList Tryd.prog ops Q rest (a.put o.dst undef) w') : wpList Tryd.prog ops Q (o :: rest) a w :=
  wpList_store_row hgd t x y ho g A hx hy t' cs hg hs hl h1 (h _ (setRow_heap _ _ _ _ _ _ hg) ⟨⟨rfl, rfl, rfl, by simp, fun k _ hk => setRow_other _ _ _ _ (fun e => hk (by rw [e]))⟩, by simp⟩)
/-- A piece of a block is written over. -/
theorem wl_copy (hgd : o.guard = none) (d s : Operand) (dT sT : TypeId) (ho : o.op = .call { callee := .builtin .copy, args := #[d, s], argTypes := #[dT, sT] }) (elem : TypeId) (hu : Tryd.prog.underlying dT = some (.slice elem)) (hsz : (Tryd.prog.info? elem).map (·.size) = some 1)
    (g off dLen dCap : Nat) (ad : Addr) (sLen sCap : Nat) (hd : a.eval d = .slice (some ⟨g, off, none⟩) dLen dCap) (hs : a.eval s = .slice (some ad) sLen sCap)
    {t : TypeId} (cur : Array Value) (hg : Blk w g t cur) (cs : List Value) (hn : cs.length = Nat.min sLen dLen) (hsrc : ∀ j v, cs[j]? = some v → w.cell? (ad.add j) = some v) (hfit : off + cs.length ≤ cur.size) (h1 : ∀ v ∈ cs, v.oneCell' = true)
    (h : ∀ w', Blk w' g t (splice cur.toList off cs).toArray → Put w w' g → wpList Tryd.prog ops Q rest (a.put o.dst (goInt cs.length)) w') : wpList Tryd.prog ops Q (o :: rest) a w :=
  wpList_copy_own hgd d s dT sT ho elem hu hsz g off dLen dCap ad sLen sCap hd hs cur t hg cs hn hsrc hfit h1 (h _ (setRow_heap _ _ _ _ _ _ hg) ⟨⟨rfl, rfl, rfl, by simp, fun k _ hk => setRow_other _ _ _ _ (fun e => hk (by rw [e]))⟩, by simp⟩)
/-- A value that hangs on the frame alone. -/
theorem wl_val (hg : o.guard = none) (v : Value) (hrun : (execOp a.eval o).run Tryd.prog w = .ok (.value v) w) (h : wpList Tryd.prog ops Q rest (a.put o.dst v) w) : wpList Tryd.prog ops Q (o :: rest) a w :=
  wpList_plain hg fun K hK => by
    unfold Oper.wp
    rw [hrun]
    exact hK _ _ h
end
/-- One cell of a block is read, in a region that draws its order. -/
theorem q_elem {P : Program} {ops : Array Oper} {C : World → Prop} {Q : Act → Prop} {a : Act} {o : Oper} {rest : List Oper} (hw : Region.wanted o (yielded ops a.tmps) = true) (e : TypeId) (ag : ∀ w, (isAgg e).run P w = .ok false w) (x : Operand) (ho : o.op = .load e x) (g k : Nat) (hx : a.eval x = .pointer (some ⟨g, k, none⟩)) (t : TypeId) (A : Array Value) (v : Value)
    (hg : ∀ w, C w → Blk w g t A) (hv : A[k]? = some v) (h : wpQuiet P ops C Q rest (a.put o.dst v)) : wpQuiet P ops C Q (o :: rest) a := by
  refine BigFrame.wpQuiet_want hw fun K hK => ⟨v, fun w hC => ?_, hK _ h⟩
  unfold Oper.quietAt
  rw [run_elem ag x ho g k hx A v (hg w hC) hv]
  exact ⟨rfl, rfl⟩
end Go.Proofs.YtjkdonjcngmjeaaDoor.sh
/-
  What a word comes to that is turned to the right, by one amount and by some.
-/
namespace Go.Proofs.YtjkdonjcngmjeaaDoor.sh
open Go Go.RowKit
set_option linter.unusedVariables false
set_option linter.unusedSimpArgs false

theorem wl_at {ops : Array Oper} {rest : List Oper} {o : Oper} {a : Act} {w : World} {Q : Exit → Act → World → Prop} {d : Nat} (hd : o.dst = some d) (hg : o.guard = none) (v : Value) (hrun : (execOp a.eval o).run Tryd.prog w = .ok (.value v) w) (h : wpList Tryd.prog ops Q rest (a.put o.dst v) w) : wpList Tryd.prog ops Q (o :: rest) a w := wl_val hg v hrun h

def rotr (n m : Nat) : Nat := (n * 2 ^ (32 - m) % 4294967296) ||| (n / 2 ^ m)
theorem rotr_lt (n m : Nat) (hn : n < 4294967296) : rotr n m < 4294967296 := by
  unfold rotr
  exact Nat.or_lt_two_pow (n := 32) (Nat.mod_lt _ (by decide)) (Nat.lt_of_le_of_lt (Nat.div_le_self _ _) hn)
theorem count_of (m : Nat) (h0 : 0 < m) (h1 : m < 32) : bits .and .u64 (IntKind.u64.wrap (-(m : Int))) 31 = ((32 - m : Nat) : Int) := by
  rw [IntKind.wrap_u64, show (-(m : Int)) % 18446744073709551616 = ((18446744073709551616 - m : Nat) : Int) from by omega, show (31 : Int) = ((31 : Nat) : Int) from rfl, u64_and_nat _ _ (by omega) (by decide), nat_mask5]
  omega

set_option maxHeartbeats 400000 in
theorem rot_any (n m : Nat) (w : World) (hn : n < 4294967296) (h0 : 0 < m) (h1 : m < 32) :
    Calls Tryd.prog 19 #[.int .u32 (n : Int), .int .i64 (-(m : Int))] w fun e w' => e = .returned (.int .u32 (rotr n m : Nat)) ∧ w' = w := by
  have hS := count_of m h0 h1
  go_enter Tryd.func19, Tryd.ntmps19
  go_wp2_with (refine wl_at (d := 8) rfl rfl (.int .u64 ((32 - m : Nat) : Int)) ?h1 ?_; (case h1 => simp [execOp, Act.eval, go_sem, hS]))
  go_ret
  refine ⟨ret_int ?_, rfl⟩
  have e1 : ((n : Int) * 2 ^ (32 - m) % 4294967296) = ((n * 2 ^ (32 - m) % 4294967296 : Nat) : Int) := by rw [Int.natCast_emod, Int.natCast_mul, Int.natCast_pow]; rfl
  have e2 : ((n : Int) / 2 ^ (32 - (32 - m))) = ((n / 2 ^ m : Nat) : Int) := by rw [show 32 - (32 - m) = m from by omega, Int.natCast_ediv, Int.natCast_pow]; rfl
  rw [e1, e2, u32_or_nat _ _ (Nat.mod_lt _ (by decide)) (Nat.lt_of_le_of_lt (Nat.div_le_self _ _) hn)]
  rfl

theorem rot_at (n m : Nat) (X : Int) (w : World) (hn : n < 4294967296) (h0 : 0 < m) (h1 : m < 32) (hX : X = -(m : Int)) :
    Calls Tryd.prog 19 #[.int .u32 (n : Int), .int .i64 X] w fun e w' => e = .returned (.int .u32 (rotr n m : Nat)) ∧ w' = w := by rw [hX]; exact rot_any n m w hn h0 h1
/-- A word turned by each of the amounts, all of that by exclusive or. -/
def turnN (n : Nat) (ms : List Nat) : Nat := ms.foldl (fun x m => x ^^^ rotr n m) 0
theorem turnN_snoc (n : Nat) (ms : List Nat) (m : Nat) : turnN n (ms ++ [m]) = turnN n ms ^^^ rotr n m := by simp [turnN]
theorem fold_lt (n : Nat) (hn : n < 4294967296) : ∀ (ms : List Nat) (x : Nat), x < 4294967296 → ms.foldl (fun x m => x ^^^ rotr n m) x < 4294967296
  | [], x, h => h
  | m :: r, x, h => fold_lt n hn r _ (Nat.xor_lt_two_pow (n := 32) h (rotr_lt n m hn))
theorem turnN_lt (n : Nat) (ms : List Nat) (hn : n < 4294967296) : turnN n ms < 4294967296 := fold_lt n hn ms 0 (by decide)

set_option maxHeartbeats 400000 in
theorem turned_any (n : Nat) (ms : List Nat) (g cap : Nat) (t : TypeId) (w : World) (hn : n < 4294967296) (hms : ∀ (i m : Nat), ms[i]? = some m → 0 < m ∧ m < 32) (hb : Blk w g t (ints .i64 ms)) (hl : ms.length < 100) :
    Calls Tryd.prog 18 #[.int .u32 (n : Int), .slice (some ⟨g, 0, none⟩) ms.length cap] w fun e w' => e = .returned (.int .u32 (turnN n ms : Nat)) ∧ w' = w := by
  obtain ⟨len, hlen⟩ : ∃ len, len = ms.length := ⟨_, rfl⟩
  rw [← hlen] at hl ⊢
  have KL : Kept _ := ⟨hlen⟩
  clear hlen
  have KM : Kept _ := ⟨hms⟩
  have KB : Kept _ := ⟨hb⟩
  clear hms hb
  go_enter Tryd.func18, Tryd.ntmps18
  go_wp2_with fail
  go_loopg [10, 5] len (fun k s10 s5 wr => ∃ i x : Nat, i + k = len ∧ s10 = .int .i64 (i : Int) ∧ s5 = .int .u32 (x : Int) ∧ wr = w ∧ Kept (x = turnN n (ms.take i)))
  case atStart => exact ⟨0, 0, by omega, rfl, rfl, rfl, ⟨rfl⟩⟩
  case round =>
    obtain ⟨i, x, hik, rfl, rfl, rfl, KX⟩ := hrel
    by_cases hk0 : gk = 0
    · obtain rfl : i = len := by omega
      have e : x = turnN n ms := by rw [KX.out, KL.out, List.take_length]
      go_wp2_with fail
      go_ret
      exact ⟨by rw [e]; rfl, rfl⟩
    · have hil : i < len := by omega
      have hlt : ((i : Int) < (len : Int)) := by omega
      obtain ⟨m, hm⟩ : ∃ m, ms[i]? = some m := ⟨_, List.getElem?_eq_getElem (by have := KL.out; omega)⟩
      have hx : x < 4294967296 := by rw [KX.out]; exact turnN_lt n _ hn
      go_wp2_with (refine wl_elem rfl 3 ag_int (.tmp 12) rfl g i rfl (ints .i64 ms) (.int .i64 (m : Int)) KB.out (ints_get hm) ?_)
      refine (rot_at n m _ wr hn (KM.out i m hm).1 (KM.out i m hm).2 ?hX).mono ?_
      case hX => have := (KM.out i m hm).2; unfold wrap64; omega
      rintro e w1 ⟨rfl, rfl⟩
      have hbx : bits .xor .u32 (x : Int) (rotr n m : Nat) = ((x ^^^ rotr n m : Nat) : Int) := u32_xor_nat _ _ hx (rotr_lt n m hn)
      go_wp2_with fail
      go_roundg (gk - 1)
      case measure => omega
      case rel => exact ⟨i + 1, x ^^^ rotr n m, by omega, by simp, rfl, rfl, ⟨by rw [List.take_add_one, hm]; simp [turnN_snoc, KX.out]⟩⟩
end Go.Proofs.YtjkdonjcngmjeaaDoor.sh
/-
  Words: the first state, sums, their bytes.
-/
namespace Go.Proofs.YtjkdonjcngmjeaaDoor.sh
open Go Go.RowKit
set_option linter.unusedVariables false
set_option linter.unusedSimpArgs false

/-- A row that is filled in order: the first i as they shall be, the others as they were. -/
def mix (L a : List Nat) (i : Nat) : List Nat := L.take i ++ a.drop i
theorem mix_zero (L a : List Nat) : mix L a 0 = a := by simp [mix]
theorem mix_all (L a : List Nat) (h : L.length = a.length) : mix L a a.length = L := by simp [mix, ← h]
theorem mix_len (L a : List Nat) (i : Nat) (h : L.length = a.length) : (mix L a i).length = a.length := by simp [mix]; omega
theorem mix_get (L a : List Nat) (i : Nat) (h : L.length = a.length) (hi : i < a.length) : (mix L a i)[i]? = a[i]? := by
  simp [mix, List.getElem?_append, h]
  rw [if_neg (by omega), Nat.min_eq_left (by omega)]
  simp
theorem mix_set (L a : List Nat) (i v : Nat) (h : L.length = a.length) (hi : L[i]? = some v) : (mix L a i).set i v = mix L a (i + 1) := by
  have hil : i < L.length := (List.getElem?_eq_some_iff.1 hi).1
  have e1 : (L.take i).length = i := by simp; omega
  unfold mix
  rw [List.set_append_right _ _ (by omega), e1, Nat.sub_self, List.take_add_one, hi, List.append_assoc]
  congr 1
  have e2 : a.drop i = a[i]'(by omega) :: a.drop (i + 1) := List.drop_eq_getElem_cons (by omega)
  rw [e2]
  rfl

def plusL (a b : List Nat) : List Nat := List.zipWith (fun x y => (x + y) % 4294967296) a b
theorem plusL_len (a b : List Nat) (h : a.length = b.length) : (plusL a b).length = a.length := by simp [plusL, h]
theorem plusL_get (a b : List Nat) (i x y : Nat) (hx : a[i]? = some x) (hy : b[i]? = some y) : (plusL a b)[i]? = some ((x + y) % 4294967296) := by simp [plusL, List.getElem?_zipWith, hx, hy]
theorem u32_info : (Tryd.prog.info? 47).map (·.size) = some 8 := by kernel_rfl

set_option maxHeartbeats 400000 in
theorem plus_any (a b : List Nat) (w : World) (ha : a.length = 8) (hb : b.length = 8) :
    Calls Tryd.prog 11 #[.agg (ints .u32 a), .agg (ints .u32 b)] w fun e w' => e = .returned (.agg (ints .u32 (plusL a b))) ∧ Below w.heap.size w w' := by
  obtain ⟨L, hL⟩ : ∃ L, L = plusL a b := ⟨_, rfl⟩
  rw [← hL]
  have EL : Kept _ := ⟨hL⟩
  have HL : Kept (L.length = a.length) := ⟨by rw [hL]; exact plusL_len a b (by omega)⟩
  clear hL
  go_enter Tryd.func11, Tryd.ntmps11
  go_wp2_with fail
  generalize hW : ((w.alloc (.cells (ints .u32 a) 47)).alloc (.cells (ints .u32 b) 47)).alloc (.cells #[.int .u32 0, .int .u32 0, .int .u32 0, .int .u32 0, .int .u32 0, .int .u32 0, .int .u32 0, .int .u32 0] 47) = W
  have B0 : Blk W w.heap.size 47 (ints .u32 (mix L a 0)) := by subst hW; rw [mix_zero]; exact ((blk_new w _ _).alloc _).alloc _
  have B1 : Blk W (w.heap.size + 1) 47 (ints .u32 b) := by subst hW; exact (blk_top _ _ _ _ (by simp)).alloc _
  have B2 : Blk W (w.heap.size + 2) 47 #[.int .u32 0, .int .u32 0, .int .u32 0, .int .u32 0, .int .u32 0, .int .u32 0, .int .u32 0, .int .u32 0] := by subst hW; exact blk_top _ _ _ _ (by simp)
  have QB : Below w.heap.size w W := by subst hW; exact (((Below.refl _ _).alloc (Nat.le_refl _) _).alloc (by simp) _).alloc (by simp; omega) _
  clear hW
  go_loopg [6] 8 (fun k s6 wr => ∃ i : Nat, i + k = 8 ∧ s6 = .int .i64 (i : Int) ∧ Below w.heap.size w wr ∧ Blk wr w.heap.size 47 (ints .u32 (mix L a i)) ∧ Blk wr (w.heap.size + 1) 47 (ints .u32 b) ∧ Blk wr (w.heap.size + 2) 47 #[.int .u32 0, .int .u32 0, .int .u32 0, .int .u32 0, .int .u32 0, .int .u32 0, .int .u32 0, .int .u32 0])
  case atStart => exact ⟨0, by omega, rfl, QB, B0, B1, B2⟩
  case round =>
    obtain ⟨i, hik, rfl, HB, A0, A1, A2⟩ := hrel
    clear QB B0 B1 B2
    by_cases hk0 : gk = 0
    · obtain rfl : i = 8 := by omega
      have e : mix L a 8 = L := by rw [← ha]; exact mix_all L a HL.out
      rw [e] at A0
      clear A1 e
      go_wp2_with (first | (refine wl_load rfl 47 (.tmp 2) rfl _ rfl (ints .u32 L) 8 45 Tryd.underlying47 (by rw [ints_size, HL.out, ha]; exact u32_info) A0 ?_) | (refine wl_store rfl 47 (.tmp 4) (.tmp 18) rfl _ (ints .u32 L) rfl rfl _ A2 (by rw [ints_size, HL.out, ha]; exact u32_info) (by rw [ints_size, HL.out, ha]; rfl) (ints_one _ _) ?_))
      intro w3 A3 P3
      go_wp2
      exact bodyPost_ret (v := .agg (ints .u32 L)) (results_cell_row Tryd.results11 _ _ _ 47 (ints .u32 L) (0, 0) _ rfl A3 Tryd.underlying47 rfl (by rw [ints_size, HL.out, ha]; exact u32_info)) rfl ⟨rfl, HB.trans (P3.below (by omega))⟩
    · have hil : i < 8 := by omega
      have hlt : ((i : Int) < 8) := by omega
      obtain ⟨x, hx⟩ : ∃ x, a[i]? = some x := ⟨_, List.getElem?_eq_getElem (by omega)⟩
      obtain ⟨y, hy⟩ : ∃ y, b[i]? = some y := ⟨_, List.getElem?_eq_getElem (by omega)⟩
      have gx : (ints .u32 (mix L a i))[i]? = some (.int .u32 (x : Int)) := ints_get (by rw [mix_get L a i HL.out (by omega)]; exact hx)
      have gy : (ints .u32 b)[i]? = some (.int .u32 (y : Int)) := ints_get hy
      obtain ⟨z, hz⟩ : ∃ z, z = (x + y) % 4294967296 := ⟨_, rfl⟩
      have gz : L[i]? = some z := by rw [EL.out, hz]; exact plusL_get a b i x y hx hy
      go_wp2_with fail
      refine wp_region_quiet_cut (C := fun w' => Below wr.heap.size wr w') 8 rfl (by kernel_rfl) (by kernel_rfl) (by kernel_rfl) (by kernel_rfl) (by kernel_rfl) (Below.drew (Below.refl _ _)) ?_
      dsimp only [List.take_succ_cons, List.take_zero]
      refine q_val (by kernel_rfl) (.int .i64 (i : Int)) (fun w' => by kernel_rfl) ?_
      simp only [Act.put, List.setIfInBounds_toArray, List.set_cons_succ, List.set_cons_zero]
      refine q_val (by kernel_rfl) (.pointer (some ⟨w.heap.size, i, none⟩)) (fun w' => ?ia) ?_
      case ia => simp [execOp, Act.eval, go_sem, hlt, hil]
      simp only [Act.put, List.setIfInBounds_toArray, List.set_cons_succ, List.set_cons_zero]
      refine q_elem (by kernel_rfl) 45 ag_u32 (.tmp 10) rfl (w.heap.size) i (by kernel_rfl) 47 (ints .u32 (mix L a i)) (.int .u32 (x : Int)) (fun w' hb => Blk.under A0 hb) gx ?_
      simp only [Act.put, List.setIfInBounds_toArray, List.set_cons_succ, List.set_cons_zero]
      refine q_val (by kernel_rfl) (.int .i64 (i : Int)) (fun w' => by kernel_rfl) ?_
      simp only [Act.put, List.setIfInBounds_toArray, List.set_cons_succ, List.set_cons_zero]
      refine q_val (by kernel_rfl) (.pointer (some ⟨w.heap.size + 1, i, none⟩)) (fun w' => ?ia) ?_
      case ia => simp [execOp, Act.eval, go_sem, hlt, hil]
      simp only [Act.put, List.setIfInBounds_toArray, List.set_cons_succ, List.set_cons_zero]
      refine q_elem (by kernel_rfl) 45 ag_u32 (.tmp 13) rfl (w.heap.size + 1) i (by kernel_rfl) 47 (ints .u32 b) (.int .u32 (y : Int)) (fun w' hb => Blk.under A1 hb) gy ?_
      simp only [Act.put, List.setIfInBounds_toArray, List.set_cons_succ, List.set_cons_zero]
      refine q_val (by kernel_rfl) (.int .u32 (z : Int)) (fun w' => ?ad) ?_
      case ad =>
        simp [execOp, Act.eval, go_sem, IntKind.wrap_u32']
        omega
      simp only [Act.put, List.setIfInBounds_toArray, List.set_cons_succ, List.set_cons_zero]
      refine q_val (by kernel_rfl) (.pointer (some ⟨w.heap.size, i, none⟩)) (fun w' => ?ia) ?_
      case ia => simp [execOp, Act.eval, go_sem, hlt, hil]
      simp only [Act.put, List.setIfInBounds_toArray, List.set_cons_succ, List.set_cons_zero]
      refine wpQuiet_nil ?_
      intro w3 hw3
      have A0' := A0.under hw3
      have A1' := A1.under hw3
      have A2' := A2.under hw3
      have HB' := HB.trans (hw3.mono HB.size)
      refine wl_setElem rfl 45 sz_u32 (.tmp 16) (.tmp 15) rfl w.heap.size i .u32 (z : Int) (by kernel_rfl) (by kernel_rfl) _ A0' (by rw [ints_size, mix_len L a i HL.out]; omega) ?_
      intro w4 A4 P4
      rw [ints_set, mix_set L a i z HL.out gz] at A4
      have A14 := P4.blk A1' (by omega)
      have A24 := P4.blk A2' (by omega)
      have HB4 := HB'.trans (P4.below (Nat.le_refl _))
      clear A0 A1 A2 HB hw3 A0' A1' A2' HB' P4 gx gy hx hy hz gz
      go_wp2_with fail
      go_roundg (gk - 1)
      case measure => omega
      case rel => exact ⟨i + 1, by omega, by simp, HB4, A4, A14, A24⟩

def firstL : List Nat := [1779033703, 3144134277, 1013904242, 2773480762, 1359893119, 2600822924, 528734635, 1541459225]
set_option maxHeartbeats 400000 in
theorem first_any (w : World) : Calls Tryd.prog 12 #[] w fun e w' => e = .returned (.agg (ints .u32 firstL)) ∧ Below w.heap.size w w' := by
  go_enter Tryd.func12, Tryd.ntmps12
  go_wp2_with (first | (refine wl_at (d := 1) rfl rfl (.agg (ints .u32 firstL)) ?h1 ?_; (case h1 => kernel_rfl); simp only [Act.put, List.setIfInBounds_toArray, List.set_cons_succ, List.set_cons_zero]) | (refine wl_store rfl 47 (.tmp 0) (.tmp 1) rfl _ (ints .u32 firstL) rfl rfl _ (blk_new w _ _) (by rw [ints_size]; exact u32_info) (by rw [ints_size]; rfl) (ints_one _ _) ?_))
  intro w3 A3 P3
  go_wp2
  exact bodyPost_ret (v := .agg (ints .u32 firstL)) (results_cell_row Tryd.results12 _ _ _ 47 (ints .u32 firstL) (0, 0) _ rfl A3 Tryd.underlying47 rfl (by rw [ints_size]; exact u32_info)) rfl ⟨rfl, ((Below.refl _ _).alloc (Nat.le_refl _) _).trans (P3.below (Nat.le_refl _))⟩

/-- The words one behind the other, the highest byte of each first. -/
def bytesL (s : List Nat) : List Nat := (List.range 32).map fun i => s.getD (i / 4) 0 / 2 ^ (24 - i % 4 * 8) % 256
theorem bytesL_len (s : List Nat) : (bytesL s).length = 32 := by simp [bytesL]
theorem bytesL_get (s : List Nat) (i x : Nat) (hi : i < 32) (hx : s[i / 4]? = some x) : (bytesL s)[i]? = some (x / 2 ^ (24 - i % 4 * 8) % 256) := by
  simp [bytesL, hi, hx]
theorem t32_info : (Tryd.prog.info? 22).map (·.size) = some 32 := by kernel_rfl
theorem zero32 : (#[.int .u8 0, .int .u8 0, .int .u8 0, .int .u8 0, .int .u8 0, .int .u8 0, .int .u8 0, .int .u8 0, .int .u8 0, .int .u8 0, .int .u8 0, .int .u8 0, .int .u8 0, .int .u8 0, .int .u8 0, .int .u8 0, .int .u8 0, .int .u8 0, .int .u8 0, .int .u8 0, .int .u8 0, .int .u8 0, .int .u8 0, .int .u8 0, .int .u8 0, .int .u8 0, .int .u8 0, .int .u8 0, .int .u8 0, .int .u8 0, .int .u8 0, .int .u8 0] : Array Value) = ints .u8 (List.replicate 32 0) := by kernel_rfl

set_option maxHeartbeats 1000000 in
theorem bytes_any (s : List Nat) (w : World) (hs : s.length = 8) (hlt : ∀ (i x : Nat), s[i]? = some x → x < 4294967296) :
    Calls Tryd.prog 15 #[.agg (ints .u32 s)] w fun e w' => e = .returned (.agg (ints .u8 (bytesL s))) ∧ Below w.heap.size w w' := by
  obtain ⟨L, hL⟩ : ∃ L, L = bytesL s := ⟨_, rfl⟩
  rw [← hL]
  have EL : Kept _ := ⟨hL⟩
  have HL : Kept (L.length = 32) := ⟨by rw [hL]; exact bytesL_len s⟩
  obtain ⟨Z0, hZ⟩ : ∃ Z0, Z0 = List.replicate 32 0 := ⟨_, rfl⟩
  have EZ : Kept _ := ⟨hZ⟩
  have HL2 : Kept (L.length = Z0.length) := ⟨by rw [HL.out, hZ]; rfl⟩
  have HZ : Kept (Z0.length = 32) := ⟨by rw [hZ]; rfl⟩
  clear hZ
  have HX : Kept _ := ⟨hlt⟩
  clear hL hlt
  go_enter Tryd.func15, Tryd.ntmps15
  go_wp2_with fail
  generalize hW : ((w.alloc (.cells (ints .u32 s) 47)).alloc (.cells #[.int .u8 0, .int .u8 0, .int .u8 0, .int .u8 0, .int .u8 0, .int .u8 0, .int .u8 0, .int .u8 0, .int .u8 0, .int .u8 0, .int .u8 0, .int .u8 0, .int .u8 0, .int .u8 0, .int .u8 0, .int .u8 0, .int .u8 0, .int .u8 0, .int .u8 0, .int .u8 0, .int .u8 0, .int .u8 0, .int .u8 0, .int .u8 0, .int .u8 0, .int .u8 0, .int .u8 0, .int .u8 0, .int .u8 0, .int .u8 0, .int .u8 0, .int .u8 0] 22)).alloc (.cells #[.int .u8 0, .int .u8 0, .int .u8 0, .int .u8 0, .int .u8 0, .int .u8 0, .int .u8 0, .int .u8 0, .int .u8 0, .int .u8 0, .int .u8 0, .int .u8 0, .int .u8 0, .int .u8 0, .int .u8 0, .int .u8 0, .int .u8 0, .int .u8 0, .int .u8 0, .int .u8 0, .int .u8 0, .int .u8 0, .int .u8 0, .int .u8 0, .int .u8 0, .int .u8 0, .int .u8 0, .int .u8 0, .int .u8 0, .int .u8 0, .int .u8 0, .int .u8 0] 22) = W
  have B0 : Blk W w.heap.size 47 (ints .u32 s) := by subst hW; exact ((blk_new w _ _).alloc _).alloc _
  have B1 : Blk W (w.heap.size + 1) 22 #[.int .u8 0, .int .u8 0, .int .u8 0, .int .u8 0, .int .u8 0, .int .u8 0, .int .u8 0, .int .u8 0, .int .u8 0, .int .u8 0, .int .u8 0, .int .u8 0, .int .u8 0, .int .u8 0, .int .u8 0, .int .u8 0, .int .u8 0, .int .u8 0, .int .u8 0, .int .u8 0, .int .u8 0, .int .u8 0, .int .u8 0, .int .u8 0, .int .u8 0, .int .u8 0, .int .u8 0, .int .u8 0, .int .u8 0, .int .u8 0, .int .u8 0, .int .u8 0] := by subst hW; exact (blk_top _ _ _ _ (by simp)).alloc _
  have B2 : Blk W (w.heap.size + 2) 22 (ints .u8 (mix L Z0 0)) := by subst hW; rw [mix_zero, EZ.out, ← zero32]; exact blk_top _ _ _ _ (by simp)
  have QB : Below w.heap.size w W := by subst hW; exact (((Below.refl _ _).alloc (Nat.le_refl _) _).alloc (by simp) _).alloc (by simp; omega) _
  clear hW
  go_loopg [5] 32 (fun k s5 wr => ∃ i : Nat, i + k = 32 ∧ s5 = .int .i64 (i : Int) ∧ Below w.heap.size w wr ∧ Blk wr w.heap.size 47 (ints .u32 s) ∧ Blk wr (w.heap.size + 1) 22 #[.int .u8 0, .int .u8 0, .int .u8 0, .int .u8 0, .int .u8 0, .int .u8 0, .int .u8 0, .int .u8 0, .int .u8 0, .int .u8 0, .int .u8 0, .int .u8 0, .int .u8 0, .int .u8 0, .int .u8 0, .int .u8 0, .int .u8 0, .int .u8 0, .int .u8 0, .int .u8 0, .int .u8 0, .int .u8 0, .int .u8 0, .int .u8 0, .int .u8 0, .int .u8 0, .int .u8 0, .int .u8 0, .int .u8 0, .int .u8 0, .int .u8 0, .int .u8 0] ∧ Blk wr (w.heap.size + 2) 22 (ints .u8 (mix L Z0 i)))
  case atStart => exact ⟨0, by omega, rfl, QB, B0, B1, B2⟩
  case round =>
    obtain ⟨i, hik, rfl, HB, A0, A1, A2⟩ := hrel
    clear QB B0 B1 B2
    by_cases hk0 : gk = 0
    · obtain rfl : i = 32 := by omega
      have e : mix L Z0 32 = L := by rw [← HZ.out]; exact mix_all L Z0 HL2.out
      rw [e] at A2
      clear A0 e
      go_wp2_with (first | (refine wl_load rfl 22 (.tmp 3) rfl _ rfl (ints .u8 L) 32 5 Tryd.underlying22 (by rw [ints_size, HL.out]; exact t32_info) A2 ?_) | (refine wl_store rfl 22 (.tmp 2) (.tmp 21) rfl _ (ints .u8 L) rfl rfl _ A1 (by rw [ints_size, HL.out]; exact t32_info) (by rw [ints_size, HL.out]; rfl) (ints_one _ _) ?_))
      intro w3 A3 P3
      go_wp2
      exact bodyPost_ret (v := .agg (ints .u8 L)) (results_cell_row Tryd.results15 _ _ _ 22 (ints .u8 L) (0, 0) _ rfl A3 Tryd.underlying22 rfl (by rw [ints_size, HL.out]; exact t32_info)) rfl ⟨rfl, HB.trans (P3.below (by omega))⟩
    · have hil : i < 32 := by omega
      have hlt : ((i : Int) < 32) := by omega
      have hq8 : i / 4 < 8 := by omega
      obtain ⟨x, hx⟩ : ∃ x, s[i / 4]? = some x := ⟨_, List.getElem?_eq_getElem (by omega)⟩
      have lx := HX.out _ x hx
      have gx : (ints .u32 s)[i / 4]? = some (.int .u32 (x : Int)) := ints_get hx
      have KX : Kept (x < 4294967296) := ⟨lx⟩
      clear lx
      have l2 : i < (ints .u8 (mix L Z0 i)).size := by rw [ints_size, mix_len L _ i HL2.out, HZ.out]; exact hil
      go_wp2_with (first | (refine wl_elem rfl 45 ag_u32 (.tmp 11) rfl w.heap.size (i / 4) rfl (ints .u32 s) (.int .u32 (x : Int)) A0 gx ?_) | (refine wl_setElem rfl 5 sz_u8 (.tmp 19) (.tmp 18) rfl (w.heap.size + 1 + 1) i .u8 ((x : Int) / 2 ^ (24 - i % 4 * 8) % 256) rfl rfl _ A2 l2 ?_))
      obtain ⟨z, hz⟩ : ∃ z, z = x / 2 ^ (24 - i % 4 * 8) % 256 := ⟨_, rfl⟩
      have gz : L[i]? = some z := by rw [EL.out, hz]; exact bytesL_get s i x hil hx
      have ez : (x : Int) / 2 ^ (24 - i % 4 * 8) % 256 = (z : Int) := by rw [hz, Int.natCast_emod, Int.natCast_ediv, Int.natCast_pow]; rfl
      rw [ez]
      intro w4 A4 P4
      rw [ints_set, mix_set L _ i z HL2.out gz] at A4
      have A04 := P4.blk A0 (by omega)
      have A14 := P4.blk A1 (by omega)
      have HB4 := HB.trans (P4.below (by omega))
      clear A0 A1 A2 HB P4 gx hx hz gz l2
      go_wp2_with fail
      go_roundg (gk - 1)
      case measure => omega
      case rel => exact ⟨i + 1, by omega, by simp, HB4, A04, A14, A4⟩
end Go.Proofs.YtjkdonjcngmjeaaDoor.sh
