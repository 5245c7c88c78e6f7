/-
  The reference's block: pieces.
-/
import Derived.Test.YthieljiplhhdeaaXQ
import Derived.Test.YthieljiplhhdeaaXJ
import Derived.Lib.AppendStr
namespace Go.Proofs.Ythieljiplhhdeaa.sh
open Go Go.RowKit
set_option linter.unusedVariables false
set_option linter.unusedSimpArgs false

theorem IntsV.und {k : IntKind} {v : Value} {w w' : World} {l : List Nat} (h : IntsV k v w l) (hb : Below w.heap.size w w') : IntsV k v w' l := by
  obtain ⟨p, c, rfl, hlc, hp⟩ := h
  refine ⟨p, c, rfl, hlc, fun hne => ?_⟩
  obtain ⟨A, rfl, hA, hc⟩ := hp hne
  exact ⟨A, rfl, Nat.lt_of_lt_of_le hA hb.size, fun j x hx => (hb.cell (by rw [add_block]; exact hA)).trans (hc j x hx)⟩
/-- A constant text is appended. -/
theorem wl_appS {ops : Array Oper} {rest : List Oper} {o : Oper} {a : Act} {w : World} {Q : Exit → Act → World → Prop} (hgd : o.guard = none) (s x : Operand) (ho : o.op = .call { callee := .builtin .append, args := #[s, x], argTypes := #[27, 9] }) (base : Nat) (l m : List Nat) (v : Value) (t8 : ByteArray) (hs : a.eval s = v) (hx : a.eval x = .string t8) (hv : Row base 5 .u8 l v w) (hm : Lib.byteCells t8.data.toList = (ints .u8 m).toList) (hml : m.length = t8.size) (hn : l.length + m.length ≤ 1000000) (hbase : base ≤ w.heap.size)
    (hk : ∀ v' w', Row base 5 .u8 (l ++ m) v' w' → w.grownBy w' (blkOf v) → wpList Try.prog ops Q rest (a.put o.dst v') w') : wpList Try.prog ops Q (o :: rest) a w := by
  have hi := inf_u8
  cases hq : Try.prog.info? 5 with
  | none => rw [hq] at hi; cases hi
  | some i =>
    rw [hq] at hi
    simp only [Option.map_some, Option.some.injEq, Prod.mk.injEq] at hi
    obtain ⟨h1, h2, h3⟩ := hi
    refine Lib.wpList_append_own_string w hgd s x 27 9 ho base 5 i Try.underlying27 Try.underlying9 hq h1 h2 h3 v l.length (ints .u8 l).toList hs hv t8 hx (by unfold maxLen; omega) (by omega) hbase ?_
    intro v' w' r1 r2 _
    refine hk v' w' ?_ (by rw [row_blk hv] at r2; exact r2)
    unfold Row
    have e : (ints .u8 (l ++ m)).toList = (ints .u8 l).toList ++ Lib.strCells t8 := by rw [Lib.strCells_eq, hm]; simp [ints]
    rw [List.length_append, hml, e]
    exact r1
theorem part_piece (B : List Nat) (j : Nat) : part ((B.drop (4 * j)).take 4) 0 4 = part B j 4 := by
  refine part_congr _ _ _ _ 4 (fun m hm => ?_)
  rw [List.getD_eq_getElem?_getD, List.getD_eq_getElem?_getD, List.getElem?_take_of_lt (by omega), List.getElem?_drop]
  congr 2
  omega
theorem wsL_succ (B : List Nat) (j : Nat) : wsL B (j + 1) = wsL B j ++ [part B j 4] := by unfold wsL; rw [List.range_succ, List.map_append]; rfl
theorem arr_cutV_run {o : Oper} {a : Act} {x y z : Operand} {g n k m mm cc : Nat} {t e : TypeId} (ho : o.op = .slice t x (some y) (some z) none) (hx : a.eval x = .pointer (some ⟨g, 0, none⟩)) (hy : a.eval y = .int .i64 (k : Int)) (hz : a.eval z = .int .i64 (m : Int)) (ht : Try.prog.underlying t = some (.array n e)) (sz : ∀ w, (sizeOf e).run Try.prog w = .ok 1 w) (hk : k ≤ m) (hm : m ≤ n) (hn : k < n) (hmm : mm = m - k) (hcc : cc = n - k) (w : World) :
    (execOp a.eval o).run Try.prog w = .ok (.value (.slice (some ⟨g, k, none⟩) mm cc)) w := by
  have h2 : ((m : Int) ≤ (n : Int)) := by omega
  have h1 : ((k : Int) ≤ (m : Int)) := by omega
  unfold execOp
  simp only [ho, hx, hy, hz, Option.map_none, Option.map_some, Instr.sliceAt, Instr.slice, Instr.sliceBounds, Sem.run_bind, run_underlying ht, Result.andThen_ok]
  simp [Instr.sliceBound, asIntOf, sz, go_sem, h1, h2, Addr.add]
  rw [if_pos hm, if_pos hk]
  simp [show ¬ n = k by omega, hmm, hcc]
  exact fun h => h.symm
theorem one_u32 (w : World) (x : Nat) : IntsV .u32 (.slice (some ⟨w.heap.size, 0, none⟩) 1 1) (w.alloc (.cells #[.int .u32 (x : Int)] 24)) [x] := by
  refine ⟨_, _, rfl, Nat.le_refl _, fun _ => ⟨_, rfl, by simp, fun j y hy => ?_⟩⟩
  cases j with
  | zero =>
    cases hy
    have := (blk_new w 24 #[.int .u32 (x : Int)]).cell (j := 0) (v := .int .u32 (x : Int)) rfl
    rw [addr_add]
    exact this
  | succ j => cases hy
theorem row_emp8 {base : Nat} (w : World) (hb : base ≤ w.heap.size) : Row base 5 .u8 [] (.slice (some ⟨w.heap.size, 0, none⟩) 0 0) (w.alloc (.cells #[] 5)) := World.ownsRow_lit w #[] 0 hb (by unfold maxLen; omega) rfl
theorem app_below {w0 w w' : World} {v : Value} {B : Nat} {e : TypeId} {k : IntKind} {l : List Nat} (h : Below B w0 w) (hB : B ≤ w.heap.size) (hr : Row B e k l v w) (hg : w.grownBy w' (blkOf v)) : Below B w0 w' := h.trans (grown_mono hg hB (fun b hb => (hr.range b hb).1))
theorem run_addN {o : Oper} {a : Act} {x y : Operand} {i j z : Nat} (ho : o.op = .binOp .add 3 x y 3) (hx : a.eval x = .int .i64 (i : Int)) (hy : a.eval y = .int .i64 (j : Int)) (hz : z = i + j) (hi : z < 4611686018427387904) (w : World) : (execOp a.eval o).run Try.prog w = .ok (.value (.int .i64 (z : Int))) w := by
  subst hz
  exact run_addV ho hx hy hi w
theorem run_rem32c {o : Oper} {a : Act} {x : Operand} {m z : Nat} (ho : o.op = .binOp .rem 24 x (.const (.int .u32 256)) 24) (hx : a.eval x = .int .u32 (m : Int)) (hz : z = m % 256) (w : World) : (execOp a.eval o).run Try.prog w = .ok (.value (.int .u32 (z : Int))) w := by
  have e3 : a.eval (.const (.int .u32 256)) = .int .u32 256 := rfl
  have h3 : (m : Int).tmod 256 = (z : Int) := by rw [hz, Int.tmod_eq_emod_of_nonneg (by omega)]; omega
  unfold execOp
  simp only [ho, hx, e3]
  simp [go_sem, h3]
theorem run_c328 {o : Oper} {a : Act} {x : Operand} {z : Nat} (ho : o.op = .convert 24 5 x) (hx : a.eval x = .int .u32 (z : Int)) (hz : z < 256) (w : World) : (execOp a.eval o).run Try.prog w = .ok (.value (.int .u8 (z : Int))) w := by
  unfold execOp
  simp only [ho, hx]
  simp [go_sem, IntKind.wrap_u8']
  omega
theorem piece_at {g n c k m : Nat} {w : World} {bs : List Nat} (h : BytesV (.slice (some ⟨g, 0, none⟩) n c) w bs) (hm : k + m ≤ bs.length) (hk : k < c) {cc : Nat} (hcc : cc = c - k) : BytesV (.slice (some ⟨g, k, none⟩) m cc) w ((bs.drop k).take m) := by
  have h2 := BytesV.piece h hm
  rw [if_neg (by omega), Option.map_some, addr_add, Nat.zero_add, ← hcc] at h2
  exact h2

set_option maxRecDepth 100000 in
set_option maxHeartbeats 8000000 in
theorem rBlock_any (key nonce : List Nat) (count : Nat) (w : World) (hk : key.length = 32) (hy : Bytes key) (hn : nonce.length = 12) (hyn : Bytes nonce) (hc : count < 4294967296) :
    Calls Try.prog 12 #[.agg (ints .u8 key), .agg (ints .u8 nonce), .int .u32 (count : Int)] w fun e w' => e = .returned (.agg (ints .u8 (blockL key nonce count))) ∧ Below w.heap.size w w' := by
  have LK : Kept _ := ⟨hk⟩
  have LN : Kept _ := ⟨hn⟩
  have YN : Kept _ := ⟨hyn⟩
  obtain ⟨FF, hFF⟩ : ∃ S, S = frstL key nonce count := ⟨_, rfl⟩
  have WF : Kept (Ws FF) := ⟨by rw [hFF]; exact Ws.frst hy hyn hc⟩
  obtain ⟨L, hL⟩ : ∃ L, L = blockL key nonce count := ⟨_, rfl⟩
  rw [← hL]
  have EL : Kept (L = leL (plusL FF (mixT FF 10))) := ⟨by rw [hL, hFF]; rfl⟩
  have LL : Kept (L.length = 64) := ⟨by rw [hL]; exact blockL_len _ _ _⟩
  obtain ⟨BB, hBB⟩ : ∃ B, B = nameL ++ key := ⟨_, rfl⟩
  have EBB : Kept _ := ⟨hBB⟩
  have LB : Kept (BB.length = 48) := ⟨by rw [hBB, List.length_append, hk]; rfl⟩
  have YB : Kept (Bytes BB) := ⟨by rw [hBB]; exact nameL_bytes.append hy⟩
  have EF : Kept (wsL BB 12 ++ [count] ++ wsL nonce 3 = FF) := ⟨by rw [hFF, hBB]; rfl⟩
  obtain ⟨Z0, hZ0⟩ : ∃ Z, Z = List.replicate 64 0 := ⟨_, rfl⟩
  have LZ : Kept (Z0.length = 64) := ⟨by rw [hZ0]; rfl⟩
  have EI : Kept ((#[.int .u8 0, .int .u8 0, .int .u8 0, .int .u8 0, .int .u8 0, .int .u8 0, .int .u8 0, .int .u8 0, .int .u8 0, .int .u8 0, .int .u8 0, .int .u8 0, .int .u8 0, .int .u8 0, .int .u8 0, .int .u8 0, .int .u8 0, .int .u8 0, .int .u8 0, .int .u8 0, .int .u8 0, .int .u8 0, .int .u8 0, .int .u8 0, .int .u8 0, .int .u8 0, .int .u8 0, .int .u8 0, .int .u8 0, .int .u8 0, .int .u8 0, .int .u8 0, .int .u8 0, .int .u8 0, .int .u8 0, .int .u8 0, .int .u8 0, .int .u8 0, .int .u8 0, .int .u8 0, .int .u8 0, .int .u8 0, .int .u8 0, .int .u8 0, .int .u8 0, .int .u8 0, .int .u8 0, .int .u8 0, .int .u8 0, .int .u8 0, .int .u8 0, .int .u8 0, .int .u8 0, .int .u8 0, .int .u8 0, .int .u8 0, .int .u8 0, .int .u8 0, .int .u8 0, .int .u8 0, .int .u8 0, .int .u8 0, .int .u8 0, .int .u8 0] : Array Value) = ints .u8 Z0) := ⟨by rw [hZ0]; exact z64_eq2⟩
  have hname : Kept (Lib.byteCells ({ data := #[101, 120, 112, 97, 110, 100, 32, 51, 50, 45, 98, 121, 116, 101, 32, 107] } : ByteArray).data.toList = (ints .u8 nameL).toList) := ⟨by kernel_rfl⟩
  have A0 : Blk (((w.alloc (.cells (ints .u8 key) 22)).alloc (.cells (ints .u8 nonce) 23)).alloc (.cells #[.int .u8 0, .int .u8 0, .int .u8 0, .int .u8 0, .int .u8 0, .int .u8 0, .int .u8 0, .int .u8 0, .int .u8 0, .int .u8 0, .int .u8 0, .int .u8 0, .int .u8 0, .int .u8 0, .int .u8 0, .int .u8 0, .int .u8 0, .int .u8 0, .int .u8 0, .int .u8 0, .int .u8 0, .int .u8 0, .int .u8 0, .int .u8 0, .int .u8 0, .int .u8 0, .int .u8 0, .int .u8 0, .int .u8 0, .int .u8 0, .int .u8 0, .int .u8 0, .int .u8 0, .int .u8 0, .int .u8 0, .int .u8 0, .int .u8 0, .int .u8 0, .int .u8 0, .int .u8 0, .int .u8 0, .int .u8 0, .int .u8 0, .int .u8 0, .int .u8 0, .int .u8 0, .int .u8 0, .int .u8 0, .int .u8 0, .int .u8 0, .int .u8 0, .int .u8 0, .int .u8 0, .int .u8 0, .int .u8 0, .int .u8 0, .int .u8 0, .int .u8 0, .int .u8 0, .int .u8 0, .int .u8 0, .int .u8 0, .int .u8 0, .int .u8 0] 34)) w.heap.size 22 (ints .u8 key) := ((blk_new w _ _).alloc _).alloc _
  have A1 : Blk (((w.alloc (.cells (ints .u8 key) 22)).alloc (.cells (ints .u8 nonce) 23)).alloc (.cells #[.int .u8 0, .int .u8 0, .int .u8 0, .int .u8 0, .int .u8 0, .int .u8 0, .int .u8 0, .int .u8 0, .int .u8 0, .int .u8 0, .int .u8 0, .int .u8 0, .int .u8 0, .int .u8 0, .int .u8 0, .int .u8 0, .int .u8 0, .int .u8 0, .int .u8 0, .int .u8 0, .int .u8 0, .int .u8 0, .int .u8 0, .int .u8 0, .int .u8 0, .int .u8 0, .int .u8 0, .int .u8 0, .int .u8 0, .int .u8 0, .int .u8 0, .int .u8 0, .int .u8 0, .int .u8 0, .int .u8 0, .int .u8 0, .int .u8 0, .int .u8 0, .int .u8 0, .int .u8 0, .int .u8 0, .int .u8 0, .int .u8 0, .int .u8 0, .int .u8 0, .int .u8 0, .int .u8 0, .int .u8 0, .int .u8 0, .int .u8 0, .int .u8 0, .int .u8 0, .int .u8 0, .int .u8 0, .int .u8 0, .int .u8 0, .int .u8 0, .int .u8 0, .int .u8 0, .int .u8 0, .int .u8 0, .int .u8 0, .int .u8 0, .int .u8 0] 34)) (w.heap.size + 1) 23 (ints .u8 nonce) := (blk_top _ _ _ _ (by simp)).alloc _
  have A2 : Blk (((w.alloc (.cells (ints .u8 key) 22)).alloc (.cells (ints .u8 nonce) 23)).alloc (.cells #[.int .u8 0, .int .u8 0, .int .u8 0, .int .u8 0, .int .u8 0, .int .u8 0, .int .u8 0, .int .u8 0, .int .u8 0, .int .u8 0, .int .u8 0, .int .u8 0, .int .u8 0, .int .u8 0, .int .u8 0, .int .u8 0, .int .u8 0, .int .u8 0, .int .u8 0, .int .u8 0, .int .u8 0, .int .u8 0, .int .u8 0, .int .u8 0, .int .u8 0, .int .u8 0, .int .u8 0, .int .u8 0, .int .u8 0, .int .u8 0, .int .u8 0, .int .u8 0, .int .u8 0, .int .u8 0, .int .u8 0, .int .u8 0, .int .u8 0, .int .u8 0, .int .u8 0, .int .u8 0, .int .u8 0, .int .u8 0, .int .u8 0, .int .u8 0, .int .u8 0, .int .u8 0, .int .u8 0, .int .u8 0, .int .u8 0, .int .u8 0, .int .u8 0, .int .u8 0, .int .u8 0, .int .u8 0, .int .u8 0, .int .u8 0, .int .u8 0, .int .u8 0, .int .u8 0, .int .u8 0, .int .u8 0, .int .u8 0, .int .u8 0, .int .u8 0] 34)) (w.heap.size + 2) 34 (ints .u8 Z0) := by rw [← EI.out]; exact blk_top _ _ _ _ (by simp)
  have Q0 : Below w.heap.size w (((w.alloc (.cells (ints .u8 key) 22)).alloc (.cells (ints .u8 nonce) 23)).alloc (.cells #[.int .u8 0, .int .u8 0, .int .u8 0, .int .u8 0, .int .u8 0, .int .u8 0, .int .u8 0, .int .u8 0, .int .u8 0, .int .u8 0, .int .u8 0, .int .u8 0, .int .u8 0, .int .u8 0, .int .u8 0, .int .u8 0, .int .u8 0, .int .u8 0, .int .u8 0, .int .u8 0, .int .u8 0, .int .u8 0, .int .u8 0, .int .u8 0, .int .u8 0, .int .u8 0, .int .u8 0, .int .u8 0, .int .u8 0, .int .u8 0, .int .u8 0, .int .u8 0, .int .u8 0, .int .u8 0, .int .u8 0, .int .u8 0, .int .u8 0, .int .u8 0, .int .u8 0, .int .u8 0, .int .u8 0, .int .u8 0, .int .u8 0, .int .u8 0, .int .u8 0, .int .u8 0, .int .u8 0, .int .u8 0, .int .u8 0, .int .u8 0, .int .u8 0, .int .u8 0, .int .u8 0, .int .u8 0, .int .u8 0, .int .u8 0, .int .u8 0, .int .u8 0, .int .u8 0, .int .u8 0, .int .u8 0, .int .u8 0, .int .u8 0, .int .u8 0] 34)) := (((Below.refl _ _).alloc (Nat.le_refl _) _).alloc (by simp) _).alloc (by simp; omega) _
  have S3 : (((w.alloc (.cells (ints .u8 key) 22)).alloc (.cells (ints .u8 nonce) 23)).alloc (.cells #[.int .u8 0, .int .u8 0, .int .u8 0, .int .u8 0, .int .u8 0, .int .u8 0, .int .u8 0, .int .u8 0, .int .u8 0, .int .u8 0, .int .u8 0, .int .u8 0, .int .u8 0, .int .u8 0, .int .u8 0, .int .u8 0, .int .u8 0, .int .u8 0, .int .u8 0, .int .u8 0, .int .u8 0, .int .u8 0, .int .u8 0, .int .u8 0, .int .u8 0, .int .u8 0, .int .u8 0, .int .u8 0, .int .u8 0, .int .u8 0, .int .u8 0, .int .u8 0, .int .u8 0, .int .u8 0, .int .u8 0, .int .u8 0, .int .u8 0, .int .u8 0, .int .u8 0, .int .u8 0, .int .u8 0, .int .u8 0, .int .u8 0, .int .u8 0, .int .u8 0, .int .u8 0, .int .u8 0, .int .u8 0, .int .u8 0, .int .u8 0, .int .u8 0, .int .u8 0, .int .u8 0, .int .u8 0, .int .u8 0, .int .u8 0, .int .u8 0, .int .u8 0, .int .u8 0, .int .u8 0, .int .u8 0, .int .u8 0, .int .u8 0, .int .u8 0] 34)).heap.size = w.heap.size + 3 := by simp
  have RE : Kept (Row (w.heap.size + 3) 5 .u8 [] (.slice (some ⟨w.heap.size + 3, 0, none⟩) 0 0) ((((w.alloc (.cells (ints .u8 key) 22)).alloc (.cells (ints .u8 nonce) 23)).alloc (.cells #[.int .u8 0, .int .u8 0, .int .u8 0, .int .u8 0, .int .u8 0, .int .u8 0, .int .u8 0, .int .u8 0, .int .u8 0, .int .u8 0, .int .u8 0, .int .u8 0, .int .u8 0, .int .u8 0, .int .u8 0, .int .u8 0, .int .u8 0, .int .u8 0, .int .u8 0, .int .u8 0, .int .u8 0, .int .u8 0, .int .u8 0, .int .u8 0, .int .u8 0, .int .u8 0, .int .u8 0, .int .u8 0, .int .u8 0, .int .u8 0, .int .u8 0, .int .u8 0, .int .u8 0, .int .u8 0, .int .u8 0, .int .u8 0, .int .u8 0, .int .u8 0, .int .u8 0, .int .u8 0, .int .u8 0, .int .u8 0, .int .u8 0, .int .u8 0, .int .u8 0, .int .u8 0, .int .u8 0, .int .u8 0, .int .u8 0, .int .u8 0, .int .u8 0, .int .u8 0, .int .u8 0, .int .u8 0, .int .u8 0, .int .u8 0, .int .u8 0, .int .u8 0, .int .u8 0, .int .u8 0, .int .u8 0, .int .u8 0, .int .u8 0, .int .u8 0] 34)).alloc (.cells #[] 5))) := ⟨by have := row_emp8 (base := w.heap.size + 3) (((w.alloc (.cells (ints .u8 key) 22)).alloc (.cells (ints .u8 nonce) 23)).alloc (.cells #[.int .u8 0, .int .u8 0, .int .u8 0, .int .u8 0, .int .u8 0, .int .u8 0, .int .u8 0, .int .u8 0, .int .u8 0, .int .u8 0, .int .u8 0, .int .u8 0, .int .u8 0, .int .u8 0, .int .u8 0, .int .u8 0, .int .u8 0, .int .u8 0, .int .u8 0, .int .u8 0, .int .u8 0, .int .u8 0, .int .u8 0, .int .u8 0, .int .u8 0, .int .u8 0, .int .u8 0, .int .u8 0, .int .u8 0, .int .u8 0, .int .u8 0, .int .u8 0, .int .u8 0, .int .u8 0, .int .u8 0, .int .u8 0, .int .u8 0, .int .u8 0, .int .u8 0, .int .u8 0, .int .u8 0, .int .u8 0, .int .u8 0, .int .u8 0, .int .u8 0, .int .u8 0, .int .u8 0, .int .u8 0, .int .u8 0, .int .u8 0, .int .u8 0, .int .u8 0, .int .u8 0, .int .u8 0, .int .u8 0, .int .u8 0, .int .u8 0, .int .u8 0, .int .u8 0, .int .u8 0, .int .u8 0, .int .u8 0, .int .u8 0, .int .u8 0] 34)) (by rw [S3]; exact Nat.le_refl _); rw [S3] at this; exact this⟩
  have QE : Below (w.heap.size + 3) (((w.alloc (.cells (ints .u8 key) 22)).alloc (.cells (ints .u8 nonce) 23)).alloc (.cells #[.int .u8 0, .int .u8 0, .int .u8 0, .int .u8 0, .int .u8 0, .int .u8 0, .int .u8 0, .int .u8 0, .int .u8 0, .int .u8 0, .int .u8 0, .int .u8 0, .int .u8 0, .int .u8 0, .int .u8 0, .int .u8 0, .int .u8 0, .int .u8 0, .int .u8 0, .int .u8 0, .int .u8 0, .int .u8 0, .int .u8 0, .int .u8 0, .int .u8 0, .int .u8 0, .int .u8 0, .int .u8 0, .int .u8 0, .int .u8 0, .int .u8 0, .int .u8 0, .int .u8 0, .int .u8 0, .int .u8 0, .int .u8 0, .int .u8 0, .int .u8 0, .int .u8 0, .int .u8 0, .int .u8 0, .int .u8 0, .int .u8 0, .int .u8 0, .int .u8 0, .int .u8 0, .int .u8 0, .int .u8 0, .int .u8 0, .int .u8 0, .int .u8 0, .int .u8 0, .int .u8 0, .int .u8 0, .int .u8 0, .int .u8 0, .int .u8 0, .int .u8 0, .int .u8 0, .int .u8 0, .int .u8 0, .int .u8 0, .int .u8 0, .int .u8 0] 34)) ((((w.alloc (.cells (ints .u8 key) 22)).alloc (.cells (ints .u8 nonce) 23)).alloc (.cells #[.int .u8 0, .int .u8 0, .int .u8 0, .int .u8 0, .int .u8 0, .int .u8 0, .int .u8 0, .int .u8 0, .int .u8 0, .int .u8 0, .int .u8 0, .int .u8 0, .int .u8 0, .int .u8 0, .int .u8 0, .int .u8 0, .int .u8 0, .int .u8 0, .int .u8 0, .int .u8 0, .int .u8 0, .int .u8 0, .int .u8 0, .int .u8 0, .int .u8 0, .int .u8 0, .int .u8 0, .int .u8 0, .int .u8 0, .int .u8 0, .int .u8 0, .int .u8 0, .int .u8 0, .int .u8 0, .int .u8 0, .int .u8 0, .int .u8 0, .int .u8 0, .int .u8 0, .int .u8 0, .int .u8 0, .int .u8 0, .int .u8 0, .int .u8 0, .int .u8 0, .int .u8 0, .int .u8 0, .int .u8 0, .int .u8 0, .int .u8 0, .int .u8 0, .int .u8 0, .int .u8 0, .int .u8 0, .int .u8 0, .int .u8 0, .int .u8 0, .int .u8 0, .int .u8 0, .int .u8 0, .int .u8 0, .int .u8 0, .int .u8 0, .int .u8 0] 34)).alloc (.cells #[] 5)) := (Below.refl _ _).alloc (by rw [S3]; exact Nat.le_refl _) _
  have SE : w.heap.size + 3 ≤ ((((w.alloc (.cells (ints .u8 key) 22)).alloc (.cells (ints .u8 nonce) 23)).alloc (.cells #[.int .u8 0, .int .u8 0, .int .u8 0, .int .u8 0, .int .u8 0, .int .u8 0, .int .u8 0, .int .u8 0, .int .u8 0, .int .u8 0, .int .u8 0, .int .u8 0, .int .u8 0, .int .u8 0, .int .u8 0, .int .u8 0, .int .u8 0, .int .u8 0, .int .u8 0, .int .u8 0, .int .u8 0, .int .u8 0, .int .u8 0, .int .u8 0, .int .u8 0, .int .u8 0, .int .u8 0, .int .u8 0, .int .u8 0, .int .u8 0, .int .u8 0, .int .u8 0, .int .u8 0, .int .u8 0, .int .u8 0, .int .u8 0, .int .u8 0, .int .u8 0, .int .u8 0, .int .u8 0, .int .u8 0, .int .u8 0, .int .u8 0, .int .u8 0, .int .u8 0, .int .u8 0, .int .u8 0, .int .u8 0, .int .u8 0, .int .u8 0, .int .u8 0, .int .u8 0, .int .u8 0, .int .u8 0, .int .u8 0, .int .u8 0, .int .u8 0, .int .u8 0, .int .u8 0, .int .u8 0, .int .u8 0, .int .u8 0, .int .u8 0, .int .u8 0] 34)).alloc (.cells #[] 5)).heap.size := by simp <;> omega
  clear hk hy hn hyn hFF hL hBB hZ0 S3
  go_enter Try.func12, Try.ntmps12
  go_wp2_with (first | (refine wl_appS rfl (.tmp 19) _ rfl (w.heap.size + 3) [] nameL _ _ rfl rfl RE.out hname.out rfl (by decide) SE ?_))
  intro v8 w1 r1 g1
  have Q1 := app_below QE SE RE.out g1
  have R1 : Kept _ := ⟨r1⟩
  clear r1 g1 RE QE SE hname
  generalize hW : (((w.alloc (.cells (ints .u8 key) 22)).alloc (.cells (ints .u8 nonce) 23)).alloc (.cells #[.int .u8 0, .int .u8 0, .int .u8 0, .int .u8 0, .int .u8 0, .int .u8 0, .int .u8 0, .int .u8 0, .int .u8 0, .int .u8 0, .int .u8 0, .int .u8 0, .int .u8 0, .int .u8 0, .int .u8 0, .int .u8 0, .int .u8 0, .int .u8 0, .int .u8 0, .int .u8 0, .int .u8 0, .int .u8 0, .int .u8 0, .int .u8 0, .int .u8 0, .int .u8 0, .int .u8 0, .int .u8 0, .int .u8 0, .int .u8 0, .int .u8 0, .int .u8 0, .int .u8 0, .int .u8 0, .int .u8 0, .int .u8 0, .int .u8 0, .int .u8 0, .int .u8 0, .int .u8 0, .int .u8 0, .int .u8 0, .int .u8 0, .int .u8 0, .int .u8 0, .int .u8 0, .int .u8 0, .int .u8 0, .int .u8 0, .int .u8 0, .int .u8 0, .int .u8 0, .int .u8 0, .int .u8 0, .int .u8 0, .int .u8 0, .int .u8 0, .int .u8 0, .int .u8 0, .int .u8 0, .int .u8 0, .int .u8 0, .int .u8 0, .int .u8 0] 34)) = w0 at *
  clear hW
  have B0 := A0.below Q1 (by omega)
  have B1 := A1.below Q1 (by omega)
  have B2 := A2.below Q1 (by omega)
  have Q1' := Q0.trans (Q1.mono (by omega))
  have VK : Kept (BytesV (.slice (some ⟨w.heap.size, 0, none⟩) 32 32) w1 key) := ⟨arr_bytes B0 LK.out⟩
  go_wp2_with (first | (refine wl_app (by kernel_rfl) (.tmp 21) (.tmp 22) 27 5 .u8 1 rfl Try.underlying27 inf_u8 (by decide) (w.heap.size + 3) _ key _ _ rfl rfl R1.out VK.out (by rw [LK.out]; decide) B2.lt ?_))
  intro v8 w2 r2 g2 _
  have Q2 := app_below Q1 B2.lt R1.out g2
  have r2 : Row (w.heap.size + 3) 5 .u8 BB v8 w2 := by rw [EBB.out]; exact r2
  have C1 := A1.below Q2 (by omega)
  have C2 := A2.below Q2 (by omega)
  have QW := Q0.trans (Q2.mono (by omega))
  obtain ⟨g8, c8, cur8, rfl, hb8, _, _, _⟩ := r2.form (by rw [LB.out]; decide)
  have V8 : Kept (BytesV (.slice (some ⟨g8, 0, none⟩) 48 c8) w2 BB) := ⟨by have := row_bytes r2; rw [LB.out] at this; exact this⟩
  have hc8 : 48 ≤ c8 := by
    obtain ⟨p', c', e1, e2, _⟩ := V8.out
    simp only [Value.slice.injEq] at e1
    have := LB.out
    omega
  rw [LB.out]
  clear g2 R1 VK A0 A1 A2 Q1' Q0 Q1 Q2 B0 B1 B2 r2
  go_wp2_with fail
  go_loopg [7, 9] 12 (fun k s7 s9 wr => ∃ j i : Nat, j + k = 12 ∧ Kept (i = 4 * j) ∧ s9 = .int .i64 (i : Int) ∧ Below w2.heap.size w2 wr ∧ Kept (Row w2.heap.size 24 .u32 (wsL BB j) s7 wr))
  case atStart => exact ⟨0, 0, by omega, ⟨rfl⟩, rfl, Below.refl _ _, ⟨row_nil _ _ _ _⟩⟩
  case round =>
    obtain ⟨j, i, hjk, Ei, rfl, HB, RO⟩ := hrel
    by_cases hj : j < 12
    case pos =>
      have hi4 : i = 4 * j := Ei.out
      have hi' : (i : Int) < 48 := by omega
      obtain ⟨i4, h4⟩ : ∃ q, q = i + 4 := ⟨_, rfl⟩
      obtain ⟨m4, hm4⟩ : ∃ q, q = i4 - i := ⟨_, rfl⟩
      obtain ⟨cc, hcc⟩ : ∃ q, q = c8 - i := ⟨_, rfl⟩
      obtain ⟨z, hz⟩ : ∃ z, z = part BB j 4 := ⟨_, rfl⟩
      have e4 : m4 = 4 := by omega
      subst e4
      have VP : Kept (BytesV (.slice (some ⟨g8, i, none⟩) 4 cc) wr ((BB.drop i).take 4)) := ⟨piece_at (V8.out.under HB) (by rw [LB.out]; omega) (by omega) hcc⟩
      have CW : Kept (Calls Try.prog 19 #[.slice (some ⟨g8, i, none⟩) 4 cc] wr fun e w' => e = .returned (.int .u32 (z : Int)) ∧ Below wr.heap.size wr w') := ⟨by
        rw [hz, ← part_piece, ← hi4]
        exact rword_any _ _ wr VP.out ((YB.out.drop i).take 4) (by rw [List.length_take, List.length_drop, LB.out]; omega)⟩
      have E4 : Kept _ := ⟨h4⟩
      have Em : Kept _ := ⟨hm4⟩
      have Ec : Kept _ := ⟨hcc⟩
      have Ez : Kept _ := ⟨hz⟩
      have ht1 : i ≤ i4 := by omega
      have ht2 : i4 ≤ c8 := by omega
      have ht3 : i < c8 := by omega
      have h462 : i4 < 4611686018427387904 := by omega
      have E5 : Kept (i + 4 = 4 * (j + 1)) := ⟨by omega⟩
      clear h4 hm4 hcc hz hi4 VP
      go_wp2_with (first | ((with_reducible refine wv_val (d := 32) ?hd ?hw (.int .i64 (i4 : Int)) ?hr ?_); (case hd => rfl); (case hw => kernel_rfl); (case hr => intro w; exact run_addZ 4 rfl (by kernel_rfl) E4.out h462 w); simp only [Act.put, List.setIfInBounds_toArray, List.set_cons_succ, List.set_cons_zero]) | ((with_reducible refine wv_val (d := 33) ?hd ?hw (.slice (some ⟨g8, i, none⟩) 4 cc) ?hr ?_); (case hd => rfl); (case hw => kernel_rfl); (case hr => intro w; exact cut_own (l := 48) (c := c8) (k := i) (m := i4) rfl (by kernel_rfl) (by kernel_rfl) (by kernel_rfl) Try.underlying27 sz_u8 ht1 ht2 ht3 Em.out Ec.out w); simp only [Act.put, List.setIfInBounds_toArray, List.set_cons_succ, List.set_cons_zero]))
      refine CW.out.mono ?_
      rintro e w3 ⟨rfl, hb3⟩
      have RO3 : Kept _ := ⟨RO.out.under hb3⟩
      have HB3 := HB.trans (hb3.mono HB.size)
      have SN : Kept ((wsL BB j).length + [z].length ≤ 8796093022208) := ⟨by rw [wsL_len]; simp; omega⟩
      have SB : w2.heap.size ≤ (w3.alloc (.cells #[.int .u32 (z : Int)] 24)).heap.size := Nat.le_trans HB3.size (by simp)
      clear RO HB hb3 CW
      go_wp2_with (first | (refine wl_app (by kernel_rfl) (.tmp 28) (.tmp 35) 50 24 .u32 4 rfl Try.underlying50 inf_u32 (by decide) w2.heap.size (wsL BB j) [z] _ _ rfl rfl (RO3.out.alloc _) (one_u32 _ _) SN.out SB ?_))
      intro v4 w4 r4 g4 _
      have HB4 : Below w2.heap.size w2 w4 := app_below (HB3.alloc HB3.size _) SB (RO3.out.alloc _) g4
      have RO4 : Kept (Row w2.heap.size 24 .u32 (wsL BB (j + 1)) v4 w4) := ⟨by rw [wsL_succ, ← Ez.out]; exact r4⟩
      clear r4 g4 HB3 RO3 SN SB E4 Em Ec Ez Ei
      go_wp2_with fail
      go_roundg (gk - 1)
      case measure => omega
      case rel => exact ⟨j + 1, i + 4, by omega, E5, by simp, HB4, RO4⟩
    case neg =>
      have hi' : ¬ (i : Int) < 48 := by have := Ei.out; omega
      obtain ⟨F1, hF1⟩ : ∃ F, F = wsL BB 12 := ⟨_, rfl⟩
      have RO1 : Kept (Row w2.heap.size 24 .u32 F1 u7 wr) := ⟨by rw [hF1, show (12 : Nat) = j by omega]; exact RO.out⟩
      have EF1 : Kept _ := ⟨hF1⟩
      have SN : Kept (F1.length + [count].length ≤ 8796093022208) := ⟨by rw [hF1, wsL_len]; show 12 + 1 ≤ 8796093022208; decide⟩
      have SB : w2.heap.size ≤ (wr.alloc (.cells #[.int .u32 (count : Int)] 24)).heap.size := Nat.le_trans HB.size (by simp)
      clear RO hF1 Ei hj hjk
      go_wp2_with (first | (refine wl_app (by kernel_rfl) (.tmp 37) (.tmp 39) 50 24 .u32 4 rfl Try.underlying50 inf_u32 (by decide) w2.heap.size F1 [count] _ _ rfl rfl (RO1.out.alloc _) (one_u32 _ _) SN.out SB ?_))
      intro v5 w5 r5 g5 _
      have HB5 : Below w2.heap.size w2 w5 := app_below (HB.alloc HB.size _) SB (RO1.out.alloc _) g5
      obtain ⟨F2, hF2⟩ : ∃ F, F = F1 ++ [count] := ⟨_, rfl⟩
      have RO5 : Kept (Row w2.heap.size 24 .u32 F2 v5 w5) := ⟨by rw [hF2]; exact r5⟩
      have EF2 : Kept (F2 ++ wsL nonce 3 = FF) := ⟨by rw [hF2, EF1.out, EF.out]⟩
      have LF2 : Kept (F2.length = 13) := ⟨by rw [hF2, EF1.out, List.length_append, wsL_len]; rfl⟩
      clear r5 g5 HB RO1 SN SB hF2 EF1 EF
      go_wp2_with fail
      go_loopg [7, 10] 3 (fun k s7 s10 wr => ∃ j i : Nat, j + k = 3 ∧ Kept (i = 4 * j) ∧ s10 = .int .i64 (i : Int) ∧ Below w2.heap.size w2 wr ∧ Kept (Row w2.heap.size 24 .u32 (F2 ++ wsL nonce j) s7 wr))
      case atStart => exact ⟨0, 0, by omega, ⟨rfl⟩, rfl, HB5, ⟨by rw [show wsL nonce 0 = [] from rfl, List.append_nil]; exact RO5.out⟩⟩
      case round =>
        clear RO5 HB5
        obtain ⟨j, i, hjk, Ei, rfl, HB, RO⟩ := hrel
        by_cases hj : j < 3
        case pos =>
          have hi4 : i = 4 * j := Ei.out
          have hi' : (i : Int) < 12 := by omega
          obtain ⟨i4, h4⟩ : ∃ q, q = i + 4 := ⟨_, rfl⟩
          obtain ⟨m4, hm4⟩ : ∃ q, q = i4 - i := ⟨_, rfl⟩
          obtain ⟨cc, hcc⟩ : ∃ q, q = 12 - i := ⟨_, rfl⟩
          obtain ⟨z, hz⟩ : ∃ z, z = part nonce j 4 := ⟨_, rfl⟩
          have e4 : m4 = 4 := by omega
          subst e4
          have VP : Kept (BytesV (.slice (some ⟨w.heap.size + 1, i, none⟩) 4 cc) wr ((nonce.drop i).take 4)) := ⟨piece_at (arr_bytes (C1.under HB) LN.out) (by rw [LN.out]; omega) (by omega) hcc⟩
          have CW : Kept (Calls Try.prog 19 #[.slice (some ⟨w.heap.size + 1, i, none⟩) 4 cc] wr fun e w' => e = .returned (.int .u32 (z : Int)) ∧ Below wr.heap.size wr w') := ⟨by
            rw [hz, ← part_piece, ← hi4]
            exact rword_any _ _ wr VP.out ((YN.out.drop i).take 4) (by rw [List.length_take, List.length_drop, LN.out]; omega)⟩
          have E4 : Kept _ := ⟨h4⟩
          have Em : Kept _ := ⟨hm4⟩
          have Ec : Kept _ := ⟨hcc⟩
          have Ez : Kept _ := ⟨hz⟩
          have ht1 : i ≤ i4 := by omega
          have ht2 : i4 ≤ 12 := by omega
          have ht3 : i < 12 := by omega
          have h462 : i4 < 4611686018427387904 := by omega
          have E5 : Kept (i + 4 = 4 * (j + 1)) := ⟨by omega⟩
          clear h4 hm4 hcc hz hi4 VP
          go_wp2_with (first | ((with_reducible refine wv_val (d := 48) ?hd ?hw (.int .i64 (i4 : Int)) ?hr ?_); (case hd => rfl); (case hw => kernel_rfl); (case hr => intro w; exact run_addZ 4 rfl (by kernel_rfl) E4.out h462 w); simp only [Act.put, List.setIfInBounds_toArray, List.set_cons_succ, List.set_cons_zero]) | ((with_reducible refine wv_val (d := 49) ?hd ?hw (.slice (some ⟨w.heap.size + 1, i, none⟩) 4 cc) ?hr ?_); (case hd => rfl); (case hw => kernel_rfl); (case hr => intro w; exact arr_cutV_run (k := i) (m := i4) rfl (by kernel_rfl) (by kernel_rfl) (by kernel_rfl) Try.underlying23 sz_u8 ht1 ht2 ht3 Em.out Ec.out w); simp only [Act.put, List.setIfInBounds_toArray, List.set_cons_succ, List.set_cons_zero]))
          refine CW.out.mono ?_
          rintro e w3 ⟨rfl, hb3⟩
          have RO3 : Kept _ := ⟨RO.out.under hb3⟩
          have HB3 := HB.trans (hb3.mono HB.size)
          have SN : Kept ((F2 ++ wsL nonce j).length + [z].length ≤ 8796093022208) := ⟨by rw [List.length_append, wsL_len, LF2.out]; simp; omega⟩
          have SB : w2.heap.size ≤ (w3.alloc (.cells #[.int .u32 (z : Int)] 24)).heap.size := Nat.le_trans HB3.size (by simp)
          clear RO HB hb3 CW
          go_wp2_with (first | (refine wl_app (by kernel_rfl) (.tmp 45) (.tmp 51) 50 24 .u32 4 rfl Try.underlying50 inf_u32 (by decide) w2.heap.size (F2 ++ wsL nonce j) [z] _ _ rfl rfl (RO3.out.alloc _) (one_u32 _ _) SN.out SB ?_))
          intro v4 w4 r4 g4 _
          have HB4 : Below w2.heap.size w2 w4 := app_below (HB3.alloc HB3.size _) SB (RO3.out.alloc _) g4
          have RO4 : Kept (Row w2.heap.size 24 .u32 (F2 ++ wsL nonce (j + 1)) v4 w4) := ⟨by rw [wsL_succ, ← Ez.out]; exact r4⟩
          clear r4 g4 HB3 RO3 SN SB E4 Em Ec Ez Ei
          go_wp2_with fail
          go_roundg (gk - 1)
          case measure => omega
          case rel => exact ⟨j + 1, i + 4, by omega, E5, by simp, HB4, RO4⟩
        case neg =>
          have hi' : ¬ (i : Int) < 12 := by have := Ei.out; omega
          have RF : Row w2.heap.size 24 .u32 FF u7 wr := by rw [← EF2.out, show (3 : Nat) = j by omega]; exact RO.out
          have VF : Kept (IntsV .u32 u7 wr FF) := ⟨row_cells RF⟩
          clear RF RO Ei hj hjk EF2 LF2 V8
          have D2 := C2.under HB
          have QR := QW.trans (HB.mono QW.size)
          have RE : Kept (Row wr.heap.size 24 .u32 [] (.slice (some ⟨wr.heap.size, 0, none⟩) 0 0) (wr.alloc (.cells #[] 24))) := ⟨row_emp32 wr (Nat.le_refl _)⟩
          have QE : Below wr.heap.size wr (wr.alloc (.cells #[] 24)) := (Below.refl _ _).alloc (Nat.le_refl _) _
          have VF2 : Kept (IntsV .u32 u7 (wr.alloc (.cells #[] 24)) FF) := ⟨VF.out.und QE⟩
          clear HB C1 C2 QW
          go_wp2_with (first | (refine wl_app (by kernel_rfl) (.tmp 53) (.tmp 54) 50 24 .u32 4 rfl Try.underlying50 inf_u32 (by decide) wr.heap.size [] FF _ _ rfl rfl RE.out VF2.out (by rw [WF.out.len]; decide) QE.size ?_))
          intro v6 w6 r6 g6 _
          have HB6 : Below wr.heap.size wr w6 := app_below QE QE.size RE.out g6
          have VM : Kept (IntsV .u32 v6 w6 FF) := ⟨row_cells r6⟩
          have VF6 : Kept (IntsV .u32 u7 w6 FF) := ⟨VF.out.und HB6⟩
          have E2 := D2.under HB6
          have Q6 := QR.trans (HB6.mono QR.size)
          clear r6 g6 RE QE VF VF2 HB6 D2 QR
          have hF16 := WF.out.len
          have NF : Kept (FF ≠ []) := ⟨fun e => by rw [e] at hF16; cases hF16⟩
          obtain ⟨pF, cf, eF, _, hpF⟩ := VF6.out
          obtain ⟨AF, rfl, hAF0, _⟩ := hpF NF.out
          rw [hF16] at eF
          subst eF
          clear hpF hF16
          go_wp2_with fail
          go_loopg [11, 12] 10 (fun k s11 s12 wr => ∃ (n : Nat) (X : List Nat), n + k = 10 ∧ s12 = .int .i64 (n : Int) ∧ Kept (X = mixT FF n) ∧ Below w.heap.size w wr ∧ Blk wr (w.heap.size + 2) 34 (ints .u8 Z0) ∧ Kept (IntsV .u32 (.slice (some AF) 16 cf) wr FF) ∧ Kept (IntsV .u32 s11 wr X))
          case atStart => exact ⟨0, FF, by omega, rfl, ⟨rfl⟩, Q6, E2, VF6, VM⟩
          case round =>
            clear Q6 E2 VF6 VM
            obtain ⟨n, X, hnk, rfl, EX, Q6, E2, VF6, VM⟩ := hrel
            have WX : Kept (Ws X) := ⟨by rw [EX.out]; exact WF.out.mix n⟩
            by_cases hn : n < 10
            case pos =>
              have hn' : (n : Int) < 10 := by omega
              obtain ⟨gk0, hg0⟩ : ∃ q, q = gk := ⟨_, rfl⟩
              go_wp2_with fail
              go_loopg [11, 13] 4 (fun k s11 s13 wr => ∃ i : Nat, i + k = 4 ∧ s13 = .int .i64 (i : Int) ∧ Below w.heap.size w wr ∧ Blk wr (w.heap.size + 2) 34 (ints .u8 Z0) ∧ Kept (IntsV .u32 (.slice (some AF) 16 cf) wr FF) ∧ Kept (IntsV .u32 s11 wr (colL X i)))
              case atStart => exact ⟨0, by omega, rfl, Q6, E2, VF6, VM⟩
              case round =>
                clear Q6 E2 VF6 VM
                obtain ⟨i, hik, rfl, Q6, E2, VF6, VM⟩ := hrel
                by_cases hi : i < 4
                case pos =>
                  have hi' : (i : Int) < 4 := by omega
                  obtain ⟨i4, h4⟩ : ∃ q, q = i + 4 := ⟨_, rfl⟩
                  obtain ⟨i8, h8⟩ : ∃ q, q = i + 8 := ⟨_, rfl⟩
                  obtain ⟨i12, h12⟩ : ∃ q, q = i + 12 := ⟨_, rfl⟩
                  obtain ⟨Y, hY⟩ : ∃ Y, Y = colL X i := ⟨_, rfl⟩
                  have WY : Kept (Ws Y) := ⟨by rw [hY]; exact WX.out.col i⟩
                  rw [← hY] at VM
                  have EY : Kept (colL X (i + 1) = qL Y i i4 i8 i12) := ⟨by rw [hY, h4, h8, h12]; rfl⟩
                  have E4 : Kept _ := ⟨h4⟩
                  have E8 : Kept _ := ⟨h8⟩
                  have E12 : Kept _ := ⟨h12⟩
                  have l0 : i < 16 := by omega
                  have l4 : i4 < 16 := by omega
                  have l8 : i8 < 16 := by omega
                  have l12 : i12 < 16 := by omega
                  clear h4 h8 h12 hY
                  go_wp2_with (first | ((with_reducible refine wv_val (d := 67) ?hd ?hw (.int .i64 (i4 : Int)) ?hr ?_); (case hd => rfl); (case hw => kernel_rfl); (case hr => intro w; exact run_addZ 4 rfl (by kernel_rfl) E4.out (by omega) w); simp only [Act.put, List.setIfInBounds_toArray, List.set_cons_succ, List.set_cons_zero]) | ((with_reducible refine wv_val (d := 69) ?hd ?hw (.int .i64 (i8 : Int)) ?hr ?_); (case hd => rfl); (case hw => kernel_rfl); (case hr => intro w; exact run_addZ 8 rfl (by kernel_rfl) E8.out (by omega) w); simp only [Act.put, List.setIfInBounds_toArray, List.set_cons_succ, List.set_cons_zero]) | ((with_reducible refine wv_val (d := 71) ?hd ?hw (.int .i64 (i12 : Int)) ?hr ?_); (case hd => rfl); (case hw => kernel_rfl); (case hr => intro w; exact run_addZ 12 rfl (by kernel_rfl) E12.out (by omega) w); simp only [Act.put, List.setIfInBounds_toArray, List.set_cons_succ, List.set_cons_zero]))
                  refine (rquarter_any Y u11 i i4 i8 i12 wr VM.out WY.out l0 l4 l8 l12).mono ?_
                  rintro e w7 ⟨v7, rfl, r7, hb7⟩
                  have Q7 := Q6.trans (hb7.mono Q6.size)
                  have E7 := E2.under hb7
                  have VF7 : Kept _ := ⟨VF6.out.und hb7⟩
                  have VM7 : Kept (IntsV .u32 v7 w7 (colL X (i + 1))) := ⟨by rw [EY.out]; exact row_cells r7⟩
                  clear Q6 E2 VF6 VM r7 hb7 EY E4 E8 E12 WY
                  go_wp2_with fail
                  go_roundg (gk - 1)
                  case measure => omega
                  case rel => exact ⟨i + 1, by omega, by simp, Q7, E7, VF7, VM7⟩
                case neg =>
                  have hi' : ¬ (i : Int) < 4 := by omega
                  obtain ⟨Y, hY⟩ : ∃ Y, Y = colL X 4 := ⟨_, rfl⟩
                  have WY : Kept (Ws Y) := ⟨by rw [hY]; exact WX.out.col 4⟩
                  have VY : Kept (IntsV .u32 u11 wr Y) := ⟨by rw [hY, show (4 : Nat) = i by omega]; exact VM.out⟩
                  have EY : Kept _ := ⟨hY⟩
                  clear VM hY hik hi
                  go_wp2_with fail
                  go_loopg [11, 14] 4 (fun k s11 s14 wr => ∃ i : Nat, i + k = 4 ∧ s14 = .int .i64 (i : Int) ∧ Below w.heap.size w wr ∧ Blk wr (w.heap.size + 2) 34 (ints .u8 Z0) ∧ Kept (IntsV .u32 (.slice (some AF) 16 cf) wr FF) ∧ Kept (IntsV .u32 s11 wr (diaL Y i)))
                  case atStart => exact ⟨0, by omega, rfl, Q6, E2, VF6, VY⟩
                  case round =>
                    clear Q6 E2 VF6 VY
                    obtain ⟨i, hik, rfl, Q6, E2, VF6, VM⟩ := hrel
                    by_cases hi : i < 4
                    case pos =>
                      have hi' : (i : Int) < 4 := by omega
                      obtain ⟨i1, h1⟩ : ∃ q, q = i + 1 := ⟨_, rfl⟩
                      obtain ⟨m1, k1⟩ : ∃ q, q = i1 % 4 := ⟨_, rfl⟩
                      obtain ⟨i4, h4⟩ : ∃ q, q = m1 + 4 := ⟨_, rfl⟩
                      obtain ⟨i2, h2⟩ : ∃ q, q = i + 2 := ⟨_, rfl⟩
                      obtain ⟨m2, k2⟩ : ∃ q, q = i2 % 4 := ⟨_, rfl⟩
                      obtain ⟨i8, h8⟩ : ∃ q, q = m2 + 8 := ⟨_, rfl⟩
                      obtain ⟨i3, h3⟩ : ∃ q, q = i + 3 := ⟨_, rfl⟩
                      obtain ⟨m3, k3⟩ : ∃ q, q = i3 % 4 := ⟨_, rfl⟩
                      obtain ⟨i12, h12⟩ : ∃ q, q = m3 + 12 := ⟨_, rfl⟩
                      obtain ⟨T, hT⟩ : ∃ T, T = diaL Y i := ⟨_, rfl⟩
                      have WT : Kept (Ws T) := ⟨by rw [hT]; exact WY.out.dia i⟩
                      rw [← hT] at VM
                      have ET : Kept (diaL Y (i + 1) = qL T i i4 i8 i12) := ⟨by rw [hT, h4, h8, h12, k1, k2, k3, h1, h2, h3]; rfl⟩
                      have E1 : Kept _ := ⟨h1⟩
                      have E2p : Kept _ := ⟨h2⟩
                      have E3 : Kept _ := ⟨h3⟩
                      have K1 : Kept _ := ⟨k1⟩
                      have K2 : Kept _ := ⟨k2⟩
                      have K3 : Kept _ := ⟨k3⟩
                      have E4 : Kept _ := ⟨h4⟩
                      have E8 : Kept _ := ⟨h8⟩
                      have E12 : Kept _ := ⟨h12⟩
                      have l0 : i < 16 := by omega
                      have l4 : i4 < 16 := by omega
                      have l8 : i8 < 16 := by omega
                      have l12 : i12 < 16 := by omega
                      have li1 : i1 < 16 := by omega
                      have li2 : i2 < 16 := by omega
                      have li3 : i3 < 16 := by omega
                      clear h1 h2 h3 k1 k2 k3 h4 h8 h12 hT
                      go_wp2_with (first | ((with_reducible refine wv_val (d := 80) ?hd ?hw (.int .i64 (i1 : Int)) ?hr ?_); (case hd => rfl); (case hw => kernel_rfl); (case hr => intro w; exact run_addZ 1 rfl (by kernel_rfl) E1.out (by omega) w); simp only [Act.put, List.setIfInBounds_toArray, List.set_cons_succ, List.set_cons_zero]) | ((with_reducible refine wv_val (d := 81) ?hd ?hw (.int .i64 (m1 : Int)) ?hr ?_); (case hd => rfl); (case hw => kernel_rfl); (case hr => intro w; exact run_rem4 rfl (by kernel_rfl) K1.out (by omega) w); simp only [Act.put, List.setIfInBounds_toArray, List.set_cons_succ, List.set_cons_zero]) | ((with_reducible refine wv_val (d := 82) ?hd ?hw (.int .i64 (i4 : Int)) ?hr ?_); (case hd => rfl); (case hw => kernel_rfl); (case hr => intro w; exact run_addZ 4 rfl (by kernel_rfl) E4.out (by omega) w); simp only [Act.put, List.setIfInBounds_toArray, List.set_cons_succ, List.set_cons_zero]) | ((with_reducible refine wv_val (d := 84) ?hd ?hw (.int .i64 (i2 : Int)) ?hr ?_); (case hd => rfl); (case hw => kernel_rfl); (case hr => intro w; exact run_addZ 2 rfl (by kernel_rfl) E2p.out (by omega) w); simp only [Act.put, List.setIfInBounds_toArray, List.set_cons_succ, List.set_cons_zero]) | ((with_reducible refine wv_val (d := 85) ?hd ?hw (.int .i64 (m2 : Int)) ?hr ?_); (case hd => rfl); (case hw => kernel_rfl); (case hr => intro w; exact run_rem4 rfl (by kernel_rfl) K2.out (by omega) w); simp only [Act.put, List.setIfInBounds_toArray, List.set_cons_succ, List.set_cons_zero]) | ((with_reducible refine wv_val (d := 86) ?hd ?hw (.int .i64 (i8 : Int)) ?hr ?_); (case hd => rfl); (case hw => kernel_rfl); (case hr => intro w; exact run_addZ 8 rfl (by kernel_rfl) E8.out (by omega) w); simp only [Act.put, List.setIfInBounds_toArray, List.set_cons_succ, List.set_cons_zero]) | ((with_reducible refine wv_val (d := 88) ?hd ?hw (.int .i64 (i3 : Int)) ?hr ?_); (case hd => rfl); (case hw => kernel_rfl); (case hr => intro w; exact run_addZ 3 rfl (by kernel_rfl) E3.out (by omega) w); simp only [Act.put, List.setIfInBounds_toArray, List.set_cons_succ, List.set_cons_zero]) | ((with_reducible refine wv_val (d := 89) ?hd ?hw (.int .i64 (m3 : Int)) ?hr ?_); (case hd => rfl); (case hw => kernel_rfl); (case hr => intro w; exact run_rem4 rfl (by kernel_rfl) K3.out (by omega) w); simp only [Act.put, List.setIfInBounds_toArray, List.set_cons_succ, List.set_cons_zero]) | ((with_reducible refine wv_val (d := 90) ?hd ?hw (.int .i64 (i12 : Int)) ?hr ?_); (case hd => rfl); (case hw => kernel_rfl); (case hr => intro w; exact run_addZ 12 rfl (by kernel_rfl) E12.out (by omega) w); simp only [Act.put, List.setIfInBounds_toArray, List.set_cons_succ, List.set_cons_zero]))
                      refine (rquarter_any T u11 i i4 i8 i12 wr VM.out WT.out l0 l4 l8 l12).mono ?_
                      rintro e w7 ⟨v7, rfl, r7, hb7⟩
                      have Q7 := Q6.trans (hb7.mono Q6.size)
                      have E7 := E2.under hb7
                      have VF7 : Kept _ := ⟨VF6.out.und hb7⟩
                      have VM7 : Kept (IntsV .u32 v7 w7 (diaL Y (i + 1))) := ⟨by rw [ET.out]; exact row_cells r7⟩
                      clear Q6 E2 VF6 VM r7 hb7 ET E1 E2p E3 K1 K2 K3 E4 E8 E12 WT
                      go_wp2_with fail
                      go_roundg (gk - 1)
                      case measure => omega
                      case rel => exact ⟨i + 1, by omega, by simp, Q7, E7, VF7, VM7⟩
                    case neg =>
                      have hi' : ¬ (i : Int) < 4 := by omega
                      obtain ⟨X2, hX2⟩ : ∃ X, X = mixT FF (n + 1) := ⟨_, rfl⟩
                      have VX2 : Kept (IntsV .u32 u11 wr X2) := ⟨by
                        have e : X2 = diaL Y 4 := by rw [hX2, EY.out, EX.out]; rfl
                        rw [e, show (4 : Nat) = i by omega]
                        exact VM.out⟩
                      have EX2 : Kept _ := ⟨hX2⟩
                      clear VM hX2 EY WY hik hi EX WX
                      go_wp2_with fail
                      go_roundg (gk0 - 1)
                      case measure => omega
                      case rel => exact ⟨n + 1, X2, by omega, by simp, EX2, Q6, E2, VF6, VX2⟩
            case neg =>
              have hn' : ¬ (n : Int) < 10 := by omega
              obtain ⟨P, hP⟩ : ∃ P, P = plusL FF X := ⟨_, rfl⟩
              have WP : Kept (Ws P) := ⟨by rw [hP]; exact WF.out.plus WX.out⟩
              have EP : Kept _ := ⟨hP⟩
              have ELP : Kept (L = leL P) := ⟨by rw [EL.out, hP, EX.out, show n = 10 by omega]⟩
              have hX16 := WX.out.len
              have NX : Kept (X ≠ []) := ⟨fun e => by rw [e] at hX16; cases hX16⟩
              obtain ⟨pM, cm, eM, _, hpM⟩ := VM.out
              obtain ⟨AM, rfl, hAM0, _⟩ := hpM NX.out
              have hAM : Kept (AM.block ≠ wr.heap.size) := ⟨by omega⟩
              have hAF : Kept (AF.block ≠ wr.heap.size) := ⟨by
                obtain ⟨p', c', e1, _, e3⟩ := VF6.out
                obtain ⟨A', e4, e5, _⟩ := e3 NF.out
                simp only [Value.slice.injEq] at e1
                have e6 : AF = A' := by have := e1.1; rw [e4] at this; exact Option.some.inj this
                rw [e6]
                omega⟩
              clear hAM0
              rw [hX16] at eM
              subst eM
              clear hpM hX16 EX EL hP hnk hn
              have A15 : Blk (wr.alloc (.cells #[.int .u8 0, .int .u8 0, .int .u8 0, .int .u8 0, .int .u8 0, .int .u8 0, .int .u8 0, .int .u8 0, .int .u8 0, .int .u8 0, .int .u8 0, .int .u8 0, .int .u8 0, .int .u8 0, .int .u8 0, .int .u8 0, .int .u8 0, .int .u8 0, .int .u8 0, .int .u8 0, .int .u8 0, .int .u8 0, .int .u8 0, .int .u8 0, .int .u8 0, .int .u8 0, .int .u8 0, .int .u8 0, .int .u8 0, .int .u8 0, .int .u8 0, .int .u8 0, .int .u8 0, .int .u8 0, .int .u8 0, .int .u8 0, .int .u8 0, .int .u8 0, .int .u8 0, .int .u8 0, .int .u8 0, .int .u8 0, .int .u8 0, .int .u8 0, .int .u8 0, .int .u8 0, .int .u8 0, .int .u8 0, .int .u8 0, .int .u8 0, .int .u8 0, .int .u8 0, .int .u8 0, .int .u8 0, .int .u8 0, .int .u8 0, .int .u8 0, .int .u8 0, .int .u8 0, .int .u8 0, .int .u8 0, .int .u8 0, .int .u8 0, .int .u8 0] 34)) wr.heap.size 34 (ints .u8 (mix L Z0 (4 * 0))) := by rw [Nat.mul_zero, mix_zero, ← EI.out]; exact blk_new _ _ _
              have QA : Below wr.heap.size wr (wr.alloc (.cells #[.int .u8 0, .int .u8 0, .int .u8 0, .int .u8 0, .int .u8 0, .int .u8 0, .int .u8 0, .int .u8 0, .int .u8 0, .int .u8 0, .int .u8 0, .int .u8 0, .int .u8 0, .int .u8 0, .int .u8 0, .int .u8 0, .int .u8 0, .int .u8 0, .int .u8 0, .int .u8 0, .int .u8 0, .int .u8 0, .int .u8 0, .int .u8 0, .int .u8 0, .int .u8 0, .int .u8 0, .int .u8 0, .int .u8 0, .int .u8 0, .int .u8 0, .int .u8 0, .int .u8 0, .int .u8 0, .int .u8 0, .int .u8 0, .int .u8 0, .int .u8 0, .int .u8 0, .int .u8 0, .int .u8 0, .int .u8 0, .int .u8 0, .int .u8 0, .int .u8 0, .int .u8 0, .int .u8 0, .int .u8 0, .int .u8 0, .int .u8 0, .int .u8 0, .int .u8 0, .int .u8 0, .int .u8 0, .int .u8 0, .int .u8 0, .int .u8 0, .int .u8 0, .int .u8 0, .int .u8 0, .int .u8 0, .int .u8 0, .int .u8 0, .int .u8 0] 34)) := (Below.refl _ _).alloc (Nat.le_refl _) _
              have Q7 := Q6.trans (QA.mono Q6.size)
              have E7 := E2.under QA
              have VF7 : Kept _ := ⟨VF6.out.und QA⟩
              have VM7 : Kept _ := ⟨VM.out.und QA⟩
              have hlt : w.heap.size + 2 < wr.heap.size := E2.lt
              clear Q6 E2 VF6 VM QA EI
              go_wp2_with fail
              generalize hW2 : wr.alloc (.cells #[.int .u8 0, .int .u8 0, .int .u8 0, .int .u8 0, .int .u8 0, .int .u8 0, .int .u8 0, .int .u8 0, .int .u8 0, .int .u8 0, .int .u8 0, .int .u8 0, .int .u8 0, .int .u8 0, .int .u8 0, .int .u8 0, .int .u8 0, .int .u8 0, .int .u8 0, .int .u8 0, .int .u8 0, .int .u8 0, .int .u8 0, .int .u8 0, .int .u8 0, .int .u8 0, .int .u8 0, .int .u8 0, .int .u8 0, .int .u8 0, .int .u8 0, .int .u8 0, .int .u8 0, .int .u8 0, .int .u8 0, .int .u8 0, .int .u8 0, .int .u8 0, .int .u8 0, .int .u8 0, .int .u8 0, .int .u8 0, .int .u8 0, .int .u8 0, .int .u8 0, .int .u8 0, .int .u8 0, .int .u8 0, .int .u8 0, .int .u8 0, .int .u8 0, .int .u8 0, .int .u8 0, .int .u8 0, .int .u8 0, .int .u8 0, .int .u8 0, .int .u8 0, .int .u8 0, .int .u8 0, .int .u8 0, .int .u8 0, .int .u8 0, .int .u8 0] 34) = w8 at *
              generalize hg15 : wr.heap.size = g15 at *
              clear hW2 hg15
              go_loopg [16] 16 (fun k s16 wr => ∃ i : Nat, i + k = 16 ∧ s16 = .int .i64 (i : Int) ∧ Below w.heap.size w wr ∧ Blk wr (w.heap.size + 2) 34 (ints .u8 Z0) ∧ Kept (IntsV .u32 (.slice (some AF) 16 cf) wr FF) ∧ Kept (IntsV .u32 (.slice (some AM) 16 cm) wr X) ∧ Blk wr g15 34 (ints .u8 (mix L Z0 (4 * i))))
              case atStart => exact ⟨0, by omega, rfl, Q7, E7, VF7, VM7, A15⟩
              case round =>
                clear Q7 E7 VF7 VM7 A15
                obtain ⟨i, hik, rfl, Q7, E7, VF7, VM7, A15⟩ := hrel
                by_cases hi16 : i < 16
                case pos =>
                  have hi' : (i : Int) < 16 := by omega
                  obtain ⟨gk0, hg0⟩ : ∃ q, q = gk := ⟨_, rfl⟩
                  obtain ⟨x, hx⟩ : ∃ x, x = X.getD i 0 := ⟨_, rfl⟩
                  obtain ⟨y, hy⟩ : ∃ x, x = FF.getD i 0 := ⟨_, rfl⟩
                  obtain ⟨z, hz⟩ : ∃ z, z = (x + y) % 4294967296 := ⟨_, rfl⟩
                  have GX : X[i]? = some x := by rw [hx]; exact WX.out.get i hi16
                  have GF : FF[i]? = some y := by rw [hy]; exact WF.out.get i hi16
                  have GP : Kept (P[i]? = some z) := ⟨by rw [EP.out, plusL_get FF X i y x GF GX, hz, Nat.add_comm]⟩
                  have hz4 : z < 4294967296 := by rw [hz]; exact Nat.mod_lt _ (by decide)
                  have CM : Kept (∀ w', Below wr.heap.size wr w' → w'.cell? (AM.add i) = some (.int .u32 (x : Int))) := ⟨fun w' hb => cell_at (VM7.out.und hb) GX⟩
                  have CF : Kept (∀ w', Below wr.heap.size wr w' → w'.cell? (AF.add i) = some (.int .u32 (y : Int))) := ⟨fun w' hb => cell_at (VF7.out.und hb) GF⟩
                  have Ez : Kept _ := ⟨hz⟩
                  clear hx hy hz GX GF
                  go_wp2_with fail
                  refine region_ownL wr 10 [(96, .slice (some AM) 16 cm), (97, .int .i64 (i : Int)), (98, .pointer (some (AM.add i))), (99, .int .u32 (x : Int)), (100, .slice (some AF) 16 cf), (101, .int .i64 (i : Int)), (102, .pointer (some (AF.add i))), (103, .int .u32 (y : Int)), (104, .int .u32 (z : Int)), (17, .int .u32 (z : Int))] [] [] [] rfl (by kernel_rfl) (by kernel_rfl) (by kernel_rfl) (by kernel_rfl) (by kernel_rfl) (by kernel_rfl) (by kernel_rfl) (by kernel_rfl) (by kernel_rfl) (by kernel_rfl) (by kernel_rfl) ?hst1 ?hst2 (Below.refl _ _) (fun hA => ⟨ow_val hA (wants_none rfl) 96 (.slice (some AM) 16 cm) (by kernel_rfl) rfl rfl rfl rfl (by kernel_rfl) (fun w => by kernel_rfl), ow_val hA (wants_none rfl) 97 (.int .i64 (i : Int)) (by kernel_rfl) rfl rfl rfl rfl (by kernel_rfl) (fun w => by kernel_rfl), ow_val hA (wants_none rfl) 98 (.pointer (some (AM.add i))) (by kernel_rfl) rfl rfl rfl rfl (by kernel_rfl) (fun w => run_idxS (A := AM) (i := i) (l := 16) (c := cm) rfl (by kernel_rfl) (by kernel_rfl) Try.underlying50 hi16 sz_u32 w), ow_elem hA (wants_none rfl) 99 (.int .u32 (x : Int)) (by kernel_rfl) rfl rfl rfl rfl (by kernel_rfl) 24 ag_u32 (.tmp 98) rfl (AM.add i) (by kernel_rfl) (fun w1 hb => CM.out w1 hb), ow_val hA (wants_none rfl) 100 (.slice (some AF) 16 cf) (by kernel_rfl) rfl rfl rfl rfl (by kernel_rfl) (fun w => by kernel_rfl), ow_val hA (wants_none rfl) 101 (.int .i64 (i : Int)) (by kernel_rfl) rfl rfl rfl rfl (by kernel_rfl) (fun w => by kernel_rfl), ow_val hA (wants_none rfl) 102 (.pointer (some (AF.add i))) (by kernel_rfl) rfl rfl rfl rfl (by kernel_rfl) (fun w => run_idxS (A := AF) (i := i) (l := 16) (c := cf) rfl (by kernel_rfl) (by kernel_rfl) Try.underlying50 hi16 sz_u32 w), ow_elem hA (wants_none rfl) 103 (.int .u32 (y : Int)) (by kernel_rfl) rfl rfl rfl rfl (by kernel_rfl) 24 ag_u32 (.tmp 102) rfl (AF.add i) (by kernel_rfl) (fun w1 hb => CF.out w1 hb), ow_val hA (wants_none rfl) 104 (.int .u32 (z : Int)) (by kernel_rfl) rfl rfl rfl rfl (by kernel_rfl) (fun w => run_add32 (m := x) (n := y) rfl (by kernel_rfl) (by kernel_rfl) Ez.out w), ow_val hA (wants_none rfl) 17 (.int .u32 (z : Int)) (by kernel_rfl) rfl rfl rfl rfl (by kernel_rfl) (fun w => by kernel_rfl), trivial⟩) ?_
                  case hst1 => intro q hq; cases hq
                  case hst2 => intro q hq; cases hq
                  intro fv w9 hf hD hb9
                  simp only [putR, List.foldl_cons, List.foldl_nil, List.map_cons, List.map_nil, Act.put, List.setIfInBounds_toArray, List.set_cons_succ, List.set_cons_zero]
                  clear hf hD CM CF
                  have Q9 := Q7.trans (hb9.mono Q7.size)
                  have E9 := E7.under hb9
                  have VF9 : Kept _ := ⟨VF7.out.und hb9⟩
                  have VM9 : Kept _ := ⟨VM7.out.und hb9⟩
                  have A9 := A15.under hb9
                  clear Q7 E7 VF7 VM7 A15 hb9 Ez
                  refine (show wpList _ _ _ [] _ _ from ?_)
                  refine wpList_nil ?_
                  go_wp2_with fail
                  go_loopg [17, 18] 4 (fun k s17 s18 wr => ∃ t nn : Nat, t + k = 4 ∧ s18 = .int .i64 (t : Int) ∧ s17 = .int .u32 (nn : Int) ∧ Kept (nn = z / 256 ^ t) ∧ Below w.heap.size w wr ∧ Blk wr (w.heap.size + 2) 34 (ints .u8 Z0) ∧ Kept (IntsV .u32 (.slice (some AF) 16 cf) wr FF) ∧ Kept (IntsV .u32 (.slice (some AM) 16 cm) wr X) ∧ Blk wr g15 34 (ints .u8 (mix L Z0 (4 * i + t))))
                  case atStart => exact ⟨0, z, by omega, rfl, rfl, ⟨by rw [Nat.pow_zero, Nat.div_one]⟩, Q9, E9, VF9, VM9, A9⟩
                  case round =>
                    clear Q9 E9 VF9 VM9 A9
                    obtain ⟨t, nn, htk, rfl, rfl, EN, Q9, E9, VF9, VM9, A9⟩ := hrel
                    by_cases ht : t < 4
                    case pos =>
                      have ht' : (t : Int) < 4 := by omega
                      obtain ⟨q4, hq4⟩ : ∃ q, q = 4 * i := ⟨_, rfl⟩
                      obtain ⟨q, hq⟩ : ∃ q, q = q4 + t := ⟨_, rfl⟩
                      obtain ⟨bb, hbb⟩ : ∃ b, b = nn % 256 := ⟨_, rfl⟩
                      obtain ⟨n2, hn2⟩ : ∃ b, b = nn / 256 := ⟨_, rfl⟩
                      have q64 : q < 64 := by omega
                      have q462 : q4 < 64 := by omega
                      have bb8 : bb < 256 := by omega
                      have nn4 : nn < 4294967296 := by rw [EN.out]; exact Nat.lt_of_le_of_lt (Nat.div_le_self _ _) hz4
                      have GL : Kept (L[q]? = some bb) := ⟨by
                        rw [ELP.out, leL_get P q z q64 (by rw [show q / 4 = i by omega]; exact GP.out), show q % 4 = t by omega, pow256, hbb, EN.out]⟩
                      have EN2 : Kept (n2 = z / 256 ^ (t + 1)) := ⟨by rw [hn2, EN.out, Nat.pow_succ, Nat.div_div_eq_div_mul]⟩
                      have ESET : Kept ((mix L Z0 (4 * i + t)).set q bb = mix L Z0 (4 * i + (t + 1))) := ⟨by
                        have e : q = 4 * i + t := by omega
                        rw [← e, show 4 * i + (t + 1) = q + 1 by omega]
                        exact mix_set L Z0 q bb (by rw [LL.out, LZ.out]) GL.out⟩
                      have LM : Kept (q < (ints .u8 (mix L Z0 (4 * i + t))).size) := ⟨by rw [ints_size, mix_len L Z0 _ (by rw [LL.out, LZ.out]), LZ.out]; exact q64⟩
                      have Eq4 : Kept _ := ⟨hq4⟩
                      have Eq : Kept _ := ⟨hq⟩
                      have Ebb : Kept _ := ⟨hbb⟩
                      have En2 : Kept _ := ⟨hn2⟩
                      clear hq4 hq hbb hn2 EN
                      go_wp2_with (first | ((with_reducible refine wv_val (d := 110) ?hd ?hw (.int .i64 (q4 : Int)) ?hr ?_); (case hd => rfl); (case hw => kernel_rfl); (case hr => intro w; exact run_mulC 4 rfl (by kernel_rfl) Eq4.out (by omega) w); simp only [Act.put, List.setIfInBounds_toArray, List.set_cons_succ, List.set_cons_zero]) | ((with_reducible refine wv_val (d := 112) ?hd ?hw (.int .i64 (q : Int)) ?hr ?_); (case hd => rfl); (case hw => kernel_rfl); (case hr => intro w; exact run_addN rfl (by kernel_rfl) (by kernel_rfl) Eq.out (by omega) w); simp only [Act.put, List.setIfInBounds_toArray, List.set_cons_succ, List.set_cons_zero]) | ((with_reducible refine wv_val (d := 114) ?hd ?hw (.int .u32 (bb : Int)) ?hr ?_); (case hd => rfl); (case hw => kernel_rfl); (case hr => intro w; exact run_rem32c rfl (by kernel_rfl) Ebb.out w); simp only [Act.put, List.setIfInBounds_toArray, List.set_cons_succ, List.set_cons_zero]) | ((with_reducible refine wv_val (d := 115) ?hd ?hw (.int .u8 (bb : Int)) ?hr ?_); (case hd => rfl); (case hw => kernel_rfl); (case hr => intro w; exact run_c328 rfl (by kernel_rfl) bb8 w); simp only [Act.put, List.setIfInBounds_toArray, List.set_cons_succ, List.set_cons_zero]) | ((with_reducible refine wv_val (d := 116) ?hd ?hw (.pointer (some ⟨g15, q, none⟩)) ?hr ?_); (case hd => rfl); (case hw => kernel_rfl); (case hr => intro w; exact run_idx rfl (by kernel_rfl) (by kernel_rfl) Try.underlying34 q64 sz_u8 w); simp only [Act.put, List.setIfInBounds_toArray, List.set_cons_succ, List.set_cons_zero]) | (refine wl_setElem rfl 5 sz_u8 (.tmp 116) (.tmp 115) rfl g15 q .u8 (bb : Int) rfl rfl _ A9 LM.out ?_))
                      intro w10 A10 P10
                      rw [ints_set, ESET.out] at A10
                      have E10 := P10.blk E9 (by omega)
                      have Q10 := Q9.trans (P10.below (by omega))
                      have VF10 : Kept (IntsV .u32 (.slice (some AF) 16 cf) w10 FF) := ⟨VF9.out.keeps P10.grown (.inr (fun e => hAF.out (by cases e; rfl)))⟩
                      have VM10 : Kept (IntsV .u32 (.slice (some AM) 16 cm) w10 X) := ⟨VM9.out.keeps P10.grown (.inr (fun e => hAM.out (by cases e; rfl)))⟩
                      clear A9 E9 Q9 VF9 VM9 P10 GL ESET LM Eq4 Eq Ebb
                      go_wp2_with (first | ((with_reducible refine wv_val (d := 118) ?hd ?hw (.int .u32 (n2 : Int)) ?hr ?_); (case hd => rfl); (case hw => kernel_rfl); (case hr => intro w; exact run_quo32c 256 rfl (by kernel_rfl) (by decide) nn4 En2.out w); simp only [Act.put, List.setIfInBounds_toArray, List.set_cons_succ, List.set_cons_zero]))
                      go_roundg (gk - 1)
                      case measure => omega
                      case rel => exact ⟨t + 1, n2, by omega, by simp, rfl, EN2, Q10, E10, VF10, VM10, A10⟩
                    case neg =>
                      have ht' : ¬ (t : Int) < 4 := by omega
                      rw [show 4 * i + t = 4 * (i + 1) by omega] at A9
                      clear EN htk ht
                      go_wp2_with fail
                      go_roundg (gk0 - 1)
                      case measure => omega
                      case rel => exact ⟨i + 1, by omega, by simp, Q9, E9, VF9, VM9, A9⟩
                case neg =>
                  have hi' : ¬ (i : Int) < 16 := by omega
                  rw [show mix L Z0 (4 * i) = L by rw [show 4 * i = Z0.length by rw [LZ.out]; omega]; exact mix_all L Z0 (by rw [LL.out, LZ.out])] at A15
                  clear VF7 VM7
                  go_wp2_with (first | (refine wl_load rfl 34 (.tmp 15) rfl g15 rfl (ints .u8 L) 64 5 Try.underlying34 (by rw [ints_size, LL.out]; exact i64_inf2) A15 ?_) | (refine wl_store rfl 34 (.tmp 6) (.tmp 119) rfl (w.heap.size + 2) (ints .u8 L) rfl rfl _ E7 (by rw [ints_size, LL.out]; exact i64_inf2) (by rw [ints_size, ints_size, LL.out, LZ.out]) (ints_one _ _) ?_))
                  intro w11 A11 P11
                  go_wp2
                  exact bodyPost_ret (v := .agg (ints .u8 L)) (results_cell_row Try.results12 _ _ _ 34 (ints .u8 L) (0, 0) _ rfl A11 Try.underlying34 rfl (by rw [ints_size, LL.out]; exact i64_inf2)) rfl ⟨rfl, Q7.trans (P11.below (by omega))⟩
end Go.Proofs.Ythieljiplhhdeaa.sh
