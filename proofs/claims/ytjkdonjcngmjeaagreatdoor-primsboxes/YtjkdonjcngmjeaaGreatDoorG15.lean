/-
  General pieces, joined: XF XG.
-/
import Derived.Test.YtjkdonjcngmjeaaGreatDoorG14
import Derived.Lib.BufferWrite
import Derived.Test.YtjkdonjcngmjeaaGreatDoorG13
/-
  The words of a block at first, by the program.
-/
namespace Go.Proofs.YtjkdonjcngmjeaaGreatDoor.sh
open Go Go.RowKit
set_option linter.unusedVariables false
set_option linter.unusedSimpArgs false

theorem part_congr (b b' : List Nat) (j j' : Nat) : ∀ n, (∀ m, m < n → b.getD (4 * j + m) 0 = b'.getD (4 * j' + m) 0) → part b j n = part b' j' n
  | 0, _ => rfl
  | n + 1, h => by
    show part b j n + b.getD (4 * j + n) 0 * 256 ^ n = part b' j' n + b'.getD (4 * j' + n) 0 * 256 ^ n
    rw [part_congr b b' j j' n (fun m hm => h m (by omega)), h n (by omega)]
theorem getD_left (l m : List Nat) (i : Nat) (h : i < l.length) : (l ++ m).getD i 0 = l.getD i 0 := by
  rw [List.getD_eq_getElem?_getD, List.getD_eq_getElem?_getD, List.getElem?_append_left h]
theorem getD_right (l m : List Nat) (i : Nat) (h : l.length ≤ i) : (l ++ m).getD i 0 = m.getD (i - l.length) 0 := by
  rw [List.getD_eq_getElem?_getD, List.getD_eq_getElem?_getD, List.getElem?_append_right h]
theorem frst_eq (key nonce : List Nat) (count : Nat) (hk : key.length = 32) (hn : nonce.length = 12) : (wsL (nameL ++ key ++ (List.replicate 4 0 ++ nonce)) 16).set 12 count = frstL key nonce count := by
  have hl : (nameL ++ key).length = 48 := by rw [List.length_append, hk]; rfl
  apply List.ext_getElem?
  intro j
  unfold frstL
  rw [List.getElem?_set, wsL_len]
  by_cases h1 : j < 12
  · rw [if_neg (by omega), List.getElem?_append_left (by simp [wsL_len]; omega), List.getElem?_append_left (by rw [wsL_len]; exact h1)]
    simp only [wsL, List.getElem?_map, List.getElem?_range (show j < 16 by omega), List.getElem?_range h1, Option.map_some]
    congr 1
    exact part_congr _ _ _ _ 4 (fun m hm => getD_left _ _ _ (by rw [hl]; omega))
  · by_cases h2 : j = 12
    · subst h2
      rw [if_pos rfl, if_pos (by decide), List.getElem?_append_left (by simp [wsL_len]), List.getElem?_append_right (by rw [wsL_len]; exact Nat.le_refl _), wsL_len]
      rfl
    · rw [if_neg (by omega), List.getElem?_append_right (by simp [wsL_len]; omega)]
      by_cases h3 : j < 16
      · simp only [wsL, List.getElem?_map, List.getElem?_range h3, List.length_append, List.length_map, List.length_range, List.length_singleton, List.getElem?_range (show j - (12 + 1) < 3 by omega), Option.map_some]
        congr 1
        refine part_congr _ _ _ _ 4 (fun m hm => ?_)
        rw [getD_right _ _ _ (by rw [hl]; omega), hl, getD_right _ _ _ (by simp; omega)]
        congr 1
        simp
        omega
      · rw [List.getElem?_eq_none (by rw [wsL_len]; omega), List.getElem?_eq_none (by simp [wsL_len]; omega)]
theorem splice_parts (key nonce : List Nat) (hk : key.length = 32) (hn : nonce.length = 12) : splice (splice (splice (List.replicate 64 0) 0 nameL) 16 key) 52 nonce = nameL ++ key ++ (List.replicate 4 0 ++ nonce) := by
  have e1 : splice (List.replicate 64 0) 0 nameL = nameL ++ List.replicate 48 0 := by
    unfold splice
    rw [List.take_zero, List.nil_append, List.drop_replicate]
    rfl
  have e2 : splice (nameL ++ List.replicate 48 0) 16 key = nameL ++ key ++ List.replicate 16 0 := by
    unfold splice
    rw [List.take_left' (by rfl), hk, List.drop_append]
    have : List.drop (16 + 32) nameL = [] := by rfl
    rw [this, List.nil_append, List.drop_replicate, List.append_assoc]
    rfl
  have hl : (nameL ++ key).length = 48 := by rw [List.length_append, hk]; rfl
  have e3 : splice (nameL ++ key ++ List.replicate 16 0) 52 nonce = nameL ++ key ++ (List.replicate 4 0 ++ nonce) := by
    unfold splice
    rw [List.take_append, hl, List.take_of_length_le (by rw [hl]; decide), List.take_replicate, hn, List.drop_of_length_le (by rw [List.length_append, hl, List.length_replicate]; decide), List.append_nil, List.append_assoc]
    rfl
  rw [e1, e2, e3]
theorem arr_to_run {o : Oper} {a : Act} {x : Operand} {g n : Nat} (m : Nat) {t e : TypeId} (ho : o.op = .slice t x none (some (.const (.int .i64 (m : Int)))) none) (hx : a.eval x = .pointer (some ⟨g, 0, none⟩)) (ht : Tryz.prog.underlying t = some (.array n e)) (sz : ∀ w, (sizeOf e).run Tryz.prog w = .ok 1 w) (hm : m ≤ n) (hn : 0 < n) (w : World) :
    (execOp a.eval o).run Tryz.prog w = .ok (.value (.slice (some ⟨g, 0, none⟩) m n)) w := by
  have e3 : a.eval (.const (.int .i64 (m : Int))) = .int .i64 (m : Int) := rfl
  have h2 : ((m : Int) ≤ (n : Int)) := by omega
  unfold execOp
  simp only [ho, hx, e3, Option.map_none, Option.map_some, Instr.sliceAt, Instr.slice, Instr.sliceBounds, Sem.run_bind, run_underlying ht, Result.andThen_ok]
  simp [Instr.sliceBound, asIntOf, sz, go_sem, h2]
  try omega
theorem arr_ft_run {o : Oper} {a : Act} {x : Operand} {g n : Nat} (k m : Nat) {t e : TypeId} (ho : o.op = .slice t x (some (.const (.int .i64 (k : Int)))) (some (.const (.int .i64 (m : Int)))) none) (hx : a.eval x = .pointer (some ⟨g, 0, none⟩)) (ht : Tryz.prog.underlying t = some (.array n e)) (sz : ∀ w, (sizeOf e).run Tryz.prog w = .ok 1 w) (hk : k ≤ m) (hm : m ≤ n) (hn : k < n) (w : World) :
    (execOp a.eval o).run Tryz.prog w = .ok (.value (.slice (some ⟨g, k, none⟩) (m - k) (n - k))) w := by
  have e3 : a.eval (.const (.int .i64 (m : Int))) = .int .i64 (m : Int) := rfl
  have e4 : a.eval (.const (.int .i64 (k : Int))) = .int .i64 (k : Int) := rfl
  have h2 : ((m : Int) ≤ (n : Int)) := by omega
  have h1 : ((k : Int) ≤ (m : Int)) := by omega
  unfold execOp
  simp only [ho, hx, e3, e4, Option.map_none, Option.map_some, Instr.sliceAt, Instr.slice, Instr.sliceBounds, Sem.run_bind, run_underlying ht, Result.andThen_ok]
  simp [Instr.sliceBound, asIntOf, sz, go_sem, h1, h2, Addr.add]
  rw [if_pos hm, if_pos hk]
  simp [show ¬ n = k by omega]
  exact fun h => h.symm
theorem arr_from_run {o : Oper} {a : Act} {x : Operand} {g n : Nat} (k : Nat) {t e : TypeId} (ho : o.op = .slice t x (some (.const (.int .i64 (k : Int)))) none none) (hx : a.eval x = .pointer (some ⟨g, 0, none⟩)) (ht : Tryz.prog.underlying t = some (.array n e)) (sz : ∀ w, (sizeOf e).run Tryz.prog w = .ok 1 w) (hn : k < n) (w : World) :
    (execOp a.eval o).run Tryz.prog w = .ok (.value (.slice (some ⟨g, k, none⟩) (n - k) (n - k))) w := by
  have e4 : a.eval (.const (.int .i64 (k : Int))) = .int .i64 (k : Int) := rfl
  have h1 : ((k : Int) ≤ (n : Int)) := by omega
  unfold execOp
  simp only [ho, hx, e4, Option.map_none, Option.map_some, Instr.sliceAt, Instr.slice, Instr.sliceBounds, Sem.run_bind, run_underlying ht, Result.andThen_ok]
  simp [Instr.sliceBound, asIntOf, sz, go_sem, h1, Addr.add]
  rw [if_pos (by omega)]
  simp [show ¬ n = k by omega]
  exact fun h => h.symm
/-- A constant text is copied. -/
theorem wl_copyS {ops : Array Oper} {rest : List Oper} {o : Oper} {a : Act} {w : World} {Q : Exit → Act → World → Prop} (hgd : o.guard = none) (d s : Operand) (dT sT : TypeId) (ho : o.op = .call { callee := .builtin .copy, args := #[d, s], argTypes := #[dT, sT] }) (hu : Tryz.prog.underlying dT = some (.slice 5))
    (g off dLen dCap : Nat) (hd : a.eval d = .slice (some ⟨g, off, none⟩) dLen dCap) (t8 : ByteArray) (hs : a.eval s = .string t8) (l : List Nat) (hl : Lib.byteCells t8.data.toList = (ints .u8 l).toList) {t : TypeId} (cur : Array Value) (hg : Blk w g t cur) (hn : l.length = t8.size) (hle : t8.size ≤ dLen) (hfit : off + l.length ≤ cur.size)
    (h : ∀ w', Blk w' g t (splice cur.toList off (ints .u8 l).toList).toArray → Put w w' g → wpList Tryz.prog ops Q rest (a.put o.dst (goInt t8.size)) w') : wpList Tryz.prog ops Q (o :: rest) a w := by
  refine wpList_plain hgd fun K hK => ?_
  have hrun := Lib.run_copy_row_string (P := Tryz.prog) w dT sT o.type 5 g off dLen dCap t8 cur t hu (by kernel_rfl) hg hle (by rw [← hn]; exact hfit)
  have e : cur.toList.take off ++ Lib.byteCells t8.data.toList ++ cur.toList.drop (off + t8.size) = splice cur.toList off (ints .u8 l).toList := by
    unfold splice
    rw [hl, List.append_assoc, ← hn]
    simp [ints]
  rw [e] at hrun
  unfold Oper.wp
  simp [execOp, ho, resolve, invoke, builtin, hd, hs, hrun, Result.andThen]
  exact hK _ _ (h _ (setRow_heap _ _ _ _ _ _ hg) ⟨⟨rfl, rfl, rfl, by simp, fun k _ hk => setRow_other _ _ _ _ (fun e => hk (by rw [e]))⟩, by simp⟩)
theorem z64_eq2 : (#[.int .u8 0, .int .u8 0, .int .u8 0, .int .u8 0, .int .u8 0, .int .u8 0, .int .u8 0, .int .u8 0, .int .u8 0, .int .u8 0, .int .u8 0, .int .u8 0, .int .u8 0, .int .u8 0, .int .u8 0, .int .u8 0, .int .u8 0, .int .u8 0, .int .u8 0, .int .u8 0, .int .u8 0, .int .u8 0, .int .u8 0, .int .u8 0, .int .u8 0, .int .u8 0, .int .u8 0, .int .u8 0, .int .u8 0, .int .u8 0, .int .u8 0, .int .u8 0, .int .u8 0, .int .u8 0, .int .u8 0, .int .u8 0, .int .u8 0, .int .u8 0, .int .u8 0, .int .u8 0, .int .u8 0, .int .u8 0, .int .u8 0, .int .u8 0, .int .u8 0, .int .u8 0, .int .u8 0, .int .u8 0, .int .u8 0, .int .u8 0, .int .u8 0, .int .u8 0, .int .u8 0, .int .u8 0, .int .u8 0, .int .u8 0, .int .u8 0, .int .u8 0, .int .u8 0, .int .u8 0, .int .u8 0, .int .u8 0, .int .u8 0, .int .u8 0] : Array Value) = ints .u8 (List.replicate 64 0) := by kernel_rfl
set_option maxRecDepth 100000 in
set_option maxHeartbeats 1000000 in
theorem laid_any (key nonce : List Nat) (count : Nat) (w : World) (hk : key.length = 32) (hy : Bytes key) (hn : nonce.length = 12) (hyn : Bytes nonce) :
    Calls Tryz.prog 84 #[.agg (ints .u8 key), .agg (ints .u8 nonce), .int .u32 (count : Int)] w fun e w' => e = .returned (.agg (ints .u32 (frstL key nonce count))) ∧ Below w.heap.size w w' := by
  have LK : Kept _ := ⟨hk⟩
  have LN : Kept _ := ⟨hn⟩
  obtain ⟨L, hL⟩ : ∃ L, L = frstL key nonce count := ⟨_, rfl⟩
  rw [← hL]
  obtain ⟨B3, hB3⟩ : ∃ B, B = nameL ++ key ++ (List.replicate 4 0 ++ nonce) := ⟨_, rfl⟩
  have KB : Kept (Bytes B3) := ⟨by rw [hB3]; exact (nameL_bytes.append hy).append ((bytes_zero 4).append hyn)⟩
  have LB : Kept (B3.length = 64) := ⟨by rw [hB3]; simp only [List.length_append, hk, hn, List.length_replicate]; rfl⟩
  have EF : Kept ((wsL B3 16).set 12 count = L) := ⟨by rw [hB3, hL]; exact frst_eq key nonce count hk hn⟩
  have LL : Kept (L.length = 16) := ⟨by rw [← EF.out, List.length_set, wsL_len]⟩
  obtain ⟨Z0, hZ0⟩ : ∃ Z, Z = List.replicate 64 0 := ⟨_, rfl⟩
  obtain ⟨B1, hB1⟩ : ∃ B, B = splice Z0 0 nameL := ⟨_, rfl⟩
  obtain ⟨B2, hB2⟩ : ∃ B, B = splice B1 16 key := ⟨_, rfl⟩
  have EB1 : Kept _ := ⟨hB1⟩
  have EB2 : Kept _ := ⟨hB2⟩
  have EB3 : Kept (splice B2 52 nonce = B3) := ⟨by rw [hB2, hB1, hZ0, hB3]; exact splice_parts key nonce hk hn⟩
  have LZ : Kept (Z0.length = 64) := ⟨by rw [hZ0]; rfl⟩
  have LB1 : Kept (B1.length = 64) := ⟨by rw [hB1, splice_len (by rw [LZ.out]; decide)]; exact LZ.out⟩
  have LB2 : Kept (B2.length = 64) := ⟨by rw [hB2, splice_len (by rw [LB1.out, hk]; decide)]; exact LB1.out⟩
  have EI : Kept ((#[.int .u8 0, .int .u8 0, .int .u8 0, .int .u8 0, .int .u8 0, .int .u8 0, .int .u8 0, .int .u8 0, .int .u8 0, .int .u8 0, .int .u8 0, .int .u8 0, .int .u8 0, .int .u8 0, .int .u8 0, .int .u8 0, .int .u8 0, .int .u8 0, .int .u8 0, .int .u8 0, .int .u8 0, .int .u8 0, .int .u8 0, .int .u8 0, .int .u8 0, .int .u8 0, .int .u8 0, .int .u8 0, .int .u8 0, .int .u8 0, .int .u8 0, .int .u8 0, .int .u8 0, .int .u8 0, .int .u8 0, .int .u8 0, .int .u8 0, .int .u8 0, .int .u8 0, .int .u8 0, .int .u8 0, .int .u8 0, .int .u8 0, .int .u8 0, .int .u8 0, .int .u8 0, .int .u8 0, .int .u8 0, .int .u8 0, .int .u8 0, .int .u8 0, .int .u8 0, .int .u8 0, .int .u8 0, .int .u8 0, .int .u8 0, .int .u8 0, .int .u8 0, .int .u8 0, .int .u8 0, .int .u8 0, .int .u8 0, .int .u8 0, .int .u8 0] : Array Value) = ints .u8 Z0) := ⟨by rw [hZ0]; exact z64_eq2⟩
  obtain ⟨ZW, hZW⟩ : ∃ ZZ : Array Value, ZZ = #[.int .u32 0, .int .u32 0, .int .u32 0, .int .u32 0, .int .u32 0, .int .u32 0, .int .u32 0, .int .u32 0, .int .u32 0, .int .u32 0, .int .u32 0, .int .u32 0, .int .u32 0, .int .u32 0, .int .u32 0, .int .u32 0] := ⟨_, rfl⟩
  have LW : Kept (ZW.size = 16) := ⟨by rw [hZW]; rfl⟩
  have A0 : Blk ((((w.alloc (.cells (ints .u8 key) 30)).alloc (.cells (ints .u8 nonce) 80)).alloc (.cells #[.int .u32 0, .int .u32 0, .int .u32 0, .int .u32 0, .int .u32 0, .int .u32 0, .int .u32 0, .int .u32 0, .int .u32 0, .int .u32 0, .int .u32 0, .int .u32 0, .int .u32 0, .int .u32 0, .int .u32 0, .int .u32 0] 136)).alloc (.cells #[.int .u8 0, .int .u8 0, .int .u8 0, .int .u8 0, .int .u8 0, .int .u8 0, .int .u8 0, .int .u8 0, .int .u8 0, .int .u8 0, .int .u8 0, .int .u8 0, .int .u8 0, .int .u8 0, .int .u8 0, .int .u8 0, .int .u8 0, .int .u8 0, .int .u8 0, .int .u8 0, .int .u8 0, .int .u8 0, .int .u8 0, .int .u8 0, .int .u8 0, .int .u8 0, .int .u8 0, .int .u8 0, .int .u8 0, .int .u8 0, .int .u8 0, .int .u8 0, .int .u8 0, .int .u8 0, .int .u8 0, .int .u8 0, .int .u8 0, .int .u8 0, .int .u8 0, .int .u8 0, .int .u8 0, .int .u8 0, .int .u8 0, .int .u8 0, .int .u8 0, .int .u8 0, .int .u8 0, .int .u8 0, .int .u8 0, .int .u8 0, .int .u8 0, .int .u8 0, .int .u8 0, .int .u8 0, .int .u8 0, .int .u8 0, .int .u8 0, .int .u8 0, .int .u8 0, .int .u8 0, .int .u8 0, .int .u8 0, .int .u8 0, .int .u8 0] 75)) w.heap.size 30 (ints .u8 key) := (((blk_new w _ _).alloc _).alloc _).alloc _
  have A1 : Blk ((((w.alloc (.cells (ints .u8 key) 30)).alloc (.cells (ints .u8 nonce) 80)).alloc (.cells #[.int .u32 0, .int .u32 0, .int .u32 0, .int .u32 0, .int .u32 0, .int .u32 0, .int .u32 0, .int .u32 0, .int .u32 0, .int .u32 0, .int .u32 0, .int .u32 0, .int .u32 0, .int .u32 0, .int .u32 0, .int .u32 0] 136)).alloc (.cells #[.int .u8 0, .int .u8 0, .int .u8 0, .int .u8 0, .int .u8 0, .int .u8 0, .int .u8 0, .int .u8 0, .int .u8 0, .int .u8 0, .int .u8 0, .int .u8 0, .int .u8 0, .int .u8 0, .int .u8 0, .int .u8 0, .int .u8 0, .int .u8 0, .int .u8 0, .int .u8 0, .int .u8 0, .int .u8 0, .int .u8 0, .int .u8 0, .int .u8 0, .int .u8 0, .int .u8 0, .int .u8 0, .int .u8 0, .int .u8 0, .int .u8 0, .int .u8 0, .int .u8 0, .int .u8 0, .int .u8 0, .int .u8 0, .int .u8 0, .int .u8 0, .int .u8 0, .int .u8 0, .int .u8 0, .int .u8 0, .int .u8 0, .int .u8 0, .int .u8 0, .int .u8 0, .int .u8 0, .int .u8 0, .int .u8 0, .int .u8 0, .int .u8 0, .int .u8 0, .int .u8 0, .int .u8 0, .int .u8 0, .int .u8 0, .int .u8 0, .int .u8 0, .int .u8 0, .int .u8 0, .int .u8 0, .int .u8 0, .int .u8 0, .int .u8 0] 75)) (w.heap.size + 1) 80 (ints .u8 nonce) := ((blk_top _ _ _ _ (by simp)).alloc _).alloc _
  have A2 : Blk ((((w.alloc (.cells (ints .u8 key) 30)).alloc (.cells (ints .u8 nonce) 80)).alloc (.cells #[.int .u32 0, .int .u32 0, .int .u32 0, .int .u32 0, .int .u32 0, .int .u32 0, .int .u32 0, .int .u32 0, .int .u32 0, .int .u32 0, .int .u32 0, .int .u32 0, .int .u32 0, .int .u32 0, .int .u32 0, .int .u32 0] 136)).alloc (.cells #[.int .u8 0, .int .u8 0, .int .u8 0, .int .u8 0, .int .u8 0, .int .u8 0, .int .u8 0, .int .u8 0, .int .u8 0, .int .u8 0, .int .u8 0, .int .u8 0, .int .u8 0, .int .u8 0, .int .u8 0, .int .u8 0, .int .u8 0, .int .u8 0, .int .u8 0, .int .u8 0, .int .u8 0, .int .u8 0, .int .u8 0, .int .u8 0, .int .u8 0, .int .u8 0, .int .u8 0, .int .u8 0, .int .u8 0, .int .u8 0, .int .u8 0, .int .u8 0, .int .u8 0, .int .u8 0, .int .u8 0, .int .u8 0, .int .u8 0, .int .u8 0, .int .u8 0, .int .u8 0, .int .u8 0, .int .u8 0, .int .u8 0, .int .u8 0, .int .u8 0, .int .u8 0, .int .u8 0, .int .u8 0, .int .u8 0, .int .u8 0, .int .u8 0, .int .u8 0, .int .u8 0, .int .u8 0, .int .u8 0, .int .u8 0, .int .u8 0, .int .u8 0, .int .u8 0, .int .u8 0, .int .u8 0, .int .u8 0, .int .u8 0, .int .u8 0] 75)) (w.heap.size + 2) 136 ZW := by rw [hZW]; exact (blk_top _ _ _ _ (by simp)).alloc _
  have A3 : Blk ((((w.alloc (.cells (ints .u8 key) 30)).alloc (.cells (ints .u8 nonce) 80)).alloc (.cells #[.int .u32 0, .int .u32 0, .int .u32 0, .int .u32 0, .int .u32 0, .int .u32 0, .int .u32 0, .int .u32 0, .int .u32 0, .int .u32 0, .int .u32 0, .int .u32 0, .int .u32 0, .int .u32 0, .int .u32 0, .int .u32 0] 136)).alloc (.cells #[.int .u8 0, .int .u8 0, .int .u8 0, .int .u8 0, .int .u8 0, .int .u8 0, .int .u8 0, .int .u8 0, .int .u8 0, .int .u8 0, .int .u8 0, .int .u8 0, .int .u8 0, .int .u8 0, .int .u8 0, .int .u8 0, .int .u8 0, .int .u8 0, .int .u8 0, .int .u8 0, .int .u8 0, .int .u8 0, .int .u8 0, .int .u8 0, .int .u8 0, .int .u8 0, .int .u8 0, .int .u8 0, .int .u8 0, .int .u8 0, .int .u8 0, .int .u8 0, .int .u8 0, .int .u8 0, .int .u8 0, .int .u8 0, .int .u8 0, .int .u8 0, .int .u8 0, .int .u8 0, .int .u8 0, .int .u8 0, .int .u8 0, .int .u8 0, .int .u8 0, .int .u8 0, .int .u8 0, .int .u8 0, .int .u8 0, .int .u8 0, .int .u8 0, .int .u8 0, .int .u8 0, .int .u8 0, .int .u8 0, .int .u8 0, .int .u8 0, .int .u8 0, .int .u8 0, .int .u8 0, .int .u8 0, .int .u8 0, .int .u8 0, .int .u8 0] 75)) (w.heap.size + 3) 75 (ints .u8 Z0) := by rw [← EI.out]; exact blk_top _ _ _ _ (by simp)
  have Q0 : Below w.heap.size w ((((w.alloc (.cells (ints .u8 key) 30)).alloc (.cells (ints .u8 nonce) 80)).alloc (.cells #[.int .u32 0, .int .u32 0, .int .u32 0, .int .u32 0, .int .u32 0, .int .u32 0, .int .u32 0, .int .u32 0, .int .u32 0, .int .u32 0, .int .u32 0, .int .u32 0, .int .u32 0, .int .u32 0, .int .u32 0, .int .u32 0] 136)).alloc (.cells #[.int .u8 0, .int .u8 0, .int .u8 0, .int .u8 0, .int .u8 0, .int .u8 0, .int .u8 0, .int .u8 0, .int .u8 0, .int .u8 0, .int .u8 0, .int .u8 0, .int .u8 0, .int .u8 0, .int .u8 0, .int .u8 0, .int .u8 0, .int .u8 0, .int .u8 0, .int .u8 0, .int .u8 0, .int .u8 0, .int .u8 0, .int .u8 0, .int .u8 0, .int .u8 0, .int .u8 0, .int .u8 0, .int .u8 0, .int .u8 0, .int .u8 0, .int .u8 0, .int .u8 0, .int .u8 0, .int .u8 0, .int .u8 0, .int .u8 0, .int .u8 0, .int .u8 0, .int .u8 0, .int .u8 0, .int .u8 0, .int .u8 0, .int .u8 0, .int .u8 0, .int .u8 0, .int .u8 0, .int .u8 0, .int .u8 0, .int .u8 0, .int .u8 0, .int .u8 0, .int .u8 0, .int .u8 0, .int .u8 0, .int .u8 0, .int .u8 0, .int .u8 0, .int .u8 0, .int .u8 0, .int .u8 0, .int .u8 0, .int .u8 0, .int .u8 0] 75)) := ((((Below.refl _ _).alloc (Nat.le_refl _) _).alloc (by simp) _).alloc (by simp; omega) _).alloc (by simp; omega) _
  have HB1 : Kept ((splice (ints .u8 Z0).toList 0 (ints .u8 nameL).toList).toArray = ints .u8 B1) := ⟨by rw [splice_ints, EB1.out]⟩
  have HB2 : Kept ((splice (ints .u8 B1).toList 16 (ints .u8 (key.take 32)).toList).toArray = ints .u8 B2) := ⟨by rw [splice_ints, List.take_of_length_le (by rw [hk]; exact Nat.le_refl _), EB2.out]⟩
  have HB3 : Kept ((splice (ints .u8 B2).toList 52 (ints .u8 (nonce.take 12)).toList).toArray = ints .u8 B3) := ⟨by rw [splice_ints, List.take_of_length_le (by rw [hn]; exact Nat.le_refl _), EB3.out]⟩
  have hname : Kept (Lib.byteCells ({ data := #[101, 120, 112, 97, 110, 100, 32, 51, 50, 45, 98, 121, 116, 101, 32, 107] } : ByteArray).data.toList = (ints .u8 nameL).toList) := ⟨by kernel_rfl⟩
  have hZl : 0 + nameL.length ≤ (ints .u8 Z0).size := by rw [ints_size, LZ.out]; decide
  clear hk hy hn hyn hL hB3 hZ0 hB1 hB2 hZW EI EB1 EB2 EB3
  go_enter Tryz.func84, Tryz.ntmps84
  go_wp2_with (first | ((with_reducible refine wv_val (d := 9) ?hd ?hw (.slice (some ⟨w.heap.size + 3, 0, none⟩) 16 64) ?hr ?_); (case hd => rfl); (case hw => kernel_rfl); (case hr => intro w; exact arr_to_run 16 rfl (by kernel_rfl) Tryz.underlying75 sz_u8 (by decide) (by decide) w); simp only [Act.put, List.setIfInBounds_toArray, List.set_cons_succ, List.set_cons_zero]) | (refine wl_copyS rfl (.tmp 9) _ 34 9 rfl Tryz.underlying34 (w.heap.size + 3) 0 16 64 rfl _ rfl nameL hname.out _ A3 rfl (by decide) hZl ?_))
  intro w1 C3 P1
  rw [HB1.out] at C3
  have C0 := P1.blk A0 (by omega)
  have C1 := P1.blk A1 (by omega)
  have C2 := P1.blk A2 (by omega)
  have Q1 := Q0.trans (P1.below (by omega))
  clear A0 A1 A2 A3 Q0 P1 HB1 hname hZl
  have VK : Kept (BytesV (.slice (some ⟨w.heap.size, 0, none⟩) 32 32) w1 key) := ⟨arr_bytes C0 LK.out⟩
  have VN : Kept (BytesV (.slice (some ⟨w.heap.size + 1, 0, none⟩) 12 12) w1 nonce) := ⟨arr_bytes C1 LN.out⟩
  go_wp2_with fail
  refine region_ownL w1 2 [(11, .slice (some ⟨w.heap.size + 3, 16, none⟩) 32 48), (12, .slice (some ⟨w.heap.size, 0, none⟩) 32 32)] [] [] [] rfl (by kernel_rfl) (by kernel_rfl) (by kernel_rfl) (by kernel_rfl) (by kernel_rfl) (by kernel_rfl) (by kernel_rfl) (by kernel_rfl) (by kernel_rfl) (by kernel_rfl) (by kernel_rfl) ?hst1 ?hst2 (Below.refl _ _) (fun hA => ⟨ow_val hA (wants_none rfl) 11 (.slice (some ⟨w.heap.size + 3, 16, none⟩) 32 48) (by kernel_rfl) rfl rfl rfl rfl (by kernel_rfl) (fun w => arr_ft_run 16 48 rfl (by kernel_rfl) Tryz.underlying75 sz_u8 (by decide) (by decide) (by decide) w), ow_val hA (wants_none rfl) 12 (.slice (some ⟨w.heap.size, 0, none⟩) 32 32) (by kernel_rfl) rfl rfl rfl rfl (by kernel_rfl) (fun w => arr_all_run rfl (by kernel_rfl) Tryz.underlying30 sz_u8 (by decide) w), trivial⟩) ?_
  case hst1 => intro q hq; cases hq
  case hst2 => intro q hq; cases hq
  intro fv w2 hf hD hb2
  simp only [putR, List.foldl_cons, List.foldl_nil, List.map_cons, List.map_nil, Act.put, List.setIfInBounds_toArray, List.set_cons_succ, List.set_cons_zero]
  clear hf hD
  refine wl_copyV rfl (.tmp 11) (.tmp 12) 34 34 rfl Tryz.underlying34 (w.heap.size + 3) 16 32 48 (by kernel_rfl) (some ⟨w.heap.size, 0, none⟩) 32 32 (by kernel_rfl) _ (C3.under hb2) key (VK.out.under hb2) 32 rfl (by rw [ints_size, LB1.out]; decide) ?_
  intro w3 D3 P3
  rw [HB2.out] at D3
  have D0 := P3.blk (C0.under hb2) (by omega)
  have D1 := P3.blk (C1.under hb2) (by omega)
  have D2 := P3.blk (C2.under hb2) (by omega)
  have Q3 := (Q1.trans (hb2.mono Q1.size)).trans (P3.below (by omega))
  clear C0 C1 C2 C3 Q1 P3 HB2 VK VN hb2
  have VN : Kept (BytesV (.slice (some ⟨w.heap.size + 1, 0, none⟩) 12 12) w3 nonce) := ⟨arr_bytes D1 LN.out⟩
  go_wp2_with fail
  refine region_ownL w3 2 [(14, .slice (some ⟨w.heap.size + 3, 52, none⟩) 12 12), (15, .slice (some ⟨w.heap.size + 1, 0, none⟩) 12 12)] [] [] [] rfl (by kernel_rfl) (by kernel_rfl) (by kernel_rfl) (by kernel_rfl) (by kernel_rfl) (by kernel_rfl) (by kernel_rfl) (by kernel_rfl) (by kernel_rfl) (by kernel_rfl) (by kernel_rfl) ?hst1 ?hst2 (Below.refl _ _) (fun hA => ⟨ow_val hA (wants_none rfl) 14 (.slice (some ⟨w.heap.size + 3, 52, none⟩) 12 12) (by kernel_rfl) rfl rfl rfl rfl (by kernel_rfl) (fun w => arr_from_run 52 rfl (by kernel_rfl) Tryz.underlying75 sz_u8 (by decide) w), ow_val hA (wants_none rfl) 15 (.slice (some ⟨w.heap.size + 1, 0, none⟩) 12 12) (by kernel_rfl) rfl rfl rfl rfl (by kernel_rfl) (fun w => arr_all_run rfl (by kernel_rfl) Tryz.underlying80 sz_u8 (by decide) w), trivial⟩) ?_
  case hst1 => intro q hq; cases hq
  case hst2 => intro q hq; cases hq
  intro fv w4 hf hD hb4
  simp only [putR, List.foldl_cons, List.foldl_nil, List.map_cons, List.map_nil, Act.put, List.setIfInBounds_toArray, List.set_cons_succ, List.set_cons_zero]
  clear hf hD
  refine wl_copyV rfl (.tmp 14) (.tmp 15) 34 34 rfl Tryz.underlying34 (w.heap.size + 3) 52 12 12 (by kernel_rfl) (some ⟨w.heap.size + 1, 0, none⟩) 12 12 (by kernel_rfl) _ (D3.under hb4) nonce (VN.out.under hb4) 12 rfl (by rw [ints_size, LB2.out]; decide) ?_
  intro w5 E3 P5
  rw [HB3.out] at E3
  have E2 := P5.blk (D2.under hb4) (by omega)
  have Q5 := (Q3.trans (hb4.mono Q3.size)).trans (P5.below (by omega))
  clear D0 D1 D2 D3 Q3 P5 HB3 VN hb4
  go_wp2_with (first | (refine wl_load rfl 75 (.tmp 7) rfl (w.heap.size + 3) rfl (ints .u8 B3) 64 5 Tryz.underlying75 (by rw [ints_size, LB.out]; exact i64_inf2) E3 ?_))
  refine (read_any B3 w5 KB.out LB.out).mono ?_
  rintro e w6 ⟨rfl, hb6⟩
  have F2 := E2.under hb6
  have Q6 := Q5.trans (hb6.mono Q5.size)
  obtain ⟨S, hS⟩ : ∃ S, S = wsL B3 16 := ⟨_, rfl⟩
  rw [← hS]
  rw [← hS] at EF
  have LS : Kept (S.length = 16) := ⟨by rw [hS]; exact wsL_len _ _⟩
  have hl6 : w.heap.size + 3 < w6.heap.size := (E3.under hb6).lt
  clear E2 E3 Q5 hb6 hS
  go_wp2_with (first | (refine wl_store rfl 136 (.tmp 8) (.tmp 18) rfl w6.heap.size (ints .u32 S) rfl rfl _ (blk_new w6 _ _) (by rw [ints_size, LS.out]; exact ws_inf2) (by rw [ints_size, LS.out]; rfl) (ints_one _ _) ?_))
  intro w7 G8 P7
  have G2 := P7.blk (F2.alloc _) (by omega)
  have Q7 := (Q6.alloc Q6.size _).trans (P7.below (by omega))
  generalize hg8 : w6.heap.size = g8 at *
  clear F2 Q6 P7
  go_wp2_with (first | (refine wl_setElem rfl 72 sz_u32 (.tmp 20) (.tmp 19) rfl g8 12 .u32 (count : Int) rfl rfl _ G8 (by rw [ints_size, LS.out]; decide) ?_))
  intro w8 H8 P8
  rw [ints_set, EF.out] at H8
  have H2 := P8.blk G2 (by omega)
  have Q8 := Q7.trans (P8.below (by omega))
  clear G8 G2 Q7 P8
  go_wp2_with (first | (refine wl_load rfl 136 (.tmp 8) rfl g8 rfl (ints .u32 L) 16 72 Tryz.underlying136 (by rw [ints_size, LL.out]; exact ws_inf2) H8 ?_) | (refine wl_store rfl 136 (.tmp 6) (.tmp 21) rfl (w.heap.size + 2) (ints .u32 L) rfl rfl _ H2 (by rw [ints_size, LL.out]; exact ws_inf2) (by rw [ints_size, LL.out, LW.out]) (ints_one _ _) ?_))
  intro w9 A9 P9
  go_wp2
  exact bodyPost_ret (v := .agg (ints .u32 L)) (results_cell_row Tryz.results84 _ _ _ 136 (ints .u32 L) (0, 0) _ rfl A9 Tryz.underlying136 rfl (by rw [ints_size, LL.out]; exact ws_inf2)) rfl ⟨rfl, Q8.trans (P9.below (by omega))⟩
end Go.Proofs.YtjkdonjcngmjeaaGreatDoor.sh
/-
  A block, by the program.
-/
namespace Go.Proofs.YtjkdonjcngmjeaaGreatDoor.sh
open Go Go.RowKit
set_option linter.unusedVariables false
set_option linter.unusedSimpArgs false

theorem i12_info : (Tryz.prog.info? 80).map (·.size) = some 12 := by kernel_rfl
set_option maxRecDepth 100000 in
set_option maxHeartbeats 1000000 in
theorem Block_any (key nonce : List Nat) (count : Nat) (w : World) (hk : key.length = 32) (hy : Bytes key) (hn : nonce.length = 12) (hyn : Bytes nonce) (hc : count < 4294967296) :
    Calls Tryz.prog 61 #[.agg (ints .u8 key), .agg (ints .u8 nonce), .int .u32 (count : Int)] w fun e w' => e = .returned (.agg (ints .u8 (blockL key nonce count))) ∧ Below w.heap.size w w' := by
  have LK : Kept _ := ⟨hk⟩
  have LN : Kept _ := ⟨hn⟩
  have CL : Kept (∀ w', Calls Tryz.prog 84 #[.agg (ints .u8 key), .agg (ints .u8 nonce), .int .u32 (count : Int)] w' fun e w2 => e = .returned (.agg (ints .u32 (frstL key nonce count))) ∧ Below w'.heap.size w' w2) := ⟨fun w' => laid_any key nonce count w' hk hy hn hyn⟩
  obtain ⟨S, hS⟩ : ∃ S, S = frstL key nonce count := ⟨_, rfl⟩
  have WS : Kept (Ws S) := ⟨by rw [hS]; exact Ws.frst hy hyn hc⟩
  obtain ⟨M, hM⟩ : ∃ M, M = mixT S 10 := ⟨_, rfl⟩
  have WM : Kept (Ws M) := ⟨by rw [hM]; exact WS.out.mix 10⟩
  obtain ⟨P, hP⟩ : ∃ P, P = plusL S M := ⟨_, rfl⟩
  have WP : Kept (Ws P) := ⟨by rw [hP]; exact WS.out.plus WM.out⟩
  obtain ⟨L, hL⟩ : ∃ L, L = blockL key nonce count := ⟨_, rfl⟩
  have EL : Kept (L = leL P) := ⟨by rw [hL, hP, hM, hS]; rfl⟩
  have LL : Kept (L.length = 64) := ⟨by rw [hL]; exact blockL_len _ _ _⟩
  have LS : Kept (S.length = 16) := ⟨WS.out.len⟩
  have EM : Kept _ := ⟨hM⟩
  have EP : Kept _ := ⟨hP⟩
  rw [← hS] at CL
  rw [← hL]
  obtain ⟨Z0, hZ0⟩ : ∃ Z, Z = List.replicate 64 0 := ⟨_, rfl⟩
  have LZ : Kept (Z0.length = 64) := ⟨by rw [hZ0]; rfl⟩
  have EI : Kept ((#[.int .u8 0, .int .u8 0, .int .u8 0, .int .u8 0, .int .u8 0, .int .u8 0, .int .u8 0, .int .u8 0, .int .u8 0, .int .u8 0, .int .u8 0, .int .u8 0, .int .u8 0, .int .u8 0, .int .u8 0, .int .u8 0, .int .u8 0, .int .u8 0, .int .u8 0, .int .u8 0, .int .u8 0, .int .u8 0, .int .u8 0, .int .u8 0, .int .u8 0, .int .u8 0, .int .u8 0, .int .u8 0, .int .u8 0, .int .u8 0, .int .u8 0, .int .u8 0, .int .u8 0, .int .u8 0, .int .u8 0, .int .u8 0, .int .u8 0, .int .u8 0, .int .u8 0, .int .u8 0, .int .u8 0, .int .u8 0, .int .u8 0, .int .u8 0, .int .u8 0, .int .u8 0, .int .u8 0, .int .u8 0, .int .u8 0, .int .u8 0, .int .u8 0, .int .u8 0, .int .u8 0, .int .u8 0, .int .u8 0, .int .u8 0, .int .u8 0, .int .u8 0, .int .u8 0, .int .u8 0, .int .u8 0, .int .u8 0, .int .u8 0, .int .u8 0] : Array Value) = ints .u8 Z0) := ⟨by rw [hZ0]; exact z64_eq2⟩
  have A0 : Blk (((w.alloc (.cells (ints .u8 key) 30)).alloc (.cells (ints .u8 nonce) 80)).alloc (.cells #[.int .u8 0, .int .u8 0, .int .u8 0, .int .u8 0, .int .u8 0, .int .u8 0, .int .u8 0, .int .u8 0, .int .u8 0, .int .u8 0, .int .u8 0, .int .u8 0, .int .u8 0, .int .u8 0, .int .u8 0, .int .u8 0, .int .u8 0, .int .u8 0, .int .u8 0, .int .u8 0, .int .u8 0, .int .u8 0, .int .u8 0, .int .u8 0, .int .u8 0, .int .u8 0, .int .u8 0, .int .u8 0, .int .u8 0, .int .u8 0, .int .u8 0, .int .u8 0, .int .u8 0, .int .u8 0, .int .u8 0, .int .u8 0, .int .u8 0, .int .u8 0, .int .u8 0, .int .u8 0, .int .u8 0, .int .u8 0, .int .u8 0, .int .u8 0, .int .u8 0, .int .u8 0, .int .u8 0, .int .u8 0, .int .u8 0, .int .u8 0, .int .u8 0, .int .u8 0, .int .u8 0, .int .u8 0, .int .u8 0, .int .u8 0, .int .u8 0, .int .u8 0, .int .u8 0, .int .u8 0, .int .u8 0, .int .u8 0, .int .u8 0, .int .u8 0] 75)) w.heap.size 30 (ints .u8 key) := ((blk_new w _ _).alloc _).alloc _
  have A1 : Blk (((w.alloc (.cells (ints .u8 key) 30)).alloc (.cells (ints .u8 nonce) 80)).alloc (.cells #[.int .u8 0, .int .u8 0, .int .u8 0, .int .u8 0, .int .u8 0, .int .u8 0, .int .u8 0, .int .u8 0, .int .u8 0, .int .u8 0, .int .u8 0, .int .u8 0, .int .u8 0, .int .u8 0, .int .u8 0, .int .u8 0, .int .u8 0, .int .u8 0, .int .u8 0, .int .u8 0, .int .u8 0, .int .u8 0, .int .u8 0, .int .u8 0, .int .u8 0, .int .u8 0, .int .u8 0, .int .u8 0, .int .u8 0, .int .u8 0, .int .u8 0, .int .u8 0, .int .u8 0, .int .u8 0, .int .u8 0, .int .u8 0, .int .u8 0, .int .u8 0, .int .u8 0, .int .u8 0, .int .u8 0, .int .u8 0, .int .u8 0, .int .u8 0, .int .u8 0, .int .u8 0, .int .u8 0, .int .u8 0, .int .u8 0, .int .u8 0, .int .u8 0, .int .u8 0, .int .u8 0, .int .u8 0, .int .u8 0, .int .u8 0, .int .u8 0, .int .u8 0, .int .u8 0, .int .u8 0, .int .u8 0, .int .u8 0, .int .u8 0, .int .u8 0] 75)) (w.heap.size + 1) 80 (ints .u8 nonce) := (blk_top _ _ _ _ (by simp)).alloc _
  have A2 : Blk (((w.alloc (.cells (ints .u8 key) 30)).alloc (.cells (ints .u8 nonce) 80)).alloc (.cells #[.int .u8 0, .int .u8 0, .int .u8 0, .int .u8 0, .int .u8 0, .int .u8 0, .int .u8 0, .int .u8 0, .int .u8 0, .int .u8 0, .int .u8 0, .int .u8 0, .int .u8 0, .int .u8 0, .int .u8 0, .int .u8 0, .int .u8 0, .int .u8 0, .int .u8 0, .int .u8 0, .int .u8 0, .int .u8 0, .int .u8 0, .int .u8 0, .int .u8 0, .int .u8 0, .int .u8 0, .int .u8 0, .int .u8 0, .int .u8 0, .int .u8 0, .int .u8 0, .int .u8 0, .int .u8 0, .int .u8 0, .int .u8 0, .int .u8 0, .int .u8 0, .int .u8 0, .int .u8 0, .int .u8 0, .int .u8 0, .int .u8 0, .int .u8 0, .int .u8 0, .int .u8 0, .int .u8 0, .int .u8 0, .int .u8 0, .int .u8 0, .int .u8 0, .int .u8 0, .int .u8 0, .int .u8 0, .int .u8 0, .int .u8 0, .int .u8 0, .int .u8 0, .int .u8 0, .int .u8 0, .int .u8 0, .int .u8 0, .int .u8 0, .int .u8 0] 75)) (w.heap.size + 2) 75 (ints .u8 Z0) := by rw [← EI.out]; exact blk_top _ _ _ _ (by simp)
  have Q0 : Below w.heap.size w (((w.alloc (.cells (ints .u8 key) 30)).alloc (.cells (ints .u8 nonce) 80)).alloc (.cells #[.int .u8 0, .int .u8 0, .int .u8 0, .int .u8 0, .int .u8 0, .int .u8 0, .int .u8 0, .int .u8 0, .int .u8 0, .int .u8 0, .int .u8 0, .int .u8 0, .int .u8 0, .int .u8 0, .int .u8 0, .int .u8 0, .int .u8 0, .int .u8 0, .int .u8 0, .int .u8 0, .int .u8 0, .int .u8 0, .int .u8 0, .int .u8 0, .int .u8 0, .int .u8 0, .int .u8 0, .int .u8 0, .int .u8 0, .int .u8 0, .int .u8 0, .int .u8 0, .int .u8 0, .int .u8 0, .int .u8 0, .int .u8 0, .int .u8 0, .int .u8 0, .int .u8 0, .int .u8 0, .int .u8 0, .int .u8 0, .int .u8 0, .int .u8 0, .int .u8 0, .int .u8 0, .int .u8 0, .int .u8 0, .int .u8 0, .int .u8 0, .int .u8 0, .int .u8 0, .int .u8 0, .int .u8 0, .int .u8 0, .int .u8 0, .int .u8 0, .int .u8 0, .int .u8 0, .int .u8 0, .int .u8 0, .int .u8 0, .int .u8 0, .int .u8 0] 75)) := (((Below.refl _ _).alloc (Nat.le_refl _) _).alloc (by simp) _).alloc (by simp; omega) _
  clear hk hy hn hyn hS hM hP hL hZ0 EI
  go_enter Tryz.func61, Tryz.ntmps61
  go_wp2_with (first | ((with_reducible refine wv_row (d := 8) ?hd ?hw 30 (.tmp 3) ?ho (w.heap.size) ?hx (t' := 30) (ints .u8 key) _ _ Tryz.underlying30 ?hs ?hg ?_); (case hd => rfl); (case hw => kernel_rfl); (case ho => rfl); (case hx => kernel_rfl); (case hs => rw [ints_size, LK.out]; exact t32_info); (case hg => exact A0); simp only [Act.put, List.setIfInBounds_toArray, List.set_cons_succ, List.set_cons_zero]) | ((with_reducible refine wv_row (d := 9) ?hd ?hw 80 (.tmp 4) ?ho (w.heap.size + 1) ?hx (t' := 80) (ints .u8 nonce) _ _ Tryz.underlying80 ?hs ?hg ?_); (case hd => rfl); (case hw => kernel_rfl); (case ho => rfl); (case hx => kernel_rfl); (case hs => rw [ints_size, LN.out]; exact i12_info); (case hg => exact A1); simp only [Act.put, List.setIfInBounds_toArray, List.set_cons_succ, List.set_cons_zero]))
  refine (CL.out _).mono ?_
  rintro e w1 ⟨rfl, hb1⟩
  have B2 := A2.under hb1
  have Q1 := Q0.trans (hb1.mono Q0.size)
  have hl1 : w.heap.size + 2 < w1.heap.size := B2.lt
  clear A0 A1 A2 Q0 hb1 CL
  go_wp2_with (first | (refine wl_store rfl 136 (.tmp 7) (.tmp 11) rfl w1.heap.size (ints .u32 S) rfl rfl _ (blk_new w1 _ _) (by rw [ints_size, LS.out]; exact ws_inf2) (by rw [ints_size, LS.out]; rfl) (ints_one _ _) ?_))
  intro w3 A7 P3
  have C2' := P3.blk (B2.alloc _) (by omega)
  have Q3 := (Q1.alloc Q1.size _).trans (P3.below (by omega))
  generalize hg7 : w1.heap.size = g7 at *
  clear B2 Q1 P3
  have C1 : Kept (∀ w', Below w3.heap.size w3 w' → Calls Tryz.prog 86 [.agg (ints .u32 S)].toArray w' fun e w2 => e = .returned (.agg (ints .u32 M)) ∧ Below w'.heap.size w' w2) := ⟨fun w' hb => by rw [EM.out]; exact mixedS_any S w' WS.out⟩
  have C2 : Kept (∀ w', Below w3.heap.size w3 w' → Calls Tryz.prog 85 [.agg (ints .u32 S), .agg (ints .u32 M)].toArray w' fun e w2 => e = .returned (.agg (ints .u32 P)) ∧ Below w'.heap.size w' w2) := ⟨fun w' hb => by rw [EP.out]; exact plus16 S M w' WS.out.len WM.out.len⟩
  have C3 : Kept (∀ w', Below w3.heap.size w3 w' → Calls Tryz.prog 87 [.agg (ints .u32 P)].toArray w' fun e w2 => e = .returned (.agg (ints .u8 L)) ∧ Below w'.heap.size w' w2) := ⟨fun w' hb => by rw [EL.out]; exact bytes16 P w' WP.out⟩
  go_wp2_with fail
  refine region_ownL w3 5 [(12, .agg (ints .u32 S)), (13, .agg (ints .u32 S)), (14, .agg (ints .u32 M)), (15, .agg (ints .u32 P)), (16, .agg (ints .u8 L))] [] [] [] rfl (by kernel_rfl) (by kernel_rfl) (by kernel_rfl) (by kernel_rfl) (by kernel_rfl) (by kernel_rfl) (by kernel_rfl) (by kernel_rfl) (by kernel_rfl) (by kernel_rfl) (by kernel_rfl) ?hst1 ?hst2 (Below.refl _ _) (fun hA => ⟨ow_row hA (wants_none rfl) 12 (.agg (ints .u32 S)) (by kernel_rfl) rfl rfl rfl rfl (by kernel_rfl) 136 (.tmp 7) rfl (g7) (by kernel_rfl) 136 (ints .u32 S) 16 72 Tryz.underlying136 ((by rw [ints_size, LS.out]; exact ws_inf2)) (fun w1 hb => A7.under hb) rfl, ow_row hA (wants_none rfl) 13 (.agg (ints .u32 S)) (by kernel_rfl) rfl rfl rfl rfl (by kernel_rfl) 136 (.tmp 7) rfl (g7) (by kernel_rfl) 136 (ints .u32 S) 16 72 Tryz.underlying136 ((by rw [ints_size, LS.out]; exact ws_inf2)) (fun w1 hb => A7.under hb) rfl, ow_calld hA (wants_none rfl) 14 (.agg (ints .u32 M)) (by kernel_rfl) rfl rfl rfl rfl (by kernel_rfl) 86 Tryz.f86 _ [.tmp 13] _ [.agg (ints .u32 S)] rfl (by kernel_rfl) Tryz.func86 (by kernel_rfl) rfl (C1.out), ow_calld hA (wants_none rfl) 15 (.agg (ints .u32 P)) (by kernel_rfl) rfl rfl rfl rfl (by kernel_rfl) 85 Tryz.f85 _ [.tmp 12, .tmp 14] _ [.agg (ints .u32 S), .agg (ints .u32 M)] rfl (by kernel_rfl) Tryz.func85 (by kernel_rfl) rfl (C2.out), ow_calld hA (wants_none rfl) 16 (.agg (ints .u8 L)) (by kernel_rfl) rfl rfl rfl rfl (by kernel_rfl) 87 Tryz.f87 _ [.tmp 15] _ [.agg (ints .u32 P)] rfl (by kernel_rfl) Tryz.func87 (by kernel_rfl) rfl (C3.out), trivial⟩) ?_
  case hst1 => intro q hq; cases hq
  case hst2 => intro q hq; cases hq
  intro fv w4 hf hD hb4
  simp only [putR, List.foldl_cons, List.foldl_nil, List.map_cons, List.map_nil, Act.put, List.setIfInBounds_toArray, List.set_cons_succ, List.set_cons_zero]
  have D2 := C2'.under hb4
  have Q4 := Q3.trans (hb4.mono Q3.size)
  clear hf hD C1 C2 C3 A7 C2' Q3 hb4
  refine wl_store rfl 75 (.tmp 6) (.tmp 16) rfl (w.heap.size + 2) (ints .u8 L) (by kernel_rfl) (by kernel_rfl) _ D2 (by rw [ints_size, LL.out]; exact i64_inf2) (by rw [ints_size, ints_size, LL.out, LZ.out]) (ints_one _ _) ?_
  intro w5 A5 P5
  go_wp2
  exact bodyPost_ret (v := .agg (ints .u8 L)) (results_cell_row Tryz.results61 _ _ _ 75 (ints .u8 L) (0, 0) _ rfl A5 Tryz.underlying75 rfl (by rw [ints_size, LL.out]; exact i64_inf2)) rfl ⟨rfl, Q4.trans (P5.below (by omega))⟩
end Go.Proofs.YtjkdonjcngmjeaaGreatDoor.sh
