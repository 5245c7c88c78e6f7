/-
  General pieces, joined: XF XH XI XJ XK XL XU XM XN XQ W1 RM R1 R2 YA YB SHL SHN.
-/
import Derived.Test.YtfkpbmkhkhnehaaBaseB
import Derived.Lib.BufferWrite
import Derived.Deep.Strs
import Derived.Test.YtfkpbmkhkhnehaaRows
import Derived.WalkKit
import Derived.WalkSpells
import Derived.WalkLawsBesides
import Derived.Laws.MathBits
import Derived.RegionTactic
import Derived.BigRegion
import Derived.Deep.QuietTactic
import Derived.BigQuiet
/-
  The words of a block at first, by the program.
-/
namespace Go.Proofs.Ytfkpbmkhkhnehaa.sh
open Go Go.RowKit
set_option linter.unusedVariables false
set_option linter.unusedSimpArgs false

theorem part_congr (b b' : List Nat) (j j' : Nat) : ∀ n, (∀ m, m < n → b.getD (4 * j + m) 0 = b'.getD (4 * j' + m) 0) → part b j n = part b' j' n
  | 0, _ => rfl
  | n + 1, h => by
    show part b j n + b.getD (4 * j + n) 0 * 256 ^ n = part b' j' n + b'.getD (4 * j' + n) 0 * 256 ^ n
    rw [part_congr b b' j j' n (fun m hm => h m (by omega)), h n (by omega)]
theorem getD_left (l m : List Nat) (i : Nat) (h : i < l.length) : (l ++ m).getD i 0 = l.getD i 0 := by
  rw [List.getD_eq_getElem?_getD, List.getD_eq_getElem?_getD, List.getElem?_append_left h]
theorem getD_right (l m : List Nat) (i : Nat) (h : l.length ≤ i) : (l ++ m).getD i 0 = m.getD (i - l.length) 0 := by
  rw [List.getD_eq_getElem?_getD, List.getD_eq_getElem?_getD, List.getElem?_append_right h]
theorem frst_eq (key nonce : List Nat) (count : Nat) (hk : key.length = 32) (hn : nonce.length = 12) : (wsL (nameL ++ key ++ (List.replicate 4 0 ++ nonce)) 16).set 12 count = frstL key nonce count := by
  have hl : (nameL ++ key).length = 48 := by rw [List.length_append, hk]; rfl
  apply List.ext_getElem?
  intro j
  unfold frstL
  rw [List.getElem?_set, wsL_len]
  by_cases h1 : j < 12
  · rw [if_neg (by omega), List.getElem?_append_left (by simp [wsL_len]; omega), List.getElem?_append_left (by rw [wsL_len]; exact h1)]
    simp only [wsL, List.getElem?_map, List.getElem?_range (show j < 16 by omega), List.getElem?_range h1, Option.map_some]
    congr 1
    exact part_congr _ _ _ _ 4 (fun m hm => getD_left _ _ _ (by rw [hl]; omega))
  · by_cases h2 : j = 12
    · subst h2
      rw [if_pos rfl, if_pos (by decide), List.getElem?_append_left (by simp [wsL_len]), List.getElem?_append_right (by rw [wsL_len]; exact Nat.le_refl _), wsL_len]
      rfl
    · rw [if_neg (by omega), List.getElem?_append_right (by simp [wsL_len]; omega)]
      by_cases h3 : j < 16
      · simp only [wsL, List.getElem?_map, List.getElem?_range h3, List.length_append, List.length_map, List.length_range, List.length_singleton, List.getElem?_range (show j - (12 + 1) < 3 by omega), Option.map_some]
        congr 1
        refine part_congr _ _ _ _ 4 (fun m hm => ?_)
        rw [getD_right _ _ _ (by rw [hl]; omega), hl, getD_right _ _ _ (by simp; omega)]
        congr 1
        simp
        omega
      · rw [List.getElem?_eq_none (by rw [wsL_len]; omega), List.getElem?_eq_none (by simp [wsL_len]; omega)]
theorem splice_parts (key nonce : List Nat) (hk : key.length = 32) (hn : nonce.length = 12) : splice (splice (splice (List.replicate 64 0) 0 nameL) 16 key) 52 nonce = nameL ++ key ++ (List.replicate 4 0 ++ nonce) := by
  have e1 : splice (List.replicate 64 0) 0 nameL = nameL ++ List.replicate 48 0 := by
    unfold splice
    rw [List.take_zero, List.nil_append, List.drop_replicate]
    rfl
  have e2 : splice (nameL ++ List.replicate 48 0) 16 key = nameL ++ key ++ List.replicate 16 0 := by
    unfold splice
    rw [List.take_left' (by rfl), hk, List.drop_append]
    have : List.drop (16 + 32) nameL = [] := by rfl
    rw [this, List.nil_append, List.drop_replicate, List.append_assoc]
    rfl
  have hl : (nameL ++ key).length = 48 := by rw [List.length_append, hk]; rfl
  have e3 : splice (nameL ++ key ++ List.replicate 16 0) 52 nonce = nameL ++ key ++ (List.replicate 4 0 ++ nonce) := by
    unfold splice
    rw [List.take_append, hl, List.take_of_length_le (by rw [hl]; decide), List.take_replicate, hn, List.drop_of_length_le (by rw [List.length_append, hl, List.length_replicate]; decide), List.append_nil, List.append_assoc]
    rfl
  rw [e1, e2, e3]
theorem arr_to_run {o : Oper} {a : Act} {x : Operand} {g n : Nat} (m : Nat) {t e : TypeId} (ho : o.op = .slice t x none (some (.const (.int .i64 (m : Int)))) none) (hx : a.eval x = .pointer (some ⟨g, 0, none⟩)) (ht : Try.prog.underlying t = some (.array n e)) (sz : ∀ w, (sizeOf e).run Try.prog w = .ok 1 w) (hm : m ≤ n) (hn : 0 < n) (w : World) :
    (execOp a.eval o).run Try.prog w = .ok (.value (.slice (some ⟨g, 0, none⟩) m n)) w := by
  have e3 : a.eval (.const (.int .i64 (m : Int))) = .int .i64 (m : Int) := rfl
  have h2 : ((m : Int) ≤ (n : Int)) := by omega
  unfold execOp
  simp only [ho, hx, e3, Option.map_none, Option.map_some, Instr.sliceAt, Instr.slice, Instr.sliceBounds, Sem.run_bind, run_underlying ht, Result.andThen_ok]
  simp [Instr.sliceBound, asIntOf, sz, go_sem, h2]
  try omega
theorem arr_ft_run {o : Oper} {a : Act} {x : Operand} {g n : Nat} (k m : Nat) {t e : TypeId} (ho : o.op = .slice t x (some (.const (.int .i64 (k : Int)))) (some (.const (.int .i64 (m : Int)))) none) (hx : a.eval x = .pointer (some ⟨g, 0, none⟩)) (ht : Try.prog.underlying t = some (.array n e)) (sz : ∀ w, (sizeOf e).run Try.prog w = .ok 1 w) (hk : k ≤ m) (hm : m ≤ n) (hn : k < n) (w : World) :
    (execOp a.eval o).run Try.prog w = .ok (.value (.slice (some ⟨g, k, none⟩) (m - k) (n - k))) w := by
  have e3 : a.eval (.const (.int .i64 (m : Int))) = .int .i64 (m : Int) := rfl
  have e4 : a.eval (.const (.int .i64 (k : Int))) = .int .i64 (k : Int) := rfl
  have h2 : ((m : Int) ≤ (n : Int)) := by omega
  have h1 : ((k : Int) ≤ (m : Int)) := by omega
  unfold execOp
  simp only [ho, hx, e3, e4, Option.map_none, Option.map_some, Instr.sliceAt, Instr.slice, Instr.sliceBounds, Sem.run_bind, run_underlying ht, Result.andThen_ok]
  simp [Instr.sliceBound, asIntOf, sz, go_sem, h1, h2, Addr.add]
  rw [if_pos hm, if_pos hk]
  simp [show ¬ n = k by omega]
  exact fun h => h.symm
theorem arr_from_run {o : Oper} {a : Act} {x : Operand} {g n : Nat} (k : Nat) {t e : TypeId} (ho : o.op = .slice t x (some (.const (.int .i64 (k : Int)))) none none) (hx : a.eval x = .pointer (some ⟨g, 0, none⟩)) (ht : Try.prog.underlying t = some (.array n e)) (sz : ∀ w, (sizeOf e).run Try.prog w = .ok 1 w) (hn : k < n) (w : World) :
    (execOp a.eval o).run Try.prog w = .ok (.value (.slice (some ⟨g, k, none⟩) (n - k) (n - k))) w := by
  have e4 : a.eval (.const (.int .i64 (k : Int))) = .int .i64 (k : Int) := rfl
  have h1 : ((k : Int) ≤ (n : Int)) := by omega
  unfold execOp
  simp only [ho, hx, e4, Option.map_none, Option.map_some, Instr.sliceAt, Instr.slice, Instr.sliceBounds, Sem.run_bind, run_underlying ht, Result.andThen_ok]
  simp [Instr.sliceBound, asIntOf, sz, go_sem, h1, Addr.add]
  rw [if_pos (by omega)]
  simp [show ¬ n = k by omega]
  exact fun h => h.symm
/-- A constant text is copied. -/
theorem wl_copyS {ops : Array Oper} {rest : List Oper} {o : Oper} {a : Act} {w : World} {Q : Exit → Act → World → Prop} (hgd : o.guard = none) (d s : Operand) (dT sT : TypeId) (ho : o.op = .call { callee := .builtin .copy, args := #[d, s], argTypes := #[dT, sT] }) (hu : Try.prog.underlying dT = some (.slice 5))
    (g off dLen dCap : Nat) (hd : a.eval d = .slice (some ⟨g, off, none⟩) dLen dCap) (t8 : ByteArray) (hs : a.eval s = .string t8) (l : List Nat) (hl : Lib.byteCells t8.data.toList = (ints .u8 l).toList) {t : TypeId} (cur : Array Value) (hg : Blk w g t cur) (hn : l.length = t8.size) (hle : t8.size ≤ dLen) (hfit : off + l.length ≤ cur.size)
    (h : ∀ w', Blk w' g t (splice cur.toList off (ints .u8 l).toList).toArray → Put w w' g → wpList Try.prog ops Q rest (a.put o.dst (goInt t8.size)) w') : wpList Try.prog ops Q (o :: rest) a w := by
  refine wpList_plain hgd fun K hK => ?_
  have hrun := Lib.run_copy_row_string (P := Try.prog) w dT sT o.type 5 g off dLen dCap t8 cur t hu (by kernel_rfl) hg hle (by rw [← hn]; exact hfit)
  have e : cur.toList.take off ++ Lib.byteCells t8.data.toList ++ cur.toList.drop (off + t8.size) = splice cur.toList off (ints .u8 l).toList := by
    unfold splice
    rw [hl, List.append_assoc, ← hn]
    simp [ints]
  rw [e] at hrun
  unfold Oper.wp
  simp [execOp, ho, resolve, invoke, builtin, hd, hs, hrun, Result.andThen]
  exact hK _ _ (h _ (setRow_heap _ _ _ _ _ _ hg) ⟨⟨rfl, rfl, rfl, by simp, fun k _ hk => setRow_other _ _ _ _ (fun e => hk (by rw [e]))⟩, by simp⟩)
theorem z64_eq2 : (#[.int .u8 0, .int .u8 0, .int .u8 0, .int .u8 0, .int .u8 0, .int .u8 0, .int .u8 0, .int .u8 0, .int .u8 0, .int .u8 0, .int .u8 0, .int .u8 0, .int .u8 0, .int .u8 0, .int .u8 0, .int .u8 0, .int .u8 0, .int .u8 0, .int .u8 0, .int .u8 0, .int .u8 0, .int .u8 0, .int .u8 0, .int .u8 0, .int .u8 0, .int .u8 0, .int .u8 0, .int .u8 0, .int .u8 0, .int .u8 0, .int .u8 0, .int .u8 0, .int .u8 0, .int .u8 0, .int .u8 0, .int .u8 0, .int .u8 0, .int .u8 0, .int .u8 0, .int .u8 0, .int .u8 0, .int .u8 0, .int .u8 0, .int .u8 0, .int .u8 0, .int .u8 0, .int .u8 0, .int .u8 0, .int .u8 0, .int .u8 0, .int .u8 0, .int .u8 0, .int .u8 0, .int .u8 0, .int .u8 0, .int .u8 0, .int .u8 0, .int .u8 0, .int .u8 0, .int .u8 0, .int .u8 0, .int .u8 0, .int .u8 0, .int .u8 0] : Array Value) = ints .u8 (List.replicate 64 0) := by kernel_rfl
end Go.Proofs.Ytfkpbmkhkhnehaa.sh
/-
  Bytes turned by one block, by the program.
-/
namespace Go.Proofs.Ytfkpbmkhkhnehaa.sh
open Go Go.RowKit
set_option linter.unusedVariables false
set_option linter.unusedSimpArgs false

def xorZ (b k : List Nat) : List Nat := List.zipWith (· ^^^ ·) b k
theorem xorZ_len (b k : List Nat) (h : b.length ≤ k.length) : (xorZ b k).length = b.length := by simp [xorZ]; omega
theorem xorZ_get (b k : List Nat) (i x y : Nat) (hx : b[i]? = some x) (hy : k[i]? = some y) : (xorZ b k)[i]? = some (x ^^^ y) := by simp [xorZ, List.getElem?_zipWith, hx, hy]
theorem splice_snoc (L X : List Nat) (o i z : Nat) (h : X[i]? = some z) (hL : o + X.length ≤ L.length) : (splice L o (X.take i)).set (o + i) z = splice L o (X.take (i + 1)) := by
  have hi : i < X.length := (List.getElem?_eq_some_iff.1 h).1
  have e0 : (L.take o).length = o := by rw [List.length_take]; omega
  have e1 : (X.take i).length = i := by rw [List.length_take]; omega
  have e2 : (X.take (i + 1)).length = i + 1 := by rw [List.length_take]; omega
  have ed : L.drop (o + i) = L[o + i]'(by omega) :: L.drop (o + i + 1) := List.drop_eq_getElem_cons (by omega)
  unfold splice
  rw [e1, e2, List.set_append_right _ _ (by omega), e0, show o + i - o = i by omega, List.set_append_right _ _ (by omega), e1, Nat.sub_self, ed, List.set_cons_zero, List.take_add_one, h, show o + (i + 1) = o + i + 1 by omega]
  simp
theorem grown_put {w w1 w2 : World} {g : Nat} (h : w.grownBy w1 (some g)) (p : Put w1 w2 g) : w.grownBy w2 (some g) :=
  ⟨p.grown.os.trans h.os, p.grown.tape.trans h.tape, p.grown.output.trans h.output, by rw [p.size]; exact h.size, fun k hk hne => (p.grown.block k (by have := h.size; omega) hne).trans (h.block k hk hne)⟩
end Go.Proofs.Ytfkpbmkhkhnehaa.sh
/-
  Bytes turned by blocks, by the program.
-/
namespace Go.Proofs.Ytfkpbmkhkhnehaa.sh
open Go Go.RowKit
set_option linter.unusedVariables false
set_option linter.unusedSimpArgs false

theorem run_c3264 {o : Oper} {a : Act} {x : Operand} {z : Nat} (ho : o.op = .convert 84 39 x) (hx : a.eval x = .int .u32 (z : Int)) (hz : z < 4294967296) (w : World) : (execOp a.eval o).run Try.prog w = .ok (.value (.int .u64 (z : Int))) w := by
  unfold execOp
  simp only [ho, hx]
  simp [go_sem, IntKind.wrap_u64]
  omega
theorem run_c364 {o : Oper} {a : Act} {x : Operand} {z : Nat} (ho : o.op = .convert 3 39 x) (hx : a.eval x = .int .i64 (z : Int)) (hz : z < 4611686018427387904) (w : World) : (execOp a.eval o).run Try.prog w = .ok (.value (.int .u64 (z : Int))) w := by
  unfold execOp
  simp only [ho, hx]
  simp [go_sem, IntKind.wrap_u64]
  omega
theorem run_add64 {o : Oper} {a : Act} {x y : Operand} {m n z : Nat} (ho : o.op = .binOp .add 39 x y 39) (hx : a.eval x = .int .u64 (m : Int)) (hy : a.eval y = .int .u64 (n : Int)) (hz : z = m + n) (h62 : z < 4611686018427387904) (w : World) : (execOp a.eval o).run Try.prog w = .ok (.value (.int .u64 (z : Int))) w := by
  unfold execOp
  simp only [ho, hx, hy]
  simp [go_sem, IntKind.wrap_u64]
  omega
theorem run_gtr64c {o : Oper} {a : Act} {x : Operand} {m : Nat} {b : Bool} (ho : o.op = .binOp .gtr 39 x (.const (.int .u64 4294967296)) 39) (hx : a.eval x = .int .u64 (m : Int)) (hb : b = decide (4294967296 < m)) (w : World) : (execOp a.eval o).run Try.prog w = .ok (.value (.bool b)) w := by
  have e3 : a.eval (.const (.int .u64 4294967296)) = .int .u64 4294967296 := rfl
  unfold execOp
  simp only [ho, hx, e3]
  simp [go_sem, hb]
  omega
theorem run_gtrI {o : Oper} {a : Act} {x : Operand} {m : Nat} {b : Bool} (c : Nat) (ho : o.op = .binOp .gtr 3 x (.const (.int .i64 (c : Int))) 3) (hx : a.eval x = .int .i64 (m : Int)) (hb : b = decide (c < m)) (w : World) : (execOp a.eval o).run Try.prog w = .ok (.value (.bool b)) w := by
  have e3 : a.eval (.const (.int .i64 (c : Int))) = .int .i64 (c : Int) := rfl
  unfold execOp
  simp only [ho, hx, e3]
  simp [go_sem, hb]
theorem run_c332 {o : Oper} {a : Act} {x : Operand} {z : Nat} (ho : o.op = .convert 3 84 x) (hx : a.eval x = .int .i64 (z : Int)) (hz : z < 4294967296) (w : World) : (execOp a.eval o).run Try.prog w = .ok (.value (.int .u32 (z : Int))) w := by
  unfold execOp
  simp only [ho, hx]
  simp [go_sem, IntKind.wrap_u32']
  omega
theorem run_min2' {o : Oper} {a : Act} {x y : Operand} {m n z : Nat} {ts : Array TypeId} (ho : o.op = .call { callee := .builtin .min, args := #[x, y], argTypes := ts }) (hx : a.eval x = .int .i64 (m : Int)) (hy : a.eval y = .int .i64 (n : Int)) (hz : z = min m n) (w : World) : (execOp a.eval o).run Try.prog w = .ok (.value (.int .i64 (z : Int))) w := by exact run_min2 ho hx hy hz w
theorem run_addZ {o : Oper} {a : Act} {x : Operand} {i z : Nat} (c : Nat) (ho : o.op = .binOp .add 3 x (.const (.int .i64 (c : Int))) 3) (hx : a.eval x = .int .i64 (i : Int)) (hz : z = i + c) (hi : z < 4611686018427387904) (w : World) : (execOp a.eval o).run Try.prog w = .ok (.value (.int .i64 (z : Int))) w := by
  subst hz
  exact run_addI c ho hx hi w
theorem run_subZ {o : Oper} {a : Act} {x : Operand} {i z : Nat} (c : Nat) (ho : o.op = .binOp .sub 3 x (.const (.int .i64 (c : Int))) 3) (hx : a.eval x = .int .i64 (i : Int)) (hz : i = z + c) (hi : i < 4611686018427387904) (w : World) : (execOp a.eval o).run Try.prog w = .ok (.value (.int .i64 (z : Int))) w := by
  have h := run_subI c ho hx (by omega) hi w
  rw [show i - c = z by omega] at h
  exact h
end Go.Proofs.Ytfkpbmkhkhnehaa.sh
/-
  Bytes turned by blocks, by the program: where nothing is refused.
-/
namespace Go.Proofs.Ytfkpbmkhkhnehaa.sh
open Go Go.RowKit
set_option linter.unusedVariables false
set_option linter.unusedSimpArgs false

theorem mix_piece (L Z : List Nat) (f m : Nat) (hl : L.length = Z.length) (hm : f + m ≤ L.length) : splice (mix L Z f) f ((L.drop f).take m) = mix L Z (f + m) := by
  have e0 : (L.take f).length = f := by rw [List.length_take]; omega
  have e1 : ((L.drop f).take m).length = m := by rw [List.length_take, List.length_drop]; omega
  have e2 : (L.take f ++ Z.drop f).drop (f + m) = Z.drop (f + m) := by
    rw [List.drop_append, List.drop_of_length_le (by rw [e0]; omega), List.nil_append, e0, List.drop_drop]
    congr 1
    omega
  have e3 : L.take (f + m) = L.take f ++ (L.drop f).take m := List.take_add
  unfold splice mix
  rw [e1, List.take_left' e0, e2, e3, List.append_assoc]
theorem enc_piece (key nonce b : List Nat) (count i m : Nat) (hm : m ≤ 64) (hl : 64 * i + m ≤ b.length) : xorZ ((b.drop (64 * i)).take m) (blockL key nonce (count + i)) = ((encL key nonce count b).drop (64 * i)).take m := by
  apply List.ext_getElem?
  intro j
  by_cases hj : j < m
  · have eb : ((b.drop (64 * i)).take m)[j]? = some (b[64 * i + j]'(by omega)) := by rw [List.getElem?_take_of_lt hj, List.getElem?_drop]; exact List.getElem?_eq_getElem _
    have eb2 : b[64 * i + j]? = some (b[64 * i + j]'(by omega)) := List.getElem?_eq_getElem _
    have ek : (blockL key nonce (count + i))[j]? = some ((blockL key nonce (count + i)).getD j 0) := by rw [List.getD_eq_getElem?_getD, List.getElem?_eq_getElem (by rw [blockL_len]; omega)]; rfl
    rw [xorZ_get _ _ _ _ _ eb ek, List.getElem?_take_of_lt hj, List.getElem?_drop, encL_get _ _ _ _ _ _ eb2]
    unfold padB
    rw [show (64 * i + j) % 64 = j by omega, show (64 * i + j) / 64 = i by omega]
  · rw [List.getElem?_eq_none, List.getElem?_eq_none]
    · rw [List.length_take]; omega
    · rw [xorZ_len _ _ (by rw [blockL_len, List.length_take]; omega), List.length_take]; omega
section
variable {o : Oper} {a : Act} {x y z : Operand}
theorem cut_in {p pf : Option Addr} {l c k m mm cc : Nat} {t e : TypeId} (ho : o.op = .slice t x (some y) (some z) none) (hx : a.eval x = .slice p l c) (hy : a.eval y = .int .i64 (k : Int)) (hz : a.eval z = .int .i64 (m : Int)) (ht : Try.prog.underlying t = some (.slice e)) (sz : ∀ w, (sizeOf e).run Try.prog w = .ok 1 w) (hk : k ≤ m) (hm : m ≤ c) (hpf : pf = if c = k then p else p.map (·.add k)) (hmm : mm = m - k) (hcc : cc = c - k) (w : World) :
    (execOp a.eval o).run Try.prog w = .ok (.value (.slice pf mm cc)) w := by
  rw [hpf, hmm, hcc]
  exact cuts_run ho hx hy hz ht sz hk hm w
theorem cut_own {g l c k m mm cc : Nat} {t e : TypeId} (ho : o.op = .slice t x (some y) (some z) none) (hx : a.eval x = .slice (some ⟨g, 0, none⟩) l c) (hy : a.eval y = .int .i64 (k : Int)) (hz : a.eval z = .int .i64 (m : Int)) (ht : Try.prog.underlying t = some (.slice e)) (sz : ∀ w, (sizeOf e).run Try.prog w = .ok 1 w) (hk : k ≤ m) (hm : m ≤ c) (hkc : k < c) (hmm : mm = m - k) (hcc : cc = c - k) (w : World) :
    (execOp a.eval o).run Try.prog w = .ok (.value (.slice (some ⟨g, k, none⟩) mm cc)) w :=
  cut_in ho hx hy hz ht sz hk hm (by rw [if_neg (by omega), Option.map_some, addr_add, Nat.zero_add]) hmm hcc w
end
theorem blk_row {w : World} {base g n : Nat} {e : TypeId} {k : IntKind} {l : List Nat} (h : Blk w g e (ints k l)) (hn : l.length = n) (hb : base ≤ g) (hm : n ≤ maxLen) : Row base e k l (.slice (some ⟨g, 0, none⟩) n n) w := by
  subst hn
  unfold Row
  exact ⟨by simp [ints], .inr ⟨g, l.length, _, rfl, hb, h, Nat.le_refl _, hm, by rw [ints_size, Nat.mul_one], by rw [Nat.mul_one, List.take_of_length_le (by simp [ints])]⟩⟩

end Go.Proofs.Ytfkpbmkhkhnehaa.sh
/-
  The answers that the document fixes.
-/
namespace Go.Proofs.Ytfkpbmkhkhnehaa.sh
open Go Go.RowKit
set_option linter.unusedVariables false
set_option linter.unusedSimpArgs false

def keyF : List Nat := List.range 32
def nonF : List Nat := [0, 0, 0, 9, 0, 0, 0, 74, 0, 0, 0, 0]
theorem keyF_len : keyF.length = 32 := rfl
theorem keyF_bytes : Bytes keyF := fun i x hx => by
  unfold keyF at hx
  have := List.mem_of_getElem? hx
  simp at this
  omega
theorem nonF_bytes : Bytes nonF := fun i x hx => by
  have h : ∀ y ∈ nonF, y < 256 := by decide
  exact h x (List.mem_of_getElem? hx)
theorem fixed_block : (blockL keyF nonF 1).take 4 = [16, 241, 231, 228] := by kernel_rfl
theorem fixed_enc : encL keyF nonF 1 [0, 0] = [16, 241] := by kernel_rfl
theorem z32_eq : (#[.int .u8 0, .int .u8 0, .int .u8 0, .int .u8 0, .int .u8 0, .int .u8 0, .int .u8 0, .int .u8 0, .int .u8 0, .int .u8 0, .int .u8 0, .int .u8 0, .int .u8 0, .int .u8 0, .int .u8 0, .int .u8 0, .int .u8 0, .int .u8 0, .int .u8 0, .int .u8 0, .int .u8 0, .int .u8 0, .int .u8 0, .int .u8 0, .int .u8 0, .int .u8 0, .int .u8 0, .int .u8 0, .int .u8 0, .int .u8 0, .int .u8 0, .int .u8 0] : Array Value) = ints .u8 (List.replicate 32 0) := by kernel_rfl
theorem run_c38 {o : Oper} {a : Act} {x : Operand} {z : Nat} (ho : o.op = .convert 3 5 x) (hx : a.eval x = .int .i64 (z : Int)) (hz : z < 256) (w : World) : (execOp a.eval o).run Try.prog w = .ok (.value (.int .u8 (z : Int))) w := run_conv38 ho hx (by omega) w
theorem run_eqC {o : Oper} {a : Act} {x : Operand} {k : IntKind} {t u : TypeId} {z : Nat} (ho : o.op = .binOp .eql t x (.const (.int k (z : Int))) u) (hx : a.eval x = .int k (z : Int)) (ht : Try.prog.underlying t = some (.int k)) (w : World) : (execOp a.eval o).run Try.prog w = .ok (.value (.bool true)) w := by
  have e3 : a.eval (.const (.int k (z : Int))) = .int k (z : Int) := rfl
  unfold execOp
  simp only [ho, hx, e3]
  simp [go_sem]

end Go.Proofs.Ytfkpbmkhkhnehaa.sh
/-
  An argument that is a key, a nonce and a count.
-/
namespace Go.Proofs.Ytfkpbmkhkhnehaa.sh
open Go Go.ChangeShapes Go.WideShapes Go.ChangeAt Go.RowKit
set_option linter.unusedVariables false
set_option linter.unusedSimpArgs false

def placeA (k n : List Nat) (c : Nat) : Array Value := ints .u8 k ++ (ints .u8 n ++ #[.int .u32 (c : Int)])
theorem place_size (k n : List Nat) (c : Nat) (hk : k.length = 32) (hn : n.length = 12) : (placeA k n c).size = 45 := by simp [placeA, ints_size, hk, hn]
theorem place_key (k n : List Nat) (c : Nat) : ∀ (j : Nat) (v : Value), (ints .u8 k)[j]? = some v → (placeA k n c)[0 + j]? = some v := part_first _ _
theorem place_non (k n : List Nat) (c : Nat) (hk : k.length = 32) : ∀ (j : Nat) (v : Value), (ints .u8 n)[j]? = some v → (placeA k n c)[32 + j]? = some v := fun j v h => by
  have h2 := part_first (ints .u8 n) #[.int .u32 (c : Int)] j v h
  rw [Nat.zero_add] at h2
  exact part_second (ints .u8 k) _ 32 (by rw [ints_size, hk]) j v h2
theorem place_cnt (k n : List Nat) (c : Nat) (hk : k.length = 32) (hn : n.length = 12) : (placeA k n c)[44]? = some (.int .u32 (c : Int)) := by
  have h2 := part_second (ints .u8 n) #[.int .u32 (c : Int)] 12 (by rw [ints_size, hn]) 0 _ rfl
  exact part_second (ints .u8 k) _ 32 (by rw [ints_size, hk]) 12 _ h2
theorem arr_cells {H : Type} {enc : TypeId × Value → H} {W : World} {base : Nat} {sp : Nat → Bool} {held : Bool} {fuel : Nat} {cs : List Value} {x : DataW H × List MemPlace} {t e : TypeId} {n B : Nat} {kd : IntKind} (ht : Try.prog.underlying t = some (.array n e)) (he : Try.prog.underlying e = some (.int kd)) (ct : Try.prog.cellsOf t = n) (ce : Try.prog.cellsOf e = 1) (hB : ∀ k : Int, (Lit.int kd k).wf = true → 0 ≤ k ∧ k < B)
    (hf : DataW.trod enc Try.prog W base sp held fuel t cs = some x) : ∃ l : List Nat, cs = (ints kd l).toList ∧ l.length = n ∧ ∀ (i x : Nat), l[i]? = some x → x < B := by
  obtain ⟨xs, m, rfl, hx, hlen, hn, hel⟩ := DataW.trod_array ht hf
  rw [ct] at hlen
  have hb : ∀ i, ∃ k : Nat, i < n → cs[i]? = some (.int kd (k : Int)) ∧ k < B := by
    intro i
    by_cases hi : i < n
    · have h1 := hel i hi
      rw [ce, Nat.mul_one] at h1
      have hxi : xs[i]? = some (xs[i]'(by omega)) := List.getElem?_eq_getElem _
      rw [hxi] at h1
      obtain ⟨k, e1, e2, hwf⟩ := DataW.trod_int he h1
      have hi' : i < cs.length := by omega
      have e3 : (cs.drop i).take 1 = [cs[i]] := by
        rw [List.drop_eq_getElem_cons hi']
        rfl
      rw [e3] at e1
      obtain ⟨h2, h3⟩ := hB k hwf
      refine ⟨k.toNat, fun _ => ⟨?_, by omega⟩⟩
      rw [Int.toNat_of_nonneg h2, List.getElem?_eq_getElem hi']
      simpa using e1
    · exact ⟨0, fun h' => absurd h' hi⟩
  let b : Nat → Nat := fun i => Classical.choose (hb i)
  have b1 : ∀ i, i < n → cs[i]? = some (.int kd (b i : Int)) ∧ b i < B := fun i => Classical.choose_spec (hb i)
  refine ⟨(List.range n).map b, ?_, by simp, fun i x hx => ?_⟩
  · apply List.ext_getElem?
    intro j
    by_cases hj : j < n
    · rw [(b1 j hj).1]
      have h9 : (ints kd ((List.range n).map b))[j]? = some (.int kd (b j : Int)) := ints_get (by simp [hj])
      rw [← Array.getElem?_toList] at h9
      exact h9.symm
    · have h9 : (ints kd ((List.range n).map b)).toList.length = n := by simp [ints]
      rw [List.getElem?_eq_none (by omega), List.getElem?_eq_none (by omega)]
  · rw [List.getElem?_map] at hx
    obtain ⟨y, hy, rfl⟩ := Option.map_eq_some_iff.1 hx
    obtain ⟨h1, h2⟩ := List.getElem?_eq_some_iff.1 hy
    simp at h1 h2
    rw [← h2]
    exact (b1 _ h1).2
theorem c_u32 : Try.prog.cellsOf 84 = 1 := by kernel_rfl
section
variable {ops : Array Oper} {rest : List Oper} {o : Oper} {a : Act} {w : World} {Q : Exit → Act → World → Prop} {d : Nat}
/-- An array in the midst of a block is read. -/
theorem wv_partA (hd : o.dst = some d) (hw : Region.wanted o (yielded ops a.tmps) = true) (t : TypeId) (x : Operand) (ho : o.op = .load t x) (g off : Nat) (hx : a.eval x = .pointer (some ⟨g, off, none⟩)) {t' : TypeId} (cs es : Array Value) (len : Nat) (e : TypeId) (hu : Try.prog.underlying t = some (.array len e)) (hs : (Try.prog.info? t).map (·.size) = some es.size)
    (hg : Blk w g t' cs) (hp : ∀ j v, es[j]? = some v → cs[off + j]? = some v) (h : wpList Try.prog ops Q rest (a.put o.dst (.agg es)) w) : wpList Try.prog ops Q (o :: rest) a w :=
  BigFrame.wpList_want hw fun K hK => by
    unfold Oper.wp execOp
    simp only [ho, hx, Instr.loadAt, Instr.sureAddr, Sem.run_bind, Sem.run_pure, Result.andThen_ok, run_loadVar_at w g off t' t cs es (0, 0) _ hg hp hu rfl hs]
    exact hK _ _ h
end
section
variable {P : Program} {h : List Oper} {A0 A : Act} {W0 : World} {S : Nat → Option (Value → World → Prop)} {sp O : List Nat} {E : List (Nat × Nat)} {i : Nat} {o : Oper}
theorem ow_partA (hA : Full h A0 A S sp) (hw : Wants h A0 A S O E W0.heap.size i o) (d : Nat) (v : Value) (hdet : detE h sp E i o = true) (hsel : notSel o = true) (hd : o.dst = some d) (hds : sp.contains d = false) (hO : O.contains d = false) (hv : A.tmps[d]? = some v) (ty : TypeId) (x : Operand) (ho : o.op = .load ty x) (g off : Nat) (hx : A.eval x = .pointer (some ⟨g, off, none⟩)) (t : TypeId) (cs es : Array Value) (len : Nat) (e : TypeId) (hu : P.underlying ty = some (.array len e)) (hi : (P.info? ty).map (·.size) = some es.size)
    (hb : ∀ w, Below W0.heap.size W0 w → Blk w g t cs) (hp : ∀ j v, es[j]? = some v → cs[off + j]? = some v) (hvB : v = .agg es) : OwnOk P h A0 W0 (relR A S) O E i o :=
  ow_q hA hdet hsel hw d v hd hds hO hv fun w hw => by
    unfold Oper.quietAt execOp
    simp only [ho, hx, Instr.loadAt, Instr.sureAddr, Sem.run_bind, Sem.run_pure, Result.andThen_ok, run_loadVar_at w g off t ty cs es (0, 0) _ (hb w hw) hp hu rfl hi]
    exact ⟨rfl, hvB.symm⟩
end
end Go.Proofs.Ytfkpbmkhkhnehaa.sh
/-
  Regions that draw their order, where no operation takes a block over: what a slot holds may be a pair whose slice is new.
-/
namespace Go.Proofs.Ytfkpbmkhkhnehaa.sh
open Go Go.RowKit
set_option linter.unusedVariables false
set_option linter.unusedSimpArgs false

theorem grown_empty {w w' : World} {row : Option Nat} (h : w.grownBy w' row) (hr : ∀ b, row = some b → False) : Below w.heap.size w w' := ⟨h.os, h.tape, h.output, h.size, fun k hk => h.block k hk (fun e => hr k e.symm)⟩
/-- A region that draws its order: each of the first n operations makes a value of which R holds; owners' blocks are apart; the last operations wait for all of those. -/
theorem region_ownN {P : Program} {Q : Exit → Act → World → Prop} {id : Nat} {a : Act} {w : World} (W0 : World) (n : Nat) {l : List Oper} (R : Nat → Value → World → Prop) (O : List Nat) (E : List (Nat × Nat)) (ds : List Nat) (hm : P.follows .mixedOrders = true)
    (hE : edgesIn (l.take n) = true) (hG : guardsIn (l.take n) = true) (hA : dstsApart (l.take n) 0 = true) (hI : dstsIn (l.take n) a.tmps.size = true) (hT : tailUnder (l.take n) (l.drop n) = true)
    (hS : Region.seqB .any l.toArray (l.drop n).length (l.take n).length (Array.replicate (l.take n).length true ++ Array.replicate (l.drop n).length false) = true)
    (hEw : (E.all fun q => O.contains q.2 && match (l.take n)[q.1]? with | some o => waitsFor (l.take n) o q.2 | none => false) = true) (hEn : apartB (E.map (·.2)) = true)
    (hds : dstsOf (l.take n) = ds)
    (hst1 : ∀ d v w w', O.contains d = false → R d v w → Below W0.heap.size W0 w → Below W0.heap.size w w' → (E = [] → Below w.heap.size w w') → R d v w')
    (hst2 : ∀ d v w w' row, O.contains d = true → R d v w → w.grownBy w' row → (blkOf v = none ∨ blkOf v ≠ row) → (∀ b, blkOf v = some b → b < w.heap.size) → R d v w') (hw : Below W0.heap.size W0 w)
    (hok : OwnAll P (l.take n) a W0 R O E 0 (l.take n))
    (hfin : ∀ (f : Nat → Value) w', (∀ d ∈ ds, d ∉ E.map (·.2) → R d (f d) w' ∧ (O.contains d = true → ∀ b, blkOf (f d) = some b → W0.heap.size ≤ b ∧ b < w'.heap.size)) →
      (∀ d ∈ ds, ∀ d' ∈ ds, d ∉ E.map (·.2) → d' ∉ E.map (·.2) → O.contains d = true → O.contains d' = true → d ≠ d' → ∀ b, blkOf (f d) = some b → blkOf (f d') ≠ some b) → Below W0.heap.size W0 w' →
      wpList P l.toArray Q (l.drop n) (putR a (ds.map fun d => (d, f d))) w') : (Code.region id l.toArray true).wp P Q a w := by
  have e : l.take n ++ l.drop n = l := List.take_append_drop n l
  refine wp_region_any hm ?_
  generalize hh : l.take n = h at *
  have hEw' : ∀ q ∈ E, O.contains q.2 = true ∧ ∃ o, h[q.1]? = some o ∧ waitsFor h o q.2 = true := fun q hq => by
    have := List.all_eq_true.1 hEw q hq
    simp only [Bool.and_eq_true] at this
    refine ⟨this.1, ?_⟩
    cases ho : h[q.1]? with
    | none => simp [ho] at this
    | some o => exact ⟨o, rfl, by simpa [ho] using this.2⟩
  have main := wpAny_inv (P := P) (l := h) (Q := headPost P (h ++ l.drop n).toArray Q (l.drop n))
    (fun listed a' w' => Fr h a a' ∧ Below W0.heap.size W0 w' ∧ (∀ d, Liv h E listed d → ∃ v, a'.tmps[d]? = some v ∧ R d v w' ∧ (O.contains d = true → ∀ b, blkOf v = some b → W0.heap.size ≤ b ∧ b < w'.heap.size)) ∧
      ∀ d d', Liv h E listed d → Liv h E listed d' → O.contains d = true → O.contains d' = true → d ≠ d' → ∀ b, (a'.tmps[d]?).bind blkOf = some b → (a'.tmps[d']?).bind blkOf ≠ some b) hE
    (by
      intro listed a' w' i o hls hI' ho hun hall
      obtain ⟨hF, hB, hV, hD⟩ := hI'
      have hil : i < listed.size := by rw [hls]; exact (List.getElem?_eq_some_iff.1 ho).1
      have hun' : listed.getD i false = false := by simpa [hil] using hun
      obtain ⟨d, hd, hrun⟩ := by have := ownAll_get h 0 hok i o ho; rwa [Nat.zero_add] at this
      have hson : ∀ k, (listed.setIfInBounds i true).getD k false = if k = i then true else listed.getD k false := fun k => by
        by_cases hk : k = i
        · subst hk; simp [hil]
        · rw [if_neg hk, getD_set_ne false (Ne.symm hk)]
      have hlist : ∀ s, waitsFor h o s = true → ∃ (j : Nat) (o' : Oper), h[j]? = some o' ∧ listed.getD j false = true ∧ o'.dst = some s := fun s hs => by
        obtain ⟨x, hx, h1⟩ := Array.any_eq_true'.1 hs
        simp only [Bool.and_eq_true] at h1
        cases ho' : h[x.on]? with
        | none => simp [ho'] at h1
        | some o' => exact ⟨x.on, o', ho', hall x hx h1.1, by simpa [ho'] using h1.2⟩
      have hgot : GotE h E R O W0.heap.size i a' w' o := fun s hs hq => hV s ⟨hlist s hs, fun q hq' he => by
        have := List.all_eq_true.1 hq q hq'
        simp only [he, bne_self_eq_false, Bool.false_or, beq_iff_eq] at this
        rw [this]
        exact hun'⟩
      have hSe : ∀ s, (i, s) ∈ E → Liv h E listed s ∧ O.contains s = true := fun s hs => by
        obtain ⟨h1, o', h2, h3⟩ := hEw' _ hs
        rw [ho] at h2
        cases h2
        refine ⟨⟨hlist s h3, fun q hq he => ?_⟩, h1⟩
        have := apart_eq E hEn q hq (i, s) hs he
        rw [this]
        exact hun'
      obtain ⟨hwant, hwp⟩ := hrun a' w' hF hB hgot
      refine ⟨hwant, wp_false ?_ hwp⟩
      rintro a2 w2 ⟨v, row, rfl, hR, hg, hrow, hblk⟩
      have hdl : d < a'.tmps.size := by
        have := List.all_eq_true.1 hI o (List.mem_of_getElem? ho)
        rw [hd] at this
        rw [hF.size]
        simpa using this
      have hother : ∀ d', d' ≠ d → (a'.put (some d) v).tmps[d']? = a'.tmps[d']? := fun d' hne => by simp [Act.put, Array.getElem?_setIfInBounds_ne (Ne.symm hne)]
      have hself : (a'.put (some d) v).tmps[d]? = some v := by simp [Act.put, hdl]
      have hrange : ∀ s, (i, s) ∈ E → ∀ b, (a'.tmps[s]?).bind blkOf = some b → W0.heap.size ≤ b ∧ b < w'.heap.size := fun s hs b hb => by
        obtain ⟨h1, h2⟩ := hSe s hs
        obtain ⟨u, e1, _, e3⟩ := hV s h1
        rw [e1] at hb
        exact e3 h2 b hb
      have hBw : Below W0.heap.size w' w2 := grown_mono hg hB.size (fun b hb => by
        obtain ⟨s, hs, hb'⟩ := hrow b hb
        exact (hrange s hs b hb').1)
      have hold : ∀ d', Liv h E (listed.setIfInBounds i true) d' → d' ≠ d → Liv h E listed d' := fun d' hL hne => by
        obtain ⟨⟨j, o', h1, h2, h3⟩, h4⟩ := hL
        refine ⟨⟨j, o', h1, ?_, h3⟩, fun q hq he => ?_⟩
        · rw [hson j] at h2
          split at h2
          · next hji => subst hji; rw [ho] at h1; cases h1; rw [hd] at h3; exact absurd (Option.some.inj h3).symm hne
          · exact h2
        · have := h4 q hq he
          rw [hson q.1] at this
          split at this
          · cases this
          · exact this
      have hne_s : ∀ s d', (i, s) ∈ E → Liv h E (listed.setIfInBounds i true) d' → s ≠ d' := fun s d' hs hL he => by
        have := hL.2 (i, s) hs he
        rw [hson i, if_pos rfl] at this
        cases this
      refine ⟨⟨by rw [size_put]; exact hF.size, hF.defers, fun d' h' => ?_⟩, hB.trans hBw, fun d' hL => ?_, fun d1 d2 hL1 hL2 hO1 hO2 hne b hb1 hb2 => ?_⟩
      · rw [hother d' (fun e2 => h' i o ho (by rw [hd, e2]))]
        exact hF.out d' h'
      · by_cases hdd : d' = d
        · subst hdd
          refine ⟨v, hself, hR, fun hO b hb => ?_⟩
          rcases hblk hO b hb with ⟨h1, h2⟩ | ⟨s, hs, hb'⟩
          · exact ⟨Nat.le_trans hB.size h1, h2⟩
          · have := hrange s hs b hb'
            exact ⟨this.1, Nat.lt_of_lt_of_le this.2 hg.size⟩
        · have hL' := hold d' hL hdd
          obtain ⟨u, e1, e2, e3⟩ := hV d' hL'
          refine ⟨u, by rw [hother d' hdd]; exact e1, ?_, fun hO b hb => ⟨(e3 hO b hb).1, Nat.lt_of_lt_of_le (e3 hO b hb).2 hg.size⟩⟩
          cases hO : O.contains d' with
          | false => exact hst1 d' u w' w2 hO e2 hB hBw (fun hE0 => grown_empty hg (fun b hb => by obtain ⟨s, hs, _⟩ := hrow b hb; rw [hE0] at hs; cases hs))
          | true =>
            refine hst2 d' u w' w2 row hO e2 hg ?_ (fun b hb => (e3 hO b hb).2)
            cases hb : blkOf u with
            | none => exact .inl rfl
            | some b =>
              refine .inr fun hr => ?_
              obtain ⟨s, hs, hb'⟩ := hrow b hr.symm
              obtain ⟨h1, h2⟩ := hSe s hs
              exact hD s d' h1 hL' h2 hO (hne_s s d' hs hL) b hb' (by rw [e1]; exact hb)
      · by_cases h1 : d1 = d
        · subst h1
          have h2 : d2 ≠ d1 := Ne.symm hne
          have hL2' := hold d2 hL2 h2
          rw [hother d2 h2] at hb2
          rw [hself] at hb1
          rcases hblk hO1 b hb1 with ⟨h3, _⟩ | ⟨s, hs, hb'⟩
          · obtain ⟨u, e1, _, e3⟩ := hV d2 hL2'
            rw [e1] at hb2
            have := (e3 hO2 b hb2).2
            omega
          · obtain ⟨h4, h5⟩ := hSe s hs
            exact hD s d2 h4 hL2' h5 hO2 (hne_s s d2 hs hL2) b hb' hb2
        · have hL1' := hold d1 hL1 h1
          rw [hother d1 h1] at hb1
          by_cases h2 : d2 = d
          · subst h2
            rw [hself] at hb2
            rcases hblk hO2 b hb2 with ⟨h3, _⟩ | ⟨s, hs, hb'⟩
            · obtain ⟨u, e1, _, e3⟩ := hV d1 hL1'
              rw [e1] at hb1
              have := (e3 hO1 b hb1).2
              omega
            · obtain ⟨h4, h5⟩ := hSe s hs
              exact hD s d1 h4 hL1' h5 hO1 (hne_s s d1 hs hL1) b hb' hb1
          · rw [hother d2 h2] at hb2
            exact hD d1 d2 hL1' (hold d2 hL2 h2) hO1 hO2 hne b hb1 hb2)
    (by
      intro a' w' hI'
      obtain ⟨hF, hB, hV, hD⟩ := hI'
      have hliv : ∀ d ∈ ds, d ∉ E.map (·.2) → Liv h E (Array.replicate h.length true) d := fun d hd hn => by
        rw [← hds] at hd
        obtain ⟨o, ho, hd'⟩ := List.mem_filterMap.1 hd
        obtain ⟨i, hi, he⟩ := List.getElem_of_mem ho
        exact ⟨⟨i, o, by rw [List.getElem?_eq_getElem hi, he], by simp [hi], hd'⟩, fun q hq he => absurd (List.mem_map.2 ⟨q, hq, he⟩) hn⟩
      have hsome : ∀ d ∈ ds, ∃ v, a'.tmps[d]? = some v := fun d hd => by
        rw [← hds] at hd
        obtain ⟨o, ho, hd'⟩ := List.mem_filterMap.1 hd
        have := List.all_eq_true.1 hI o ho
        rw [hd'] at this
        exact ⟨_, Array.getElem?_eq_getElem (by rw [hF.size]; simpa using this)⟩
      have hfr := hfin (fun d => (a'.tmps[d]?).getD undef) w' (fun d hd hn => by obtain ⟨v, h1, h2⟩ := hV d (hliv d hd hn); simp only [h1, Option.getD_some]; exact h2)
        (fun d hd d' hd' hn hn' hO hO' hne b hb hb' => by
          obtain ⟨v, h1, _⟩ := hV d (hliv d hd hn)
          obtain ⟨v', h1', _⟩ := hV d' (hliv d' hd' hn')
          simp only [h1, h1', Option.getD_some] at hb hb'
          exact hD d d' (hliv d hd hn) (hliv d' hd' hn') hO hO' hne b (by rw [h1]; exact hb) (by rw [h1']; exact hb')) hB
      have ea : a' = putR a (ds.map fun d => (d, (a'.tmps[d]?).getD undef)) := by
        refine act_eq (Array.ext_getElem? fun d => ?_) (by rw [putR_defers]; exact hF.defers)
        by_cases hdl : d < a.tmps.size
        · rw [putR_get (fun d => (a'.tmps[d]?).getD undef) d ds a hdl]
          by_cases hd : d ∈ ds
          · rw [if_pos hd]
            obtain ⟨v, h1⟩ := hsome d hd
            simp [h1]
          · rw [if_neg hd]
            refine hF.out d fun i o ho hd' => hd ?_
            rw [← hds]
            exact List.mem_filterMap.2 ⟨o, List.mem_of_getElem? ho, hd'⟩
        · rw [Array.getElem?_eq_none (by rw [hF.size]; omega), Array.getElem?_eq_none (by rw [putR_size]; omega)]
      rw [← ea] at hfr
      show wpList P (h ++ l.drop n).toArray Q (l.drop n) a' w'
      rw [e]
      exact hfr)
    h.length (Array.replicate h.length false) a { w with drawn := w.drawn + 1 } (by simp) (by simp [open_])
    ⟨⟨rfl, rfl, fun _ _ => rfl⟩, hw.drew, fun d hL => by
      exfalso
      obtain ⟨⟨i, o, _, hon, _⟩, _⟩ := hL
      rw [Array.getD_eq_getD_getElem?, Array.getElem?_replicate] at hon
      split at hon <;> simp at hon, fun d d' hL => by
      exfalso
      obtain ⟨⟨i, o, _, hon, _⟩, _⟩ := hL
      rw [Array.getD_eq_getD_getElem?, Array.getElem?_replicate] at hon
      split at hon <;> simp at hon⟩
  have h3 := lift_under (Q := Q) hE hG hT (by rw [e]; exact hS) h.length (Array.replicate h.length false) a _ (by simp) (by simp [open_]) (closed_none _) main
  rw [e] at h3
  have e1 : l.toArray.size = h.length + (l.drop n).length := by rw [← List.length_append, e]; simp
  rw [e1, show Array.replicate (h.length + (l.drop n).length) false = Array.replicate h.length false ++ Array.replicate (l.drop n).length false by simp]
  exact h3
theorem region_ownNL {P : Program} {Q : Exit → Act → World → Prop} {id : Nat} {a : Act} {w : World} (W0 : World) (n : Nat) {l : List Oper} (vals : List (Nat × Value)) (L : List (Nat × (Value → World → Prop))) (O : List Nat) (E : List (Nat × Nat)) (hm : P.follows .mixedOrders = true)
    (hE : edgesIn (l.take n) = true) (hG : guardsIn (l.take n) = true) (hA : dstsApart (l.take n) 0 = true) (hI : dstsIn (l.take n) a.tmps.size = true) (hT : tailUnder (l.take n) (l.drop n) = true)
    (hS : Region.seqB .any l.toArray (l.drop n).length (l.take n).length (Array.replicate (l.take n).length true ++ Array.replicate (l.drop n).length false) = true)
    (hv : (vals.all fun p => (dstsOf (l.take n)).contains p.1) = true) (hsp : ((L.map (·.1)).all fun d => (dstsOf (l.take n)).contains d) = true) (hO : (O.all fun d => (L.map (·.1)).contains d) = true)
    (hEw : (E.all fun q => O.contains q.2 && match (l.take n)[q.1]? with | some o => waitsFor (l.take n) o q.2 | none => false) = true) (hEn : apartB (E.map (·.2)) = true)
    (hst1 : ∀ q ∈ L, O.contains q.1 = false → ∀ (v : Value) (w w' : World), q.2 v w → Below W0.heap.size W0 w → Below W0.heap.size w w' → (E = [] → Below w.heap.size w w') → q.2 v w')
    (hst2 : ∀ q ∈ L, O.contains q.1 = true → ∀ (v : Value) (w w' : World) (row : Option Nat), q.2 v w → w.grownBy w' row → (blkOf v = none ∨ blkOf v ≠ row) → (∀ b, blkOf v = some b → b < w.heap.size) → q.2 v w') (hw : Below W0.heap.size W0 w)
    (hok : Full (l.take n) a (putR a vals) (specOf L) (L.map (·.1)) → OwnAll P (l.take n) a W0 (relR (putR a vals) (specOf L)) O E 0 (l.take n))
    (hfin : ∀ (f : Nat → Value) w', (∀ d p, specOf L d = some p → (E.map (·.2)).contains d = false → p (f d) w' ∧ (O.contains d = true → ∀ b, blkOf (f d) = some b → W0.heap.size ≤ b ∧ b < w'.heap.size)) →
      (∀ d d', O.contains d = true → O.contains d' = true → (E.map (·.2)).contains d = false → (E.map (·.2)).contains d' = false → d ≠ d' → ∀ b, blkOf (f d) = some b → blkOf (f d') ≠ some b) → Below W0.heap.size W0 w' →
      wpList P l.toArray Q (l.drop n) (putR (putR a vals) ((L.map (·.1)).map fun d => (d, f d))) w') : (Code.region id l.toArray true).wp P Q a w := by
  have hfull : Full (l.take n) a (putR a vals) (specOf L) (L.map (·.1)) := full_put vals hv (specOf_none L)
  have hOL : ∀ d, O.contains d = true → d ∈ L.map (·.1) := fun d hd => List.contains_iff_mem.1 (List.all_eq_true.1 hO d (List.contains_iff_mem.1 hd))
  have hEO : ∀ d, d ∈ E.map (·.2) → d ∈ L.map (·.1) := fun d hd => by
    obtain ⟨q, hq, rfl⟩ := List.mem_map.1 hd
    have := List.all_eq_true.1 hEw q hq
    simp only [Bool.and_eq_true] at this
    exact hOL _ this.1
  have hin : ∀ d, d ∈ L.map (·.1) → d ∈ dstsOf (l.take n) := fun d hd => List.contains_iff_mem.1 (List.all_eq_true.1 hsp d hd)
  have hnc : ∀ d, (E.map (·.2)).contains d = false → d ∉ E.map (·.2) := fun d h hm => by rw [List.contains_iff_mem.2 hm] at h; cases h
  refine region_ownN W0 n (relR (putR a vals) (specOf L)) O E _ hm hE hG hA hI hT hS hEw hEn rfl ?_ ?_ hw (hok hfull) ?_
  · intro d v w w' hd h1 h2 h3 h9
    unfold relR at *
    cases hs : specOf L d with
    | none => rw [hs] at h1; exact h1
    | some p =>
      rw [hs] at h1
      obtain ⟨q, hq, rfl, rfl⟩ := specOf_mem' L d p hs
      exact hst1 q hq hd v w w' h1 h2 h3 h9
  · intro d v w w' row hd h1 h2 h3 h4
    unfold relR at *
    cases hs : specOf L d with
    | none => rw [hs] at h1; exact h1
    | some p =>
      rw [hs] at h1
      obtain ⟨q, hq, rfl, rfl⟩ := specOf_mem' L d p hs
      exact hst2 q hq hd v w w' row h1 h2 h3 h4
  · intro f w' hf hD hb
    have e : putR a ((dstsOf (l.take n)).map fun d => (d, f d)) = putR (putR a vals) ((L.map (·.1)).map fun d => (d, f d)) := by
      refine act_eq (Array.ext_getElem? fun d => ?_) (by rw [putR_defers, putR_defers, putR_defers])
      rw [putR_get', putR_get', putR_size]
      by_cases hd : d < a.tmps.size
      · rw [if_pos hd, if_pos hd]
        by_cases h1 : d ∈ dstsOf (l.take n)
        · rw [if_pos h1]
          by_cases h2 : d ∈ L.map (·.1)
          · rw [if_pos h2]
          · rw [if_neg h2]
            have := (hf d h1 (fun h3 => h2 (hEO d h3))).1
            unfold relR at this
            rw [hfull.spec d h2] at this
            exact this.symm
        · rw [if_neg h1, if_neg (fun h2 => h1 (hin d h2))]
          refine (hfull.out d fun i o ho hdo => h1 ?_).symm
          exact List.mem_filterMap.2 ⟨o, List.mem_of_getElem? ho, hdo⟩
      · rw [if_neg hd, if_neg hd]
    rw [e]
    refine hfin f w' (fun d p hp hn => ?_) (fun d d' h1 h2 h3 h4 h5 => hD d (hin d (hOL d h1)) d' (hin d' (hOL d' h2)) (hnc d h3) (hnc d' h4) h1 h2 h5) hb
    by_cases hd : d ∈ L.map (·.1)
    · have := hf d (hin d hd) (hnc d hn)
      unfold relR at this
      rw [hp] at this
      exact this
    · rw [specOf_none L d hd] at hp
      cases hp

section
variable {P : Program} {h : List Oper} {A0 A : Act} {W0 : World} {S : Nat → Option (Value → World → Prop)} {sp O : List Nat} {E : List (Nat × Nat)} {i : Nat} {o : Oper}
/-- What is made of one slot alone. -/
theorem ow_pure (hw : Wants h A0 A S O E W0.heap.size i o) (d s : Nat) (hd : o.dst = some d) (p q : Value → World → Prop) (hps : S s = some p) (hpd : S d = some q) (hws : waitsFor h o s = true) (hE : (E.all fun q => q.2 != s || q.1 == i) = true) (hO : O.contains d = false)
    (hrun : ∀ (a : Act) (w : World), p (a.eval (.tmp s)) w → ∃ v, (execOp a.eval o).run P w = .ok (.value v) w ∧ q v w) : OwnOk P h A0 W0 (relR A S) O E i o :=
  ow_run hw d hd fun a w hF hB hgot => by
    obtain ⟨v, h1, h2⟩ := hrun a w (gotE_spec hgot p hws hE hps).1
    exact ⟨v, w, none, h1, rel_spec q hpd h2, grown_none (Below.refl _ _), fun b hb => (by cases hb), fun h3 => by rw [hO] at h3; cases h3⟩
/-- A known value made of one slot alone. -/
theorem ow_pureD (hA : Full h A0 A S sp) (hw : Wants h A0 A S O E W0.heap.size i o) (d s : Nat) (hd : o.dst = some d) (p : Value → World → Prop) (v : Value) (hps : S s = some p) (hds : sp.contains d = false) (hv : A.tmps[d]? = some v) (hws : waitsFor h o s = true) (hE : (E.all fun q => q.2 != s || q.1 == i) = true) (hO : O.contains d = false)
    (hrun : ∀ (a : Act) (w : World), p (a.eval (.tmp s)) w → (execOp a.eval o).run P w = .ok (.value v) w) : OwnOk P h A0 W0 (relR A S) O E i o :=
  ow_run hw d hd fun a w hF hB hgot => by
    have h1 := hrun a w (gotE_spec hgot p hws hE hps).1
    exact ⟨v, w, none, h1, rel_det hA hds hv, grown_none (Below.refl _ _), fun b hb => (by cases hb), fun h3 => by rw [hO] at h3; cases h3⟩
end
/-- A pair of bytes and a number. -/
def PairV (r : Int) (U : List Nat) : Value → World → Prop := fun v w => ∃ u, v = .tuple #[u, .int .i64 r] ∧ BytesV u w U
theorem PairV.under {r : Int} {U : List Nat} {v : Value} {w w' : World} (h : PairV r U v w) (hb : Below w.heap.size w w') : PairV r U v w' := by
  obtain ⟨u, h1, h2⟩ := h
  exact ⟨u, h1, h2.under hb⟩
def BytesS (U : List Nat) : Value → World → Prop := fun v w => BytesV v w U
theorem mv_pair {r : Int} {U : List Nat} {o : Oper} {a : Act} {s : Nat} {w : World} (ho : o.op = .move (.tmp s)) (h : PairV r U (a.eval (.tmp s)) w) : ∃ v, (execOp a.eval o).run Try.prog w = .ok (.value v) w ∧ PairV r U v w := by
  refine ⟨_, ?_, h⟩
  unfold execOp
  simp only [ho]
  simp [go_sem]
theorem ex_fst {r : Int} {U : List Nat} {o : Oper} {a : Act} {s : Nat} {w : World} (ho : o.op = .extract (.tmp s) 0) (h : PairV r U (a.eval (.tmp s)) w) : ∃ v, (execOp a.eval o).run Try.prog w = .ok (.value v) w ∧ BytesS U v w := by
  obtain ⟨u, h1, h2⟩ := h
  refine ⟨u, ?_, h2⟩
  unfold execOp
  simp only [ho, h1]
  simp [go_sem]
theorem ex_snd {r : Int} {U : List Nat} {o : Oper} {a : Act} {s : Nat} {w : World} (ho : o.op = .extract (.tmp s) 1) (h : PairV r U (a.eval (.tmp s)) w) : (execOp a.eval o).run Try.prog w = .ok (.value (.int .i64 r)) w := by
  obtain ⟨u, h1, h2⟩ := h
  unfold execOp
  simp only [ho, h1]
  simp [go_sem]
theorem as_bytes {U : List Nat} {o : Oper} {a : Act} {s : Nat} {w : World} (ho : o.op = .assign (.tmp s)) (h : BytesS U (a.eval (.tmp s)) w) : ∃ v, (execOp a.eval o).run Try.prog w = .ok (.value v) w ∧ BytesS U v w := by
  refine ⟨_, ?_, h⟩
  unfold execOp
  simp only [ho]
  simp [go_sem]
end Go.Proofs.Ytfkpbmkhkhnehaa.sh
/-
  StreamEnd: behind the last count there is no block more; more bytes than may be are refused.
-/
namespace Go.Proofs.Ytfkpbmkhkhnehaa.sh
open Go Go.RowKit
set_option linter.unusedVariables false
set_option linter.unusedSimpArgs false

theorem run_rem8c {o : Oper} {a : Act} {x : Operand} {i z : Nat} (ho : o.op = .binOp .rem 5 x (.const (.int .u8 4)) 5) (hx : a.eval x = .int .u8 (i : Int)) (hz : z = i % 4) (hi : i < 256) (w : World) : (execOp a.eval o).run Try.prog w = .ok (.value (.int .u8 (z : Int))) w := by
  have e3 : a.eval (.const (.int .u8 4)) = .int .u8 4 := rfl
  have h3 : (i : Int).tmod 4 = (z : Int) := by rw [hz, Int.tmod_eq_emod_of_nonneg (by omega)]; omega
  unfold execOp
  simp only [ho, hx, e3]
  simp [go_sem, h3]
theorem run_c864 {o : Oper} {a : Act} {x : Operand} {z : Nat} (ho : o.op = .convert 5 39 x) (hx : a.eval x = .int .u8 (z : Int)) (hz : z < 256) (w : World) : (execOp a.eval o).run Try.prog w = .ok (.value (.int .u64 (z : Int))) w := by
  unfold execOp
  simp only [ho, hx]
  simp [go_sem, IntKind.wrap_u64]
  omega
theorem run_c6432 {o : Oper} {a : Act} {x : Operand} {z : Nat} (ho : o.op = .convert 39 84 x) (hx : a.eval x = .int .u64 (z : Int)) (hz : z < 4294967296) (w : World) : (execOp a.eval o).run Try.prog w = .ok (.value (.int .u32 (z : Int))) w := by
  unfold execOp
  simp only [ho, hx]
  simp [go_sem, IntKind.wrap_u32']
  omega
theorem run_subL {o : Oper} {a : Act} {x : Operand} {i z : Nat} (ho : o.op = .binOp .sub 39 (.const (.int .u64 4294967295)) x 39) (hx : a.eval x = .int .u64 (i : Int)) (hz : z + i = 4294967295) (w : World) : (execOp a.eval o).run Try.prog w = .ok (.value (.int .u64 (z : Int))) w := by
  have e3 : a.eval (.const (.int .u64 4294967295)) = .int .u64 4294967295 := rfl
  unfold execOp
  simp only [ho, hx, e3]
  simp [go_sem, IntKind.wrap_u64]
  omega
theorem run_leqI {o : Oper} {a : Act} {x y : Operand} {m n : Nat} {b : Bool} (ho : o.op = .binOp .leq 3 x y 3) (hx : a.eval x = .int .i64 (m : Int)) (hy : a.eval y = .int .i64 (n : Int)) (hb : b = decide (m ≤ n)) (w : World) : (execOp a.eval o).run Try.prog w = .ok (.value (.bool b)) w := by
  unfold execOp
  simp only [ho, hx, hy]
  simp [go_sem, hb]
theorem nat_of_u8 {y : Int} (h : (Lit.int .u8 y).wf = true) : ∃ a : Nat, y = (a : Int) ∧ a < 256 := by
  have := bounds_u8 h
  exact ⟨y.toNat, by omega, by omega⟩
theorem nat_of_u16 {y : Int} (h : (Lit.int .u16 y).wf = true) : ∃ a : Nat, y = (a : Int) ∧ a < 65536 := by
  have := bounds_u16 h
  exact ⟨y.toNat, by omega, by omega⟩
theorem make_new {B : Nat} {o : Oper} {a : Act} (c : Nat) (hc : c < 1000000) (ho : o.op = .makeSlice 46 (.const (.int .i64 (c : Int))) (.const (.int .i64 (c : Int)))) (w : World) (hB : B ≤ w.heap.size) : ∃ v w', (execOp a.eval o).run Try.prog w = .ok (.value v) w' ∧ Row B 5 .u8 (List.replicate c 0) v w' ∧ Below w.heap.size w w' ∧ ∀ b, blkOf v = some b → w.heap.size ≤ b ∧ b < w'.heap.size := by
  refine ⟨.slice (some ⟨w.heap.size, 0, none⟩) c c, w.alloc (.cells (ints .u8 (List.replicate c 0)) 5), ?_, blk_row (blk_new _ _ _) (by rw [List.length_replicate]) hB (by unfold maxLen; omega), (Below.refl _ _).alloc (Nat.le_refl _) _, fun b hb => ?_⟩
  · have e3 : a.eval (.const (.int .i64 (c : Int))) = .int .i64 (c : Int) := rfl
    unfold execOp
    simp only [ho, e3]
    simp [run_make8 c hc .i64 w]
  · cases hb
    exact ⟨Nat.le_refl _, by simp⟩
end Go.Proofs.Ytfkpbmkhkhnehaa.sh
/-
  StreamBlocks: bytes are turned by blocks that are told one by one.
-/
namespace Go.Proofs.Ytfkpbmkhkhnehaa.sh
open Go Go.RowKit
set_option linter.unusedVariables false
set_option linter.unusedSimpArgs false

theorem run_neq8 {o : Oper} {a : Act} {x y : Operand} {m : Nat} (ho : o.op = .binOp .neq 5 x y 5) (hx : a.eval x = .int .u8 (m : Int)) (hy : a.eval y = .int .u8 (m : Int)) (w : World) : (execOp a.eval o).run Try.prog w = .ok (.value (.bool false)) w := by
  unfold execOp
  simp only [ho, hx, hy]
  simp [go_sem]
theorem bytes_at {p : Option Addr} {n c : Nat} {w : World} {bs : List Nat} (h : BytesV (.slice p n c) w bs) {i x : Nat} (hx : bs[i]? = some x) : ∃ A, p = some A ∧ A.block < w.heap.size ∧ w.cell? (A.add i) = some (.int .u8 (x : Int)) := by
  obtain ⟨p', c', e1, _, e3⟩ := h
  cases e1
  obtain ⟨A, e4, e6, e5⟩ := e3 (by intro e; rw [e] at hx; cases hx)
  exact ⟨A, e4, e6, e5 i x hx⟩
theorem bytes_cell {A : Addr} {n c : Nat} {w : World} {bs : List Nat} (h : BytesV (.slice (some A) n c) w bs) {i x : Nat} (hx : bs[i]? = some x) : w.cell? (A.add i) = some (.int .u8 (x : Int)) := by
  obtain ⟨A', e1, _, e2⟩ := bytes_at h hx
  cases e1
  exact e2
end Go.Proofs.Ytfkpbmkhkhnehaa.sh
/-
  The reference: a word turned, a word of bytes, a quarter.
-/
namespace Go.Proofs.Ytfkpbmkhkhnehaa.sh
open Go Go.RowKit
set_option linter.unusedVariables false
set_option linter.unusedSimpArgs false

theorem run_mul32c {o : Oper} {a : Act} {x : Operand} {m z : Nat} (ho : o.op = .binOp .mul 84 x (.const (.int .u32 2)) 84) (hx : a.eval x = .int .u32 (m : Int)) (hz : z = m * 2 % 4294967296) (w : World) : (execOp a.eval o).run Try.prog w = .ok (.value (.int .u32 (z : Int))) w := by
  have e3 : a.eval (.const (.int .u32 2)) = .int .u32 2 := rfl
  unfold execOp
  simp only [ho, hx, e3]
  simp [go_sem, IntKind.wrap_u32']
  omega
theorem run_quo32c {o : Oper} {a : Act} {x : Operand} {m z : Nat} (c : Nat) (ho : o.op = .binOp .quo 84 x (.const (.int .u32 (c : Int))) 84) (hx : a.eval x = .int .u32 (m : Int)) (hc : 0 < c) (hm : m < 4294967296) (hz : z = m / c) (w : World) : (execOp a.eval o).run Try.prog w = .ok (.value (.int .u32 (z : Int))) w := by
  have e3 : a.eval (.const (.int .u32 (c : Int))) = .int .u32 (c : Int) := rfl
  have h3 : (m : Int).tdiv (c : Int) = (z : Int) := by rw [hz, Int.tdiv_eq_ediv_of_nonneg (by omega)]; rfl
  have h0 : ¬ (c : Int) = 0 := by omega
  have hz' : z < 4294967296 := by rw [hz]; exact Nat.lt_of_le_of_lt (Nat.div_le_self _ _) hm
  unfold execOp
  simp only [ho, hx, e3]
  simp [go_sem, h0, IntKind.wrap_u32']
  have h4 : (m : Int) / (c : Int) = (z : Int) := by rw [hz]; rfl
  rw [if_neg (by omega), h4, show ((z : Int) % 4294967296) = (z : Int) by omega]
theorem run_mulc32 {o : Oper} {a : Act} {x : Operand} {m z : Nat} (c : Nat) (ho : o.op = .binOp .mul 84 (.const (.int .u32 (c : Int))) x 84) (hx : a.eval x = .int .u32 (m : Int)) (hz : z = c * m % 4294967296) (w : World) : (execOp a.eval o).run Try.prog w = .ok (.value (.int .u32 (z : Int))) w := by
  have e3 : a.eval (.const (.int .u32 (c : Int))) = .int .u32 (c : Int) := rfl
  have h3 : ((c : Int) * (m : Int)) % 4294967296 = (z : Int) := by rw [hz, Int.natCast_emod, Int.natCast_mul]; rfl
  unfold execOp
  simp only [ho, hx, e3]
  simp [go_sem, IntKind.wrap_u32', h3]
theorem cell_at {k : IntKind} {A : Addr} {n c : Nat} {w : World} {l : List Nat} (h : IntsV k (.slice (some A) n c) w l) {i x : Nat} (hx : l[i]? = some x) : w.cell? (A.add i) = some (.int k (x : Int)) := by
  obtain ⟨p', c', e1, _, e3⟩ := h
  cases e1
  obtain ⟨A', e4, _, e5⟩ := e3 (by intro e; rw [e] at hx; cases hx)
  cases e4
  exact e5 i x hx
theorem IntsV.under' {k : IntKind} {A : Addr} {n c : Nat} {w w' : World} {l : List Nat} (h : IntsV k (.slice (some A) n c) w l) (hl : l ≠ []) (hb : Below w.heap.size w w') : IntsV k (.slice (some A) n c) w' l := by
  refine h.below (fun b hb' => ?_) hb
  obtain ⟨p', c', e1, _, e3⟩ := h
  cases e1
  obtain ⟨A', e4, e5, _⟩ := e3 hl
  cases e4
  cases hb'
  exact e5
theorem row_emp32 {base : Nat} (w : World) (hb : base ≤ w.heap.size) : Row base 84 .u32 [] (.slice (some ⟨w.heap.size, 0, none⟩) 0 0) (w.alloc (.cells #[] 84)) := World.ownsRow_lit w #[] 0 hb (by unfold maxLen; omega) rfl
theorem run_idx0 {o : Oper} {a : Act} {x y : Operand} {i l c g : Nat} {t e : TypeId} (ho : o.op = .indexAddr t x y) (hx : a.eval x = .slice (some ⟨g, 0, none⟩) l c) (hy : a.eval y = .int .i64 (i : Int)) (ht : Try.prog.underlying t = some (.slice e)) (hi : i < l) (sz : ∀ w, (sizeOf e).run Try.prog w = .ok 1 w) (w : World) : (execOp a.eval o).run Try.prog w = .ok (.value (.pointer (some ⟨g, i, none⟩))) w := by
  have h := run_idxS ho hx hy ht hi sz w
  rw [addr_add, Nat.zero_add] at h
  exact h
end Go.Proofs.Ytfkpbmkhkhnehaa.sh
/-
  What the small functions of package limb do: products of words, sums of four words, eight bytes as a word.
-/
namespace Go.Proofs.Ytfkpbmkhkhnehaa
open Go.RowKit

def sub64Entry : Array Value → Sem Value := fun args => do
  let (x, y, b) ← Extern.MathBitsCarry.three "Sub64" args
  pure (Extern.MathBitsCarry.pair ((x + Extern.MathBitsCarry.m64 - y - b) % Extern.MathBitsCarry.m64) (if x < y + b then 1 else 0))

end Go.Proofs.Ytfkpbmkhkhnehaa
/-
  Plain arithmetic of digits of base 256: values of rows, carries, folding, borrowing. Nothing of the program is named here.
-/
namespace Go.Proofs.Ytfkpbmkhkhnehaa

/-- A fact set aside, that no unifier looks into. -/
structure Kept (p : Prop) : Prop where
  out : p

/-- The number of a row of digits, the lowest first. -/
def val : List Nat → Nat
  | [] => 0
  | d :: r => d + 256 * val r

theorem val_split (l : List Nat) : ∀ k, val l = val (l.take k) + 256 ^ k * val (l.drop k) := by
  induction l with
  | nil => intro k; simp [val]
  | cons d r ih =>
    intro k
    cases k with
    | zero => simp [val]
    | succ k =>
      have h := ih k
      simp only [List.take_succ_cons, List.drop_succ_cons, val]
      rw [h, Nat.pow_succ, Nat.mul_add, Nat.mul_comm (256 ^ k) 256, ← Nat.mul_assoc, Nat.add_assoc]

theorem val_take_succ (l : List Nat) : ∀ k, val (l.take (k + 1)) = val (l.take k) + l.getD k 0 * 256 ^ k := by
  induction l with
  | nil => intro k; simp [val]
  | cons d r ih =>
    intro k
    cases k with
    | zero => simp [val]
    | succ k =>
      have h := ih k
      simp only [List.take_succ_cons, val, List.getD_cons_succ]
      rw [h, Nat.pow_succ, Nat.mul_add, Nat.mul_comm (256 ^ k) 256, Nat.mul_left_comm, Nat.add_assoc]

theorem val_set (l : List Nat) (x : Nat) : ∀ k, k < l.length → val (l.set k (l.getD k 0 + x)) = val l + x * 256 ^ k := by
  induction l with
  | nil => intro k h; simp at h
  | cons d r ih =>
    intro k h
    cases k with
    | zero => simp [val]; omega
    | succ k =>
      have h2 := ih k (by simpa using h)
      simp only [List.set_cons_succ, val, List.getD_cons_succ]
      rw [h2, Nat.pow_succ, Nat.mul_add, Nat.mul_comm (256 ^ k) 256, Nat.mul_left_comm, Nat.add_assoc]

/-- One round of carry. -/
theorem carry_step (l : List Nat) (k : Nat) :
    (val (l.take k) / 256 ^ k + l.getD k 0) % 256 = val l / 256 ^ k % 256 ∧ (val (l.take k) / 256 ^ k + l.getD k 0) / 256 = val (l.take (k + 1)) / 256 ^ (k + 1) := by
  have h1 := val_take_succ l k
  have h2 := val_split l (k + 1)
  have hp : 0 < 256 ^ k := Nat.pow_pos (by decide)
  have e1 : val (l.take (k + 1)) / 256 ^ k = val (l.take k) / 256 ^ k + l.getD k 0 := by rw [h1, Nat.add_mul_div_right _ _ hp]
  constructor
  · rw [h2, Nat.pow_succ, Nat.mul_assoc, Nat.add_mul_div_left _ _ hp, e1]
    omega
  · rw [← e1, Nat.pow_succ, Nat.div_div_eq_div_mul]

theorem getD_over (l : List Nat) (k : Nat) (h : l.length ≤ k) : l.getD k 0 = 0 := by simp [List.getD, h]

/-- A number's first k digits make it up, modulo 256^k. -/
theorem mod_succ (V k : Nat) : V % 256 ^ (k + 1) = V % 256 ^ k + V / 256 ^ k % 256 * 256 ^ k := by
  rw [Nat.pow_succ, Nat.mod_mul, Nat.mul_comm (256 ^ k)]

/-- What folding has gathered after i rounds. -/
def foldTo (V : Nat) : Nat → Nat
  | 0 => 0
  | i + 1 => foldTo V i + (if i < 32 then 1 else 38) * (V / 256 ^ i % 256) * 256 ^ (i % 32)

theorem foldTo_low (V : Nat) : ∀ i, i ≤ 32 → foldTo V i = V % 256 ^ i
  | 0, _ => by simp [foldTo, Nat.mod_one]
  | i + 1, h => by
    rw [foldTo, foldTo_low V i (by omega), mod_succ, if_pos (by omega), Nat.mod_eq_of_lt (show i < 32 by omega), Nat.one_mul]

theorem foldTo_mid (V : Nat) : ∀ j, j ≤ 32 → foldTo V (32 + j) = V % 256 ^ 32 + 38 * (V / 256 ^ 32 % 256 ^ j)
  | 0, _ => by rw [Nat.add_zero, foldTo_low V 32 (by omega)]; simp [Nat.mod_one]
  | j + 1, h => by
    rw [← Nat.add_assoc, foldTo, foldTo_mid V j (by omega), mod_succ (V / 256 ^ 32) j, if_neg (by omega), show (32 + j) % 32 = j from by omega, Nat.pow_add, ← Nat.div_div_eq_div_mul, Nat.mul_add, Nat.mul_assoc 38, Nat.add_assoc]

theorem foldTo_high (V : Nat) (hV : V < 256 ^ 64) : ∀ j, foldTo V (64 + j) = V % 256 ^ 32 + 38 * (V / 256 ^ 32)
  | 0 => by
    have h := foldTo_mid V 32 (by omega)
    rw [show 32 + 32 = 64 + 0 from rfl] at h
    rw [h, Nat.mod_eq_of_lt (show V / 256 ^ 32 < 256 ^ 32 from by
      rw [Nat.div_lt_iff_lt_mul (Nat.pow_pos (by decide)), ← Nat.pow_add]; exact hV)]
  | j + 1 => by
    have h0 : V / 256 ^ (64 + j) = 0 := Nat.div_eq_of_lt (Nat.lt_of_lt_of_le hV (Nat.pow_le_pow_right (by decide) (by omega)))
    rw [← Nat.add_assoc, foldTo, foldTo_high V hV j, h0]
    simp

/-- What folding comes to: 2^256 counts 38 times. -/
theorem foldTo_all (V m : Nat) (hV : V < 256 ^ 64) (hm : V < 256 ^ m) (h32 : 32 ≤ m) : foldTo V m = V % 256 ^ 32 + 38 * (V / 256 ^ 32) := by
  by_cases h : m ≤ 64
  · obtain ⟨j, rfl⟩ : ∃ j, m = 32 + j := ⟨m - 32, by omega⟩
    rw [foldTo_mid V j (by omega), Nat.mod_eq_of_lt (show V / 256 ^ 32 < 256 ^ j from by
      rw [Nat.div_lt_iff_lt_mul (Nat.pow_pos (by decide)), ← Nat.pow_add, Nat.add_comm]; exact hm)]
  · obtain ⟨j, rfl⟩ : ∃ j, m = 64 + j := ⟨m - 64, by omega⟩
    exact foldTo_high V hV j

theorem fold_mod (V : Nat) : (V % 256 ^ 32 + 38 * (V / 256 ^ 32)) % 57896044618658097711785492504343953926634992332820282019728792003956564819949 = V % 57896044618658097711785492504343953926634992332820282019728792003956564819949 := by
  have e : (256 : Nat) ^ 32 = 115792089237316195423570985008687907853269984665640564039457584007913129639936 := by decide
  rw [e]
  omega
theorem fold_less (V : Nat) (h : 256 ^ 32 ≤ V) : V % 256 ^ 32 + 38 * (V / 256 ^ 32) < V := by
  have e : (256 : Nat) ^ 32 = 115792089237316195423570985008687907853269984665640564039457584007913129639936 := by decide
  rw [e] at *
  omega
theorem fold_bound (V : Nat) (h : V < 256 ^ 64) : V % 256 ^ 32 + 38 * (V / 256 ^ 32) < 256 ^ 64 := by
  by_cases h2 : 256 ^ 32 ≤ V
  · exact Nat.lt_trans (fold_less V h2) h
  · rw [Nat.div_eq_of_lt (by omega), Nat.mod_eq_of_lt (by omega)]
    simpa using h

/-- No digit above the 32nd: all of the number is below 2^256. -/
theorem high_none (V m : Nat) (hm : V < 256 ^ m) (h32 : 32 ≤ m) (h : ∀ i, 32 ≤ i → i < m → V / 256 ^ i % 256 = 0) : V < 256 ^ 32 := by
  have : ∀ j, j ≤ m - 32 → V % 256 ^ (32 + j) = V % 256 ^ 32 := by
    intro j
    induction j with
    | zero => intro _; rfl
    | succ j ih => intro hj; rw [← Nat.add_assoc, mod_succ, h (32 + j) (by omega) (by omega), ih (by omega)]; simp
  have h2 := this (m - 32) (by omega)
  rw [show 32 + (m - 32) = m from by omega, Nat.mod_eq_of_lt hm] at h2
  rw [h2]
  exact Nat.mod_lt _ (Nat.pow_pos (by decide))
theorem high_some (V i : Nat) (hi : 32 ≤ i) (h : V / 256 ^ i % 256 ≠ 0) : 256 ^ 32 ≤ V := by
  refine Nat.le_of_not_lt fun h2 => h ?_
  rw [Nat.div_eq_of_lt (Nat.lt_of_lt_of_le h2 (Nat.pow_le_pow_right (by decide) hi))]

/-- Comparing from the highest digit down. -/
theorem cmp_same (x y i : Nat) (h : x / 256 ^ (i + 1) = y / 256 ^ (i + 1)) (hd : x / 256 ^ i % 256 = y / 256 ^ i % 256) : x / 256 ^ i = y / 256 ^ i := by
  rw [Nat.pow_succ, ← Nat.div_div_eq_div_mul, ← Nat.div_div_eq_div_mul] at h
  omega
theorem cmp_other (x y i : Nat) (h : x / 256 ^ (i + 1) = y / 256 ^ (i + 1)) (hd : x / 256 ^ i % 256 ≠ y / 256 ^ i % 256) : (x / 256 ^ i % 256 < y / 256 ^ i % 256 ↔ x < y) := by
  rw [Nat.pow_succ, ← Nat.div_div_eq_div_mul, ← Nat.div_div_eq_div_mul] at h
  have hp : 0 < 256 ^ i := Nat.pow_pos (by decide)
  constructor
  · intro h2
    have h3 : x / 256 ^ i < y / 256 ^ i := by omega
    refine Nat.lt_of_not_le fun h4 => ?_
    have := Nat.div_le_div_right (c := 256 ^ i) h4
    omega
  · intro h2
    have := Nat.div_le_div_right (c := 256 ^ i) (Nat.le_of_lt h2)
    omega

/-- Taking off y from x, digit by digit. -/
def bor (x y i : Nat) : Nat := if x % 256 ^ i < y % 256 ^ i then 1 else 0
theorem bor_zero (x y : Nat) : bor x y 0 = 0 := by simp [bor, Nat.mod_one]
theorem bor_le (x y i : Nat) : bor x y i ≤ 1 := by unfold bor; split <;> omega
theorem bor_step (x y i : Nat) (h : y ≤ x) :
    (x / 256 ^ i % 256 < y / 256 ^ i % 256 + bor x y i → (x - y) / 256 ^ i % 256 + y / 256 ^ i % 256 + bor x y i = x / 256 ^ i % 256 + 256 ∧ bor x y (i + 1) = 1) ∧
    (¬ x / 256 ^ i % 256 < y / 256 ^ i % 256 + bor x y i → (x - y) / 256 ^ i % 256 + y / 256 ^ i % 256 + bor x y i = x / 256 ^ i % 256 ∧ bor x y (i + 1) = 0) := by
  have hp : 0 < 256 ^ i := Nat.pow_pos (by decide)
  have ex := Nat.div_add_mod x (256 ^ i)
  have ey := Nat.div_add_mod y (256 ^ i)
  have rx := Nat.mod_lt x hp
  have ry := Nat.mod_lt y hp
  have mx := mod_succ x i
  have my := mod_succ y i
  unfold bor
  rw [mx, my]
  have hle := Nat.div_le_div_right (c := 256 ^ i) h
  generalize hB : 256 ^ i = B at *
  generalize x / B = xq at *
  generalize y / B = yq at *
  generalize x % B = xr at *
  generalize y % B = yr at *
  have hdiv : (x - y) / B = if xr < yr then xq - yq - 1 else xq - yq := by
    split
    · rename_i hlt
      have hlt2 : yq < xq := by
        refine Nat.lt_of_le_of_ne hle fun e => ?_
        subst e
        omega
      have e : x - y = (B + xr - yr) + B * (xq - yq - 1) := by
        have : B * xq = B * yq + B * (xq - yq - 1) + B := by
          rw [← Nat.mul_add, ← Nat.mul_add_one]; congr 1; omega
        omega
      rw [e, Nat.add_mul_div_left _ _ hp, Nat.div_eq_of_lt (by omega)]
      omega
    · have e : x - y = (xr - yr) + B * (xq - yq) := by
        have : B * xq = B * yq + B * (xq - yq) := by rw [← Nat.mul_add]; congr 1; omega
        omega
      rw [e, Nat.add_mul_div_left _ _ hp, Nat.div_eq_of_lt (by omega)]
      omega
  have strict : xr < yr → yq < xq := fun hlt => Nat.lt_of_le_of_ne hle fun e => by subst e; omega
  rw [hdiv]
  have key : ∀ a b : Nat, a < b → a * B + B ≤ b * B := fun a b hab => by
    have := Nat.mul_le_mul_right B hab
    rw [Nat.succ_mul] at this; exact this
  clear hdiv ex ey mx my h
  by_cases hlt : xr < yr
  · have st := strict hlt
    simp only [if_pos hlt]
    constructor
    · intro hc
      refine ⟨by clear key rx ry; omega, if_pos ?_⟩
      by_cases e : xq % 256 = yq % 256
      · rw [e]; omega
      · have := key (xq % 256) (yq % 256) (by omega); omega
    · intro hc
      refine ⟨by clear key rx ry; omega, if_neg ?_⟩
      have := key (yq % 256) (xq % 256) (by omega); omega
  · simp only [if_neg hlt]
    constructor
    · intro hc
      refine ⟨by clear key rx ry; omega, if_pos ?_⟩
      have := key (xq % 256) (yq % 256) (by omega); omega
    · intro hc
      refine ⟨by clear key rx ry; omega, if_neg ?_⟩
      by_cases e : xq % 256 = yq % 256
      · rw [e]; omega
      · have := key (yq % 256) (xq % 256) (by omega); omega

/-- The digits of p are those of p. -/
def primeL : List Nat := 237 :: (List.replicate 30 255 ++ [127])
theorem primeL_at : ∀ i, i < 32 → primeL.getD i 0 = 57896044618658097711785492504343953926634992332820282019728792003956564819949 / 256 ^ i % 256 := by decide +kernel
theorem primeL_len : primeL.length = 32 := rfl
end Go.Proofs.Ytfkpbmkhkhnehaa
/-
  What the small functions of the reference package of layer 1 do: the digits of a number, the digits of p.
-/
namespace Go.Proofs.Ytfkpbmkhkhnehaa
open Go.RowKit
set_option linter.unusedSimpArgs false
set_option linter.unusedVariables false

theorem info3 : (Try.prog.info? 3).map (fun i => (i.zero, i.size, i.bytes)) = some (some (.int .i64 0), 1, 8) := by kernel_rfl

/-- A row of ints. -/
def irow (l : List Nat) : List Value := l.map fun d : Nat => Value.int .i64 (d : Int)
theorem irow_snoc (l : List Nat) (d : Nat) : irow (l ++ [d]) = irow l ++ [.int .i64 (d : Int)] := by simp [irow]
theorem irow_len (l : List Nat) : (irow l).length = l.length := by simp [irow]
theorem irow_get (l : List Nat) (i d : Nat) (h : l[i]? = some d) : (irow l)[i]? = some (.int .i64 (d : Int)) := by simp [irow, h]

/-- The first k digits of a number. -/
def digs (n k : Nat) : List Nat := (List.range k).map fun i => n / 256 ^ i % 256
theorem digs_succ (n k : Nat) : digs n (k + 1) = digs n k ++ [n / 256 ^ k % 256] := by simp [digs, List.range_succ]
theorem digs_len (n k : Nat) : (digs n k).length = k := by simp [digs]

theorem ownsRow_mono {w : World} {b b' : Nat} {e : TypeId} {s : Nat} {v : Value} {n : Nat} {xs : List Value} (h : w.ownsRow b e s v n xs) (hb : b' ≤ b) : w.ownsRow b' e s v n xs := by
  obtain ⟨h1, h2⟩ := h
  refine ⟨h1, ?_⟩
  rcases h2 with h | ⟨g, cap, cur, a, b, c⟩
  · exact .inl h
  · exact .inr ⟨g, cap, cur, a, Nat.le_trans hb b, c⟩

theorem cell_row {w : World} {g : Nat} {A : Array Value} {t : TypeId} {fr : Nat × Nat} {j : Nat} {v : Value} (hg : w.heap[g]? = some (.cells A t fr)) (hv : A[j]? = some v) : w.cell? ⟨g, j, none⟩ = some v := by
  simp [World.cell?, hg, hv]

theorem heap_new (w : World) (o : Obj) : (w.alloc o).heap[w.heap.size]? = some o := by
  show (w.heap.push o)[w.heap.size]? = some o
  simp

theorem grown_below {B : Nat} {w w' : World} {v : Value} {b : Nat} {e : TypeId} {s n : Nat} {xs : List Value} (hg : w.grownBy w' v.ownBlock) (ho : w.ownsRow b e s v n xs) (hb : B ≤ b) (hB : B ≤ w.heap.size) : Below B w w' :=
  (Below.refl _ _).grown hg hB (fun k hk => Nat.le_trans hb (ho.lt k hk).1)

/-- A block holds a row of ints at its head. -/
def Holds (w : World) (g : Nat) (l : List Nat) : Prop := g < w.heap.size ∧ ∀ j, j < l.length → w.cell? ⟨g, j, none⟩ = some (.int .i64 ((l.getD j 0 : Nat) : Int))
theorem Holds.below {w w' : World} {g B : Nat} {l : List Nat} (h : Holds w g l) (hb : Below B w w') (hB : g < B) : Holds w' g l :=
  ⟨Nat.lt_of_lt_of_le h.1 hb.size, fun j hj => (hb.cell (p := ⟨g, j, none⟩) hB).trans (h.2 j hj)⟩
theorem Holds.under {w w' : World} {g : Nat} {l : List Nat} (h : Holds w g l) (hb : Below w.heap.size w w') : Holds w' g l := h.below hb h.1
theorem owns_holds {w : World} {b n : Nat} {v : Value} {l : List Nat} (h : w.ownsRow b 3 1 v n (irow l)) (hn : 0 < n) : ∃ g cap, v = .slice (some ⟨g, 0, none⟩) n cap ∧ n ≤ cap ∧ cap ≤ maxLen ∧ b ≤ g ∧ l.length = n ∧ Holds w g l := by
  obtain ⟨h1, h2⟩ := h
  rw [irow_len] at h1
  rcases h2 with ⟨_, h⟩ | ⟨g, cap, cur, rfl, hb, hg, hc, hm, hs, ht⟩
  · omega
  · refine ⟨g, cap, rfl, hc, hm, hb, by omega, (Array.getElem?_eq_some_iff.1 hg).1, fun j hj => ?_⟩
    refine cell_row hg ?_
    have h3 : (cur.toList.take (n * 1))[j]? = (irow l)[j]? := by rw [ht]
    rw [List.getElem?_take_of_lt (by omega), Array.getElem?_toList] at h3
    rw [h3]
    refine irow_get l j _ ?_
    simp [List.getD, hj]

end Go.Proofs.Ytfkpbmkhkhnehaa
/-
  What the reference package's carry and high do: the same number in digits below 256; has it a digit above the 32nd.
-/
namespace Go.Proofs.Ytfkpbmkhkhnehaa
open Go.RowKit
set_option linter.unusedSimpArgs false
set_option linter.unusedVariables false

theorem late_bound {k c : Nat} (h : 64 ≤ k → c * 256 ^ (k - 64) ≤ 1099511627776) (hc : 0 < c) : k ≤ 69 := by
  refine Nat.le_of_not_lt fun h70 => ?_
  have h1 := h (by omega)
  have h2 : 256 ^ 6 ≤ 256 ^ (k - 64) := Nat.pow_le_pow_right (by decide) (by omega)
  have h3 : 1 * 256 ^ (k - 64) ≤ c * 256 ^ (k - 64) := Nat.mul_le_mul_right _ hc
  omega
theorem late_step {k c x : Nat} (h : 64 ≤ k → c * 256 ^ (k - 64) ≤ 1099511627776) (hc : c ≤ 1099511627776) (hx : x ≤ 1099511627776) (h0 : 64 ≤ k → x = 0) : 64 ≤ k + 1 → (c + x) / 256 * 256 ^ (k + 1 - 64) ≤ 1099511627776 := by
  intro hk
  by_cases e : k + 1 = 64
  · rw [e]; simp; omega
  · have h1 := h (by omega)
    rw [h0 (by omega), Nat.add_zero, show k + 1 - 64 = (k - 64) + 1 from by omega, Nat.pow_succ, Nat.mul_comm _ 256, ← Nat.mul_assoc]
    exact Nat.le_trans (Nat.mul_le_mul_right _ (Nat.div_mul_le_self c 256)) h1
theorem take_all_val (l : List Nat) (k : Nat) (h : l.length ≤ k) : l.take k = l := List.take_of_length_le h
theorem div_zero_lt {a b : Nat} (hb : 0 < b) (h : 0 = a / b) : a < b := by
  have := (Nat.div_eq_zero_iff (a := a) (b := b)).1 h.symm
  omega

end Go.Proofs.Ytfkpbmkhkhnehaa
/-
  Poly1305 as plain numbers: words of a number, a product modulo 2^130 - 5, the tag of bytes.
-/
namespace Go.Proofs.Ytfkpbmkhkhnehaa.sh
open Go Go.RowKit
set_option linter.unusedVariables false
set_option linter.unusedSimpArgs false

/-- The word i of a number. -/
def wd (N i : Nat) : Nat := N / 18446744073709551616 ^ i % 18446744073709551616
def nw (N : Nat) : List Nat := [wd N 0, wd N 1, wd N 2]
def nw2 (N : Nat) : List Nat := [wd N 0, wd N 1]
def nw4 (N : Nat) : List Nat := [wd N 0, wd N 1, wd N 2, wd N 3]
theorem wd_lt (N i : Nat) : wd N i < 18446744073709551616 := Nat.mod_lt _ (by decide)
theorem nw_len (N : Nat) : (nw N).length = 3 := rfl
theorem nw_get (N i : Nat) (h : i < 3) : (nw N)[i]? = some (wd N i) := by
  match i, h with
  | 0, _ => rfl
  | 1, _ => rfl
  | 2, _ => rfl
theorem wd0 (N : Nat) : wd N 0 = N % 18446744073709551616 := by simp [wd]
theorem wd1 (N : Nat) : wd N 1 = N / 18446744073709551616 % 18446744073709551616 := by simp [wd]
theorem wd2 (N : Nat) : wd N 2 = N / 340282366920938463463374607431768211456 % 18446744073709551616 := by simp [wd]
theorem wd3 (N : Nat) : wd N 3 = N / 6277101735386680763835789423207666416102355444464034512896 % 18446744073709551616 := by simp [wd]
theorem nw_of (z0 z1 z2 N : Nat) (h0 : z0 < 18446744073709551616) (h1 : z1 < 18446744073709551616) (h2 : z2 < 18446744073709551616) (h : z0 + 18446744073709551616 * z1 + 340282366920938463463374607431768211456 * z2 = N) : nw N = [z0, z1, z2] := by
  unfold nw
  rw [wd0, wd1, wd2]
  have e0 : N % 18446744073709551616 = z0 := by omega
  have e1 : N / 18446744073709551616 % 18446744073709551616 = z1 := by omega
  have e2 : N / 340282366920938463463374607431768211456 % 18446744073709551616 = z2 := by omega
  rw [e0, e1, e2]
theorem nw4_of (z0 z1 z2 z3 N : Nat) (h0 : z0 < 18446744073709551616) (h1 : z1 < 18446744073709551616) (h2 : z2 < 18446744073709551616) (h3 : z3 < 18446744073709551616) (h : z0 + 18446744073709551616 * z1 + 340282366920938463463374607431768211456 * z2 + 6277101735386680763835789423207666416102355444464034512896 * z3 = N) : nw4 N = [z0, z1, z2, z3] := by
  unfold nw4
  rw [wd0, wd1, wd2, wd3]
  have e0 : N % 18446744073709551616 = z0 := by omega
  have e1 : N / 18446744073709551616 % 18446744073709551616 = z1 := by omega
  have e2 : N / 340282366920938463463374607431768211456 % 18446744073709551616 = z2 := by omega
  have e3 : N / 6277101735386680763835789423207666416102355444464034512896 % 18446744073709551616 = z3 := by omega
  rw [e0, e1, e2, e3]
theorem nw_sum (N : Nat) (h : N < 6277101735386680763835789423207666416102355444464034512896) : wd N 0 + 18446744073709551616 * wd N 1 + 340282366920938463463374607431768211456 * wd N 2 = N := by
  rw [wd0, wd1, wd2]
  omega

/-- What is over behind i words of X + Y w. -/
def cy (X Y w i : Nat) : Nat := (X % 18446744073709551616 ^ i + Y % 18446744073709551616 ^ i * w) / 18446744073709551616 ^ i
theorem cy_zero (X Y w : Nat) : cy X Y w 0 = 0 := by simp [cy, Nat.mod_one]
theorem cy_step (X Y w i : Nat) : wd X i + wd Y i * w + cy X Y w i = wd (X + Y * w) i + 18446744073709551616 * cy X Y w (i + 1) := by
  unfold wd cy
  have hp : 0 < 18446744073709551616 ^ i := Nat.pow_pos (by decide)
  generalize hm : 18446744073709551616 ^ i = m at *
  have hm1 : 18446744073709551616 ^ (i + 1) = m * 18446744073709551616 := by rw [Nat.pow_succ, hm]
  rw [hm1]
  have eX := Nat.div_add_mod X m
  have eY := Nat.div_add_mod Y m
  have e1 : X % (m * 18446744073709551616) = X % m + m * (X / m % 18446744073709551616) := Nat.mod_mul
  have e2 : Y % (m * 18446744073709551616) = Y % m + m * (Y / m % 18446744073709551616) := Nat.mod_mul
  rw [e1, e2]
  have e3 : X % m + m * (X / m % 18446744073709551616) + (Y % m + m * (Y / m % 18446744073709551616)) * w = (X % m + Y % m * w) + m * (X / m % 18446744073709551616 + Y / m % 18446744073709551616 * w) := by grind
  have e4 : X + Y * w = (X % m + Y % m * w) + m * (X / m + Y / m * w) := by
    have : X + Y * w = (m * (X / m) + X % m) + (m * (Y / m) + Y % m) * w := by rw [eX, eY]
    rw [this]; grind
  rw [e3, e4, ← Nat.div_div_eq_div_mul, Nat.add_mul_div_left _ _ hp, Nat.add_mul_div_left _ _ hp]
  generalize (X % m + Y % m * w) / m = c
  have e5 : (c + (X / m + Y / m * w)) % 18446744073709551616 = (c + (X / m % 18446744073709551616 + Y / m % 18446744073709551616 * w)) % 18446744073709551616 := by
    rw [Nat.add_mod, Nat.add_mod (X / m), Nat.mul_mod]
    simp only [Nat.add_mod, Nat.mul_mod, Nat.mod_mod]
  rw [e5]
  generalize X / m % 18446744073709551616 + Y / m % 18446744073709551616 * w = t
  omega
theorem cy_lt (X Y w i : Nat) (hw : w < 18446744073709551616) : cy X Y w i < 18446744073709551616 := by
  unfold cy
  have hp : 0 < 18446744073709551616 ^ i := Nat.pow_pos (by decide)
  generalize 18446744073709551616 ^ i = m at *
  rw [Nat.div_lt_iff_lt_mul hp]
  have h1 : X % m < m := Nat.mod_lt _ hp
  have h2 : Y % m < m := Nat.mod_lt _ hp
  have h3 : Y % m * w ≤ m * w := Nat.mul_le_mul_right _ (by omega)
  have h4 : m * w + m ≤ 18446744073709551616 * m := by
    have : (w + 1) * m ≤ 18446744073709551616 * m := Nat.mul_le_mul_right _ (by omega)
    rw [Nat.add_mul, Nat.one_mul, Nat.mul_comm w m] at this
    exact this
  omega
theorem cy_one (X Y i : Nat) : cy X Y 1 i ≤ 1 := by
  unfold cy
  have hp : 0 < 18446744073709551616 ^ i := Nat.pow_pos (by decide)
  generalize 18446744073709551616 ^ i = m at *
  have h1 : X % m < m := Nat.mod_lt _ hp
  have h2 : Y % m < m := Nat.mod_lt _ hp
  have : (X % m + Y % m * 1) / m < 2 := by rw [Nat.div_lt_iff_lt_mul hp]; omega
  omega

/-- n r modulo p, not wholly. -/
def timesN (N r : Nat) : Nat := N * r % 1361129467683753853853498429727072845824 + 5 * (N * r / 1361129467683753853853498429727072845824)
theorem timesN_lt (N r : Nat) (hN : N < 2722258935367507707706996859454145691648) (hr : r < 21267647932558653966460912964485513216) : timesN N r < 1701411834604692317316873037158841057280 := by
  have h : N * r < 2722258935367507707706996859454145691648 * 21267647932558653966460912964485513216 := by
    have h1 : N * r ≤ N * 21267647932558653966460912964485513216 := Nat.mul_le_mul_left _ (by omega)
    have h2 : N * 21267647932558653966460912964485513216 < 2722258935367507707706996859454145691648 * 21267647932558653966460912964485513216 := Nat.mul_lt_mul_of_pos_right hN (by decide)
    omega
  unfold timesN
  generalize N * r = P at *
  omega
theorem timesN_mod (N r : Nat) : timesN N r % 1361129467683753853853498429727072845819 = N * r % 1361129467683753853853498429727072845819 := by
  unfold timesN
  generalize N * r = P at *
  omega
theorem prod_lt (N r : Nat) (hN : N < 2722258935367507707706996859454145691648) (hr : r < 21267647932558653966460912964485513216) : N * r < 57896044618658097711785492504343953926634992332820282019728792003956564819968 := by
  have h1 : N * r ≤ N * 21267647932558653966460912964485513216 := Nat.mul_le_mul_left _ (by omega)
  have h2 : N * 21267647932558653966460912964485513216 < 2722258935367507707706996859454145691648 * 21267647932558653966460912964485513216 := Nat.mul_lt_mul_of_pos_right hN (by decide)
  omega
theorem times_low (P : Nat) : nw (P % 1361129467683753853853498429727072845824) = [wd P 0, wd P 1, wd P 2 % 4] := by
  refine nw_of _ _ _ _ (wd_lt _ _) (wd_lt _ _) (by omega) ?_
  rw [wd0, wd1, wd2]
  omega
theorem times_high (P : Nat) (h : P < 115792089237316195423570985008687907853269984665640564039457584007913129639936) : nw (P / 1361129467683753853853498429727072845824) = [wd P 2 / 4 + wd P 3 % 4 * 4611686018427387904, wd P 3 / 4, 0] := by
  have h2 := wd_lt P 2
  have h3 := wd_lt P 3
  refine nw_of _ _ _ _ (by omega) (by omega) (by decide) ?_
  rw [wd2, wd3]
  omega

/-- Bits of bytes. -/
theorem and_byte (x y X Y : Nat) (hx : x < 256) (hy : y < 256) : (x + 256 * X) &&& (y + 256 * Y) = (x &&& y) + 256 * (X &&& Y) := by
  have hm : ((x + 256 * X) &&& (y + 256 * Y)) % 2 ^ 8 = x &&& y := by
    rw [Nat.and_mod_two_pow, show (x + 256 * X) % 2 ^ 8 = x by omega, show (y + 256 * Y) % 2 ^ 8 = y by omega]
  have hd : ((x + 256 * X) &&& (y + 256 * Y)) / 2 ^ 8 = X &&& Y := by
    rw [Nat.and_div_two_pow, show (x + 256 * X) / 2 ^ 8 = X by omega, show (y + 256 * Y) / 2 ^ 8 = Y by omega]
  rw [← hm, ← hd]
  omega
theorem val_and : ∀ (a m : List Nat), a.length = m.length → (∀ x ∈ a, x < 256) → (∀ x ∈ m, x < 256) → val a &&& val m = val (List.zipWith (· &&& ·) a m)
  | [], [], _, _, _ => rfl
  | x :: a, y :: m, h, ha, hm => by
    simp only [val, List.zipWith_cons_cons]
    rw [and_byte x y _ _ (ha x (by simp)) (hm y (by simp)), val_and a m (by simpa using h) (fun z hz => ha z (by simp [hz])) (fun z hz => hm z (by simp [hz]))]
theorem Bytes.all {l : List Nat} (h : Bytes l) : ∀ x ∈ l, x < 256 := fun x hx => by
  obtain ⟨i, hi⟩ := List.mem_iff_getElem?.1 hx
  exact h i x hi
theorem bytes_of_all {l : List Nat} (h : ∀ x ∈ l, x < 256) : Bytes l := fun i x hx => h x (List.mem_of_getElem? hx)

def maskL : List Nat := [255, 255, 255, 15, 252, 255, 255, 15, 252, 255, 255, 15, 252, 255, 255, 15]
/-- The bytes of r. -/
def clampL (key : List Nat) : List Nat := List.zipWith (· &&& ·) (key.take 16) maskL
def rN (key : List Nat) : Nat := val (clampL key)
def sN (key : List Nat) : Nat := val (key.drop 16)
theorem val_append (a b : List Nat) : val (a ++ b) = val a + 256 ^ a.length * val b := by
  have h := val_split (a ++ b) a.length
  rw [List.take_left, List.drop_left] at h
  exact h
theorem val_lt : ∀ (a : List Nat), (∀ x ∈ a, x < 256) → val a < 256 ^ a.length
  | [], _ => by simp [val]
  | x :: a, h => by
    have h1 := val_lt a (fun z hz => h z (by simp [hz]))
    have h2 := h x (by simp)
    simp only [val, List.length_cons, Nat.pow_succ]
    omega
theorem digs_get (N n i : Nat) (h : i < n) : (digs N n)[i]? = some (N / 256 ^ i % 256) := by simp [digs, h]
theorem digs_bytes (N n : Nat) : Bytes (digs N n) := bytes_of_all fun x hx => by
  simp only [digs, List.mem_map] at hx
  obtain ⟨i, _, rfl⟩ := hx
  exact Nat.mod_lt _ (by decide)
theorem val_digs (N : Nat) : ∀ n, val (digs N n) = N % 256 ^ n
  | 0 => by simp [digs, val, Nat.mod_one]
  | n + 1 => by
    rw [digs_succ, val_append, val_digs N n, digs_len, mod_succ, Nat.mul_comm]
    simp [val]
theorem val_digit : ∀ (a : List Nat), (∀ x ∈ a, x < 256) → ∀ i, i < a.length → val a / 256 ^ i % 256 = a.getD i 0
  | [], _, i, h => by simp at h
  | x :: a, ha, 0, _ => by
    have := ha x (by simp)
    simp [val]
    omega
  | x :: a, ha, i + 1, h => by
    have h0 := ha x (by simp)
    have := val_digit a (fun z hz => ha z (by simp [hz])) i (by simpa using h)
    simp only [val, Nat.pow_succ, List.getD_cons_succ]
    rw [Nat.mul_comm _ 256, ← Nat.div_div_eq_div_mul, show (x + 256 * val a) / 256 = val a by omega]
    exact this
theorem digs_val (a : List Nat) (h : ∀ x ∈ a, x < 256) : digs (val a) a.length = a := by
  apply List.ext_getElem?
  intro i
  by_cases hi : i < a.length
  · rw [digs_get _ _ _ hi, val_digit a h i hi, List.getD_eq_getElem?_getD, List.getElem?_eq_getElem hi]
    rfl
  · rw [List.getElem?_eq_none (by rw [digs_len]; omega), List.getElem?_eq_none (by omega)]
theorem digs_congr (N M n : Nat) (h : N % 256 ^ n = M % 256 ^ n) : digs N n = digs M n := by
  have h1 : ∀ K, digs (K % 256 ^ n) n = digs K n := fun K => by
    have := digs_val (digs K n) (digs_bytes K n).all
    rw [digs_len, val_digs] at this
    exact this
  rw [← h1 N, h, h1 M]

/-- The number behind k pieces of 16 bytes. -/
def polyT (r : Nat) (b : List Nat) : Nat → Nat
  | 0 => 0
  | k + 1 => timesN (polyT r b k + val ((b.drop (16 * k)).take 16 ++ [1])) r
def tagL (key b : List Nat) : List Nat := digs (polyT (rN key) b ((b.length + 15) / 16) % 1361129467683753853853498429727072845819 + sN key) 16
theorem tagL_len (key b : List Nat) : (tagL key b).length = 16 := digs_len _ _
theorem tagL_bytes (key b : List Nat) : Bytes (tagL key b) := digs_bytes _ _

theorem and_255 : ∀ x, x < 256 → x &&& 255 = x := by decide +kernel
theorem and_15 : ∀ x, x < 256 → x &&& 15 = x % 16 := by decide +kernel
theorem and_252 : ∀ x, x < 256 → x &&& 252 = x - x % 4 := by decide +kernel
theorem and_le (x y : Nat) : x &&& y ≤ y := Nat.and_le_right
theorem clampL_len (key : List Nat) (h : key.length = 32) : (clampL key).length = 16 := by
  simp [clampL, h, maskL]
theorem clampL_all (key : List Nat) : ∀ x ∈ clampL key, x < 256 := fun x hx => by
  obtain ⟨i, hi⟩ := List.mem_iff_getElem?.1 hx
  simp only [clampL, List.getElem?_zipWith] at hi
  split at hi
  · rename_i a b ha hb
    have hm : ∀ y ∈ maskL, y < 256 := by decide
    have := hm b (List.mem_of_getElem? hb)
    have := and_le a b
    simp at hi
    omega
  · cases hi
theorem maskL_val : val maskL = 21267647620597763993911028882763415551 := by kernel_rfl
theorem rN_lt (key : List Nat) (h : key.length = 32) (hy : Bytes key) : rN key < 21267647932558653966460912964485513216 := by
  unfold rN clampL
  rw [← val_and _ _ (by simp [h, maskL]) (hy.take 16).all (by decide), maskL_val]
  exact Nat.lt_of_le_of_lt Nat.and_le_right (by decide)
theorem sN_lt (key : List Nat) (h : key.length = 32) (hy : Bytes key) : sN key < 340282366920938463463374607431768211456 := by
  have := val_lt (key.drop 16) (hy.drop 16).all
  rw [List.length_drop, h] at this
  exact this
theorem piece_lt (b : List Nat) (hy : Bytes b) (h : b.length ≤ 16) : val (b ++ [1]) < 680564733841876926926749214863536422912 := by
  rw [val_append]
  have h1 := val_lt b hy.all
  have h2 : 256 ^ b.length ≤ 256 ^ 16 := Nat.pow_le_pow_right (by decide) h
  have e : (256 : Nat) ^ 16 = 340282366920938463463374607431768211456 := by decide
  simp only [val]
  omega
theorem polyT_lt (r : Nat) (b : List Nat) (hr : r < 21267647932558653966460912964485513216) (hy : Bytes b) : ∀ k, polyT r b k < 1701411834604692317316873037158841057280
  | 0 => by simp [polyT]
  | k + 1 => by
    have h1 := polyT_lt r b hr hy k
    have h2 := piece_lt ((b.drop (16 * k)).take 16) ((hy.drop _).take _) (by simp; omega)
    exact timesN_lt _ _ (by omega) hr
end Go.Proofs.Ytfkpbmkhkhnehaa.sh
/-
  Sums and products of words, and the word of eight bytes, by the program.
-/
namespace Go.Proofs.Ytfkpbmkhkhnehaa.sh
open Go Go.RowKit
set_option linter.unusedVariables false
set_option linter.unusedSimpArgs false

theorem run_ext {o : Oper} {a : Act} {x : Operand} {A : Array Value} {i : Nat} {v : Value} (ho : o.op = .extract x i) (hx : a.eval x = .tuple A) (hv : A[i]? = some v) (w : World) : (execOp a.eval o).run Try.prog w = .ok (.value v) w := by
  unfold execOp
  simp only [ho, hx]
  simp [go_sem, hv]

theorem val8 (b0 b1 b2 b3 b4 b5 b6 b7 : Nat) : val [b0, b1, b2, b3, b4, b5, b6, b7] = b0 + b1 * 256 + b2 * 65536 + b3 * 16777216 + b4 * 4294967296 + b5 * 1099511627776 + b6 * 281474976710656 + b7 * 72057594037927936 := by
  simp only [val]
  omega
end Go.Proofs.Ytfkpbmkhkhnehaa.sh
/-
  A region that draws its order, with one store among its operations that does not wait for all of them: 'x[i], c = f(..)'. Those that the store waits for read memory as it was; the others read none.
-/
namespace Go.Proofs.Ytfkpbmkhkhnehaa.sh
open Go Go.RowKit
set_option linter.unusedVariables false
set_option linter.unusedSimpArgs false

def waitsOn (o : Oper) (i : Nat) : Bool := o.after.any fun e => Region.binds .any e && e.on == i
def LateAll (P : Program) (h : List Oper) (A0 : Act) (W0 : World) (R : Nat → Value → World → Prop) (s : Nat) (os : Oper) : Nat → List Oper → Prop
  | _, [] => True
  | i, o :: r => (i = s ∨ (waitsOn os i = true ∧ OwnOk P h A0 W0 R [] [] i o) ∨ ∀ W1, OwnOk P h A0 W1 R [] [] i o) ∧ LateAll P h A0 W0 R s os (i + 1) r
theorem lateAll_get {P : Program} {h : List Oper} {A0 : Act} {W0 : World} {R : Nat → Value → World → Prop} {s : Nat} {os : Oper} : ∀ (r : List Oper) (k : Nat), LateAll P h A0 W0 R s os k r → ∀ i o, r[i]? = some o → k + i = s ∨ (waitsOn os (k + i) = true ∧ OwnOk P h A0 W0 R [] [] (k + i) o) ∨ ∀ W1, OwnOk P h A0 W1 R [] [] (k + i) o
  | [], _, _, i, o, ho => by simp at ho
  | x :: r, k, hr, 0, o, ho => by simp at ho; subst ho; exact hr.1
  | x :: r, k, hr, i + 1, o, ho => by
    have := lateAll_get r (k + 1) hr.2 i o (by simpa using ho)
    rwa [show k + 1 + i = k + (i + 1) from by omega] at this

theorem region_late {P : Program} {Q : Exit → Act → World → Prop} {id : Nat} {a : Act} {w : World} (W0 : World) (n s : Nat) {l : List Oper} (vals : List (Nat × Value)) (C2 : World → Prop) (hm : P.follows .mixedOrders = true)
    (hE : edgesIn (l.take n) = true) (hG : guardsIn (l.take n) = true) (hA : dstsApart (l.take n) 0 = true) (hI : dstsIn (l.take n) a.tmps.size = true) (hT : tailUnder (l.take n) (l.drop n) = true)
    (hS : Region.seqB .any l.toArray (l.drop n).length (l.take n).length (Array.replicate (l.take n).length true ++ Array.replicate (l.drop n).length false) = true)
    (hv : (vals.all fun p => (dstsOf (l.take n)).contains p.1) = true)
    (os : Oper) (hos : (l.take n)[s]? = some os) (hsd : os.dst = none) (hw : Below W0.heap.size W0 w)
    (hC : ∀ w w', C2 w → Below w.heap.size w w' → C2 w')
    (hok : Full (l.take n) a (putR a vals) (specOf []) [] → LateAll P (l.take n) a W0 (relR (putR a vals) (specOf [])) s os 0 (l.take n))
    (hst : Full (l.take n) a (putR a vals) (specOf []) [] → ∀ a' w', Fr (l.take n) a a' → Below W0.heap.size W0 w' → GotE (l.take n) [] (relR (putR a vals) (specOf [])) [] W0.heap.size s a' w' os →
      Region.wanted os (yielded (l.take n).toArray a'.tmps) = true ∧ os.wp P a' w' (fun a2 w2 => a2 = a' ∧ C2 w2) (fun _ _ _ => False))
    (hfin : ∀ w', C2 w' → wpList P l.toArray Q (l.drop n) (putR a vals) w') : (Code.region id l.toArray true).wp P Q a w := by
  have hfull : Full (l.take n) a (putR a vals) (specOf []) [] := full_put vals hv (specOf_none [])
  have hok' := hok hfull
  have hst' := hst hfull
  have hRR : ∀ d v (w : World), relR (putR a vals) (specOf []) d v w ↔ (putR a vals).tmps[d]? = some v := fun d v w => Iff.rfl
  clear hok hst
  have e : l.take n ++ l.drop n = l := List.take_append_drop n l
  refine wp_region_any hm ?_
  generalize hh : l.take n = h at *
  have main := wpAny_inv (P := P) (l := h) (Q := headPost P (h ++ l.drop n).toArray Q (l.drop n))
    (fun listed a' w' => Fr h a a' ∧ (∀ d, (∃ (i : Nat) (o : Oper), h[i]? = some o ∧ listed.getD i false = true ∧ o.dst = some d) → ∃ v, a'.tmps[d]? = some v ∧ (putR a vals).tmps[d]? = some v) ∧
      (listed.getD s false = false → Below W0.heap.size W0 w') ∧ (listed.getD s false = true → C2 w' ∧ ∀ x ∈ os.after, Region.binds .any x = true → listed.getD x.on false = true)) hE
    (by
      intro listed a' w' i o hls hI' ho hun hall
      obtain ⟨hF, hV, hB, hD⟩ := hI'
      have hil : i < listed.size := by rw [hls]; exact (List.getElem?_eq_some_iff.1 ho).1
      have hun' : listed.getD i false = false := by simpa [hil] using hun
      have hson : ∀ k, (listed.setIfInBounds i true).getD k false = if k = i then true else listed.getD k false := fun k => by
        by_cases hk : k = i
        · subst hk; simp [hil]
        · rw [if_neg hk, getD_set_ne false (Ne.symm hk)]
      have hup : ∀ k, listed.getD k false = true → (listed.setIfInBounds i true).getD k false = true := fun k hk => by
        rw [hson k]; split <;> first | rfl | exact hk
      have hgot : ∀ B, GotE h [] (relR (putR a vals) (specOf [])) [] B i a' w' o := fun B d hs hq => by
        obtain ⟨x, hx, h1⟩ := Array.any_eq_true'.1 hs
        simp only [Bool.and_eq_true] at h1
        cases ho' : h[x.on]? with
        | none => simp [ho'] at h1
        | some o' =>
          obtain ⟨v, e1, e2⟩ := hV d ⟨x.on, o', ho', hall x hx h1.1, by simpa [ho'] using h1.2⟩
          exact ⟨v, e1, e2, fun hc => by simp at hc⟩
      by_cases his : i = s
      · subst his
        have hoo : o = os := by rw [ho] at hos; exact Option.some.inj hos
        subst hoo
        obtain ⟨hwant, hwp⟩ := hst' a' w' hF (hB hun') (hgot _)
        refine ⟨hwant, wp_false ?_ hwp⟩
        rintro a2 w2 ⟨rfl, hC2⟩
        refine ⟨hF, fun d hd => ?_, fun hf => ?_, fun _ => ⟨hC2, fun x hx hb => hup _ (hall x hx hb)⟩⟩
        · obtain ⟨j, o', h1, h2, h3⟩ := hd
          refine hV d ⟨j, o', h1, ?_, h3⟩
          rw [hson j] at h2
          split at h2
          · next hji => subst hji; rw [ho] at h1; cases h1; rw [hsd] at h3; cases h3
          · exact h2
        · rw [hson, if_pos rfl] at hf; cases hf
      · have hson_s : (listed.setIfInBounds i true).getD s false = listed.getD s false := by rw [hson s, if_neg (Ne.symm his)]
        have step : ∀ W1 : World, Below W1.heap.size W1 w' → OwnOk P h a W1 (relR (putR a vals) (specOf [])) [] [] i o →
            Region.wanted o (yielded h.toArray a'.tmps) = true ∧ o.wp P a' w' (fun a2 w2 => Fr h a a2 ∧ (∀ d, (∃ (j : Nat) (o : Oper), h[j]? = some o ∧ (listed.setIfInBounds i true).getD j false = true ∧ o.dst = some d) → ∃ v, a2.tmps[d]? = some v ∧ (putR a vals).tmps[d]? = some v) ∧ Below w'.heap.size w' w2) (fun _ _ _ => False) := by
          rintro W1 hW1 ⟨d, hd, hrun⟩
          obtain ⟨hwant, hwp⟩ := hrun a' w' hF hW1 (hgot _)
          refine ⟨hwant, wp_false ?_ hwp⟩
          rintro a2 w2 ⟨v, row, rfl, hR, hg, hrow, _⟩
          have hdl : d < a'.tmps.size := by
            have := List.all_eq_true.1 hI o (List.mem_of_getElem? ho)
            rw [hd] at this
            rw [hF.size]
            simpa using this
          have hother : ∀ d', d' ≠ d → (a'.put (some d) v).tmps[d']? = a'.tmps[d']? := fun d' hne => by simp [Act.put, Array.getElem?_setIfInBounds_ne (Ne.symm hne)]
          have hself : (a'.put (some d) v).tmps[d]? = some v := by simp [Act.put, hdl]
          refine ⟨⟨by rw [size_put]; exact hF.size, hF.defers, fun d' h' => ?_⟩, fun d' hL => ?_, grown_empty hg (fun b hb => by obtain ⟨s', hs', _⟩ := hrow b hb; cases hs')⟩
          · rw [hother d' (fun e2 => h' i o ho (by rw [hd, e2]))]
            exact hF.out d' h'
          · by_cases hdd : d' = d
            · subst hdd
              exact ⟨v, hself, hR⟩
            · obtain ⟨j, o', h1, h2, h3⟩ := hL
              rw [hother d' hdd]
              refine hV d' ⟨j, o', h1, ?_, h3⟩
              rw [hson j] at h2
              split at h2
              · next hji => subst hji; rw [ho] at h1; cases h1; rw [hd] at h3; exact absurd (Option.some.inj h3).symm hdd
              · exact h2
        rcases (by have := lateAll_get h 0 hok' i o ho; rwa [Nat.zero_add] at this : i = s ∨ (waitsOn os i = true ∧ OwnOk P h a W0 (relR (putR a vals) (specOf [])) [] [] i o) ∨ ∀ W1, OwnOk P h a W1 (relR (putR a vals) (specOf [])) [] [] i o) with h1 | ⟨hon, hown⟩ | hown
        · exact absurd h1 his
        · have hsf : listed.getD s false = false := by
            cases hc : listed.getD s false with
            | false => rfl
            | true =>
              obtain ⟨x, hx, h1⟩ := Array.any_eq_true'.1 hon
              simp only [Bool.and_eq_true, beq_iff_eq] at h1
              have := (hD hc).2 x hx h1.1
              rw [h1.2, hun'] at this
              cases this
          obtain ⟨hwant, hwp⟩ := step W0 (hB hsf) hown
          refine ⟨hwant, wp_false ?_ hwp⟩
          rintro a2 w2 ⟨h1, h2, h3⟩
          refine ⟨h1, h2, fun _ => (hB hsf).trans (h3.mono (hB hsf).size), fun hs => ?_⟩
          rw [hson_s, hsf] at hs
          cases hs
        · obtain ⟨hwant, hwp⟩ := step w' (Below.refl _ _) (hown w')
          refine ⟨hwant, wp_false ?_ hwp⟩
          rintro a2 w2 ⟨h1, h2, h3⟩
          refine ⟨h1, h2, fun hs => ?_, fun hs => ?_⟩
          · rw [hson_s] at hs
            exact (hB hs).trans (h3.mono (hB hs).size)
          · rw [hson_s] at hs
            exact ⟨hC _ _ (hD hs).1 h3, fun x hx hb => hup _ ((hD hs).2 x hx hb)⟩)
    (by
      intro a' w' hI'
      obtain ⟨hF, hV, hB, hD⟩ := hI'
      have hsl : s < h.length := (List.getElem?_eq_some_iff.1 hos).1
      have hC2 := (hD (by simp [hsl])).1
      have ea : a' = putR a vals := by
        refine act_eq (Array.ext_getElem? fun d => ?_) (by rw [putR_defers]; exact hF.defers)
        by_cases hd : ∃ (i : Nat) (o : Oper), h[i]? = some o ∧ o.dst = some d
        · obtain ⟨i, o, h1, h2⟩ := hd
          obtain ⟨v, e1, e2⟩ := hV d ⟨i, o, h1, by simp [(List.getElem?_eq_some_iff.1 h1).1], h2⟩
          rw [e1, e2]
        · have hno : ∀ (i : Nat) (o : Oper), h[i]? = some o → o.dst ≠ some d := fun i o h1 h2 => hd ⟨i, o, h1, h2⟩
          rw [hF.out d hno, hfull.out d hno]
      have hfr := hfin w' hC2
      rw [← ea] at hfr
      show wpList P (h ++ l.drop n).toArray Q (l.drop n) a' w'
      rw [e]
      exact hfr)
    h.length (Array.replicate h.length false) a { w with drawn := w.drawn + 1 } (by simp) (by simp [open_])
    (by
      have hno : ∀ k, (Array.replicate h.length false).getD k false = true → False := fun k hk => by
        rw [Array.getD_eq_getD_getElem?, Array.getElem?_replicate] at hk
        split at hk <;> simp at hk
      exact ⟨⟨rfl, rfl, fun _ _ => rfl⟩, fun d hL => (by obtain ⟨i, o, _, hon, _⟩ := hL; exact (hno i hon).elim), fun _ => hw.drew, fun hs => (hno s hs).elim⟩)
  have h3 := lift_under (Q := Q) hE hG hT (by rw [e]; exact hS) h.length (Array.replicate h.length false) a _ (by simp) (by simp [open_]) (closed_none _) main
  rw [e] at h3
  have e1 : l.toArray.size = h.length + (l.drop n).length := by rw [← List.length_append, e]; simp
  rw [e1, show Array.replicate (h.length + (l.drop n).length) false = Array.replicate h.length false ++ Array.replicate (l.drop n).length false by simp]
  exact h3

/-- The store of one cell, in such a region. -/
theorem late_store {h : List Oper} {A0 A : Act} {W0 : World} {i : Nat} {o : Oper} {C2 : World → Prop} (hA : Full h A0 A (specOf []) []) (hg : o.guard = none) (hd : o.dst = none) (e : TypeId) (sz : ∀ w, (sizeOf e).run Try.prog w = .ok 1 w) (x y : Nat) (ho : o.op = .store e (.tmp x) (.tmp y)) (hwx : waitsFor h o x = true) (hwy : waitsFor h o y = true)
    (g k : Nat) (kd : IntKind) (v : Int) (hx : A.tmps[x]? = some (.pointer (some ⟨g, k, none⟩))) (hy : A.tmps[y]? = some (.int kd v)) (t : TypeId) (C : Array Value) (hB : ∀ w, Below W0.heap.size W0 w → Blk w g t C) (hk : k < C.size)
    (hC : ∀ w w', Below W0.heap.size W0 w → Blk w' g t (C.setIfInBounds k (.int kd v)) → Put w w' g → C2 w') :
    ∀ a' w', Fr h A0 a' → Below W0.heap.size W0 w' → GotE h [] (relR A (specOf [])) [] W0.heap.size i a' w' o →
      Region.wanted o (yielded h.toArray a'.tmps) = true ∧ o.wp Try.prog a' w' (fun a2 w2 => a2 = a' ∧ C2 w2) (fun _ _ _ => False) := by
  intro a' w' hF hb hgot
  have ex := gotE_det hA hgot hwx rfl rfl hx
  have ey := gotE_det hA hgot hwy rfl rfl hy
  refine ⟨by simp [Region.wanted, hg], ?_⟩
  have hgk := hB w' hb
  have hc : w'.cell? ⟨g, k, none⟩ = some C[k] := cell_row hgk (Array.getElem?_eq_getElem hk)
  have hf : w'.frozen? ⟨g, k, none⟩ = false := frozen_of_row w' g k C _ hgk
  have hrun : (execOp a'.eval o).run Try.prog w' = .ok .skip (w'.setCell ⟨g, k, none⟩ (.int kd v)) := by
    unfold execOp
    simp only [ho, ex, ey, Instr.storeAt, Instr.sureAddr, Sem.run_bind, Sem.run_pure, Result.andThen_ok]
    simp [storeVar, storeCells, sz, go_sem, hc, hf, Value.cells]
    try rfl
  unfold Oper.wp
  rw [hrun]
  refine ⟨by rw [hd]; rfl, hC w' _ hb (heap_setCell_same _ _ _ _ _ _ hgk) ⟨⟨rfl, rfl, rfl, by simp, fun j _ hj => heap_setCell_other w' ⟨g, k, none⟩ j _ (fun e => hj (by rw [e]))⟩, by simp⟩⟩
end Go.Proofs.Ytfkpbmkhkhnehaa.sh
/-
  A region that draws its order, in which operations may be left out by their guards; no operation takes a block over.
-/
namespace Go.Proofs.Ytfkpbmkhkhnehaa.sh
open Go Go.RowKit
set_option linter.unusedVariables false
set_option linter.unusedSimpArgs false

/-- An invariant carries any order, also where operations are left out. -/
theorem wpAny_skip {P : Program} {Q : Exit → Act → World → Prop} {l : List Oper} (I : Array Bool → Act → World → Prop) (hE : edgesIn l = true)
    (hstep : ∀ listed a w i o, listed.size = l.length → I listed a w → l[i]? = some o → listed.getD i true = false → (∀ e ∈ o.after, Region.binds .any e = true → listed.getD e.on false = true) →
      (Region.wanted o (yielded l.toArray a.tmps) = true ∧ o.wp P a w (fun a' w' => I (listed.setIfInBounds i true) a' w') Q) ∨ (Region.wanted o (yielded l.toArray a.tmps) = false ∧ I (listed.setIfInBounds i true) (a.put o.dst undef) w))
    (hdone : ∀ a w, I (Array.replicate l.length true) a w → Q .normal a w) :
    ∀ (fuel : Nat) (listed : Array Bool) (a : Act) (w : World), listed.size = l.length → open_ listed = fuel → I listed a w → wpAny P .any l.toArray Q fuel listed a w
  | 0, listed, a, w, hs, ho, hI => by
    have ha := all_true ho
    rw [hs] at ha
    refine ⟨?_, hdone a w (by rw [← ha]; exact hI)⟩
    rw [List.eq_nil_iff_forall_not_mem]
    intro j hj
    obtain ⟨h1, o, h2, _⟩ := mem_ready.1 hj
    have hl : j < l.length := by
      have := (Array.getElem?_eq_some_iff.1 h2).1
      simpa using this
    rw [ha] at h1
    simp [hl] at h1
  | f + 1, listed, a, w, hs, ho, hI => by
    refine ⟨fun hr => ?_, fun i hi => ?_⟩
    · obtain ⟨i, h1, h2⟩ := least_open (listed := listed) (by omega)
      have hil : i < l.length := by
        rcases Nat.lt_or_ge i l.length with h' | h'
        · exact h'
        · have : listed.size ≤ i := by omega
          simp [Array.getElem?_eq_none this] at h1
      have hm : i ∈ Region.ready .any l.toArray listed := mem_ready.2 ⟨h1, l[i], by simp [hil], fun e he hb => h2 _ (edge_lt hE (List.getElem?_eq_getElem hil) he hb)⟩
      rw [hr] at hm
      cases hm
    · obtain ⟨h1, o, h2, h3⟩ := mem_ready.1 hi
      have h2' : l[i]? = some o := by simpa using h2
      have next : ∀ a' w', I (listed.setIfInBounds i true) a' w' → wpAny P .any l.toArray Q f (listed.setIfInBounds i true) a' w' := fun a' w' h => wpAny_skip I hE hstep hdone f _ a' w' (by simpa using hs) (by have := open_set h1; omega) h
      rcases hstep listed a w i o hs hI h2' h1 h3 with ⟨hw, hwp⟩ | ⟨hw, hsk⟩
      · unfold wpOp
        simp only [h2, hw, if_true]
        left
        exact Oper.wp_mono next hwp
      · unfold wpOp
        simp only [h2, hw]
        exact next _ _ hsk

/-- What is asked of each operation: it is carried out, or left out. -/
def SkipOk (P : Program) (h : List Oper) (A0 : Act) (W0 : World) (R : Nat → Value → World → Prop) (i : Nat) (o : Oper) : Prop :=
  OwnOk P h A0 W0 R [] [] i o ∨ ∃ d, o.dst = some d ∧ ∀ a w, Fr h A0 a → GotE h [] R [] W0.heap.size i a w o → Region.wanted o (yielded h.toArray a.tmps) = false ∧ R d undef w
def SkipAll (P : Program) (h : List Oper) (A0 : Act) (W0 : World) (R : Nat → Value → World → Prop) : Nat → List Oper → Prop
  | _, [] => True
  | i, o :: r => SkipOk P h A0 W0 R i o ∧ SkipAll P h A0 W0 R (i + 1) r
theorem skipAll_get {P : Program} {h : List Oper} {A0 : Act} {W0 : World} {R : Nat → Value → World → Prop} : ∀ (r : List Oper) (k : Nat), SkipAll P h A0 W0 R k r → ∀ i o, r[i]? = some o → SkipOk P h A0 W0 R (k + i) o
  | [], _, _, i, o, ho => by simp at ho
  | x :: r, k, hr, 0, o, ho => by simp at ho; subst ho; exact hr.1
  | x :: r, k, hr, i + 1, o, ho => by
    have := skipAll_get r (k + 1) hr.2 i o (by simpa using ho)
    rwa [show k + 1 + i = k + (i + 1) from by omega] at this
theorem skip_at {P : Program} {h : List Oper} {A0 A : Act} {W0 : World} {S : Nat → Option (Value → World → Prop)} {sp : List Nat} {i : Nat} {o : Oper} (hA : Full h A0 A S sp) (j : Nat) (b c : Bool) (d s : Nat) (hg : o.guard = some (j, b)) (hj : (h[j]?).bind (·.dst) = some s) (hw : waitsFor h o s = true) (hs : sp.contains s = false) (hv : A.tmps[s]? = some (.bool c)) (hc : (c == b) = false) (hd : o.dst = some d) (hds : sp.contains d = false) (hu : A.tmps[d]? = some undef) : SkipOk P h A0 W0 (relR A S) i o :=
  .inr ⟨d, hd, fun a w _ hgot => by
    obtain ⟨u, e1, e2, _⟩ := hgot s hw rfl
    unfold relR at e2
    rw [hA.spec s (not_mem_of hs), hv] at e2
    cases e2
    have hcb : c ≠ b := by simpa using hc
    refine ⟨by simp [Region.wanted, hg, yielded, hj, e1, hcb], ?_⟩
    unfold relR
    rw [hA.spec d (not_mem_of hds)]
    exact hu⟩
/-- As it is left out of a slot that was left out, too. -/
theorem skip_undef {P : Program} {h : List Oper} {A0 A : Act} {W0 : World} {S : Nat → Option (Value → World → Prop)} {sp : List Nat} {i : Nat} {o : Oper} (hA : Full h A0 A S sp) (j : Nat) (b : Bool) (d s : Nat) (hg : o.guard = some (j, b)) (hj : (h[j]?).bind (·.dst) = some s) (hw : waitsFor h o s = true) (hs : sp.contains s = false) (hv : A.tmps[s]? = some undef) (hd : o.dst = some d) (hds : sp.contains d = false) (hu : A.tmps[d]? = some undef) : SkipOk P h A0 W0 (relR A S) i o :=
  .inr ⟨d, hd, fun a w _ hgot => by
    obtain ⟨u, e1, e2, _⟩ := hgot s hw rfl
    unfold relR at e2
    rw [hA.spec s (not_mem_of hs), hv] at e2
    cases e2
    refine ⟨by simp [Region.wanted, hg, yielded, hj, e1, undef], ?_⟩
    unfold relR
    rw [hA.spec d (not_mem_of hds)]
    exact hu⟩

theorem region_skipL {P : Program} {Q : Exit → Act → World → Prop} {id : Nat} {a : Act} {w : World} (W0 : World) (n : Nat) {l : List Oper} (vals : List (Nat × Value)) (L : List (Nat × (Value → World → Prop))) (hm : P.follows .mixedOrders = true)
    (hE : edgesIn (l.take n) = true) (hG : guardsIn (l.take n) = true) (hA : dstsApart (l.take n) 0 = true) (hI : dstsIn (l.take n) a.tmps.size = true) (hT : tailUnder (l.take n) (l.drop n) = true)
    (hS : Region.seqB .any l.toArray (l.drop n).length (l.take n).length (Array.replicate (l.take n).length true ++ Array.replicate (l.drop n).length false) = true)
    (hv : (vals.all fun p => (dstsOf (l.take n)).contains p.1) = true) (hsp : ((L.map (·.1)).all fun d => (dstsOf (l.take n)).contains d) = true)
    (hst : ∀ q ∈ L, ∀ (v : Value) (w w' : World), q.2 v w → Below w.heap.size w w' → q.2 v w') (hw : Below W0.heap.size W0 w)
    (hok : Full (l.take n) a (putR a vals) (specOf L) (L.map (·.1)) → SkipAll P (l.take n) a W0 (relR (putR a vals) (specOf L)) 0 (l.take n))
    (hfin : ∀ (f : Nat → Value) w', (∀ d p, specOf L d = some p → p (f d) w') → Below W0.heap.size W0 w' → wpList P l.toArray Q (l.drop n) (putR (putR a vals) ((L.map (·.1)).map fun d => (d, f d))) w') : (Code.region id l.toArray true).wp P Q a w := by
  have hfull : Full (l.take n) a (putR a vals) (specOf L) (L.map (·.1)) := full_put vals hv (specOf_none L)
  have hok' := hok hfull
  clear hok
  have hin : ∀ d, d ∈ L.map (·.1) → d ∈ dstsOf (l.take n) := fun d hd => List.contains_iff_mem.1 (List.all_eq_true.1 hsp d hd)
  have hkeep : ∀ d v (w w' : World), relR (putR a vals) (specOf L) d v w → Below w.heap.size w w' → relR (putR a vals) (specOf L) d v w' := fun d v w w' h1 h2 => by
    unfold relR at *
    cases hs : specOf L d with
    | none => rw [hs] at h1; exact h1
    | some p =>
      rw [hs] at h1
      obtain ⟨q, hq, rfl, rfl⟩ := specOf_mem' L d p hs
      exact hst q hq v w w' h1 h2
  have e : l.take n ++ l.drop n = l := List.take_append_drop n l
  refine wp_region_any hm ?_
  generalize hh : l.take n = h at *
  have main := wpAny_skip (P := P) (l := h) (Q := headPost P (h ++ l.drop n).toArray Q (l.drop n))
    (fun listed a' w' => Fr h a a' ∧ Below W0.heap.size W0 w' ∧ ∀ d, (∃ (i : Nat) (o : Oper), h[i]? = some o ∧ listed.getD i false = true ∧ o.dst = some d) → ∃ v, a'.tmps[d]? = some v ∧ relR (putR a vals) (specOf L) d v w') hE
    (by
      intro listed a' w' i o hls hI' ho hun hall
      obtain ⟨hF, hB, hV⟩ := hI'
      have hil : i < listed.size := by rw [hls]; exact (List.getElem?_eq_some_iff.1 ho).1
      have hson : ∀ k, (listed.setIfInBounds i true).getD k false = if k = i then true else listed.getD k false := fun k => by
        by_cases hk : k = i
        · subst hk; simp [hil]
        · rw [if_neg hk, getD_set_ne false (Ne.symm hk)]
      have hgot : GotE h [] (relR (putR a vals) (specOf L)) [] W0.heap.size i a' w' o := fun d hs hq => by
        obtain ⟨x, hx, h1⟩ := Array.any_eq_true'.1 hs
        simp only [Bool.and_eq_true] at h1
        cases ho' : h[x.on]? with
        | none => simp [ho'] at h1
        | some o' =>
          obtain ⟨v, e1, e2⟩ := hV d ⟨x.on, o', ho', hall x hx h1.1, by simpa [ho'] using h1.2⟩
          exact ⟨v, e1, e2, fun hc => by simp at hc⟩
      have step : ∀ d v w2, o.dst = some d → relR (putR a vals) (specOf L) d v w2 → Below w'.heap.size w' w2 → Fr h a (a'.put (some d) v) ∧ Below W0.heap.size W0 w2 ∧ ∀ d', (∃ (j : Nat) (o : Oper), h[j]? = some o ∧ (listed.setIfInBounds i true).getD j false = true ∧ o.dst = some d') → ∃ u, (a'.put (some d) v).tmps[d']? = some u ∧ relR (putR a vals) (specOf L) d' u w2 := by
        intro d v w2 hd hR hb
        have hdl : d < a'.tmps.size := by
          have := List.all_eq_true.1 hI o (List.mem_of_getElem? ho)
          rw [hd] at this
          rw [hF.size]
          simpa using this
        have hother : ∀ d', d' ≠ d → (a'.put (some d) v).tmps[d']? = a'.tmps[d']? := fun d' hne => by simp [Act.put, Array.getElem?_setIfInBounds_ne (Ne.symm hne)]
        have hself : (a'.put (some d) v).tmps[d]? = some v := by simp [Act.put, hdl]
        refine ⟨⟨by rw [size_put]; exact hF.size, hF.defers, fun d' h' => ?_⟩, hB.trans (hb.mono hB.size), fun d' hL => ?_⟩
        · rw [hother d' (fun e2 => h' i o ho (by rw [hd, e2]))]
          exact hF.out d' h'
        · by_cases hdd : d' = d
          · subst hdd
            exact ⟨v, hself, hR⟩
          · obtain ⟨j, o', h1, h2, h3⟩ := hL
            rw [hother d' hdd]
            have h2' : listed.getD j false = true := by
              rw [hson j] at h2
              split at h2
              · next hji => subst hji; rw [ho] at h1; cases h1; rw [hd] at h3; exact absurd (Option.some.inj h3).symm hdd
              · exact h2
            obtain ⟨u, e1, e2⟩ := hV d' ⟨j, o', h1, h2', h3⟩
            exact ⟨u, e1, hkeep d' u w' w2 e2 hb⟩
      rcases (by have := skipAll_get h 0 hok' i o ho; rwa [Nat.zero_add] at this : SkipOk P h a W0 (relR (putR a vals) (specOf L)) i o) with ⟨d, hd, hrun⟩ | ⟨d, hd, hskip⟩
      · obtain ⟨hwant, hwp⟩ := hrun a' w' hF hB hgot
        refine .inl ⟨hwant, wp_false ?_ hwp⟩
        rintro a2 w2 ⟨v, row, rfl, hR, hg, hrow, _⟩
        exact step d v w2 hd hR (grown_empty hg (fun b hb => by obtain ⟨s', hs', _⟩ := hrow b hb; cases hs'))
      · obtain ⟨hwant, hR⟩ := hskip a' w' hF hgot
        refine .inr ⟨hwant, ?_⟩
        rw [hd]
        exact step d undef w' hd hR (Below.refl _ _))
    (by
      intro a' w' hI'
      obtain ⟨hF, hB, hV⟩ := hI'
      have hall : ∀ d (i : Nat) (o : Oper), h[i]? = some o → o.dst = some d → ∃ v, a'.tmps[d]? = some v ∧ relR (putR a vals) (specOf L) d v w' := fun d i o h1 h2 => hV d ⟨i, o, h1, by simp [(List.getElem?_eq_some_iff.1 h1).1], h2⟩
      have hfr := hfin (fun d => (a'.tmps[d]?).getD undef) w' (fun d p hp => by
        obtain ⟨q, hq, e1, rfl⟩ := specOf_mem' L d p hp
        have hd := hin d (by rw [← e1]; exact List.mem_map.2 ⟨q, hq, rfl⟩)
        obtain ⟨o, ho, hdo⟩ := List.mem_filterMap.1 hd
        obtain ⟨i, hi, he⟩ := List.getElem_of_mem ho
        obtain ⟨v, e2, e3⟩ := hall d i o (by rw [List.getElem?_eq_getElem hi, he]) hdo
        simp only [e2, Option.getD_some]
        unfold relR at e3
        rw [hp] at e3
        exact e3) hB
      have ea : a' = putR (putR a vals) ((L.map (·.1)).map fun d => (d, (a'.tmps[d]?).getD undef)) := by
        refine act_eq (Array.ext_getElem? fun d => ?_) (by rw [putR_defers, putR_defers]; exact hF.defers)
        rw [putR_get', putR_size]
        by_cases hdl : d < a.tmps.size
        · rw [if_pos hdl]
          have hsm : a'.tmps[d]? = some ((a'.tmps[d]?).getD undef) := by
            rw [Array.getElem?_eq_getElem (show d < a'.tmps.size by rw [hF.size]; exact hdl)]
            rfl
          by_cases h2 : d ∈ L.map (·.1)
          · rw [if_pos h2]
            exact hsm
          · rw [if_neg h2]
            by_cases hd : ∃ (i : Nat) (o : Oper), h[i]? = some o ∧ o.dst = some d
            · obtain ⟨i, o, h1, h3⟩ := hd
              obtain ⟨v, e1, e2⟩ := hall d i o h1 h3
              unfold relR at e2
              rw [hfull.spec d h2] at e2
              rw [e1]
              exact e2.symm
            · have hno : ∀ (i : Nat) (o : Oper), h[i]? = some o → o.dst ≠ some d := fun i o h1 h3 => hd ⟨i, o, h1, h3⟩
              rw [hF.out d hno, hfull.out d hno]
        · rw [if_neg hdl, Array.getElem?_eq_none (by rw [hF.size]; omega)]
      rw [← ea] at hfr
      show wpList P (h ++ l.drop n).toArray Q (l.drop n) a' w'
      rw [e]
      exact hfr)
    h.length (Array.replicate h.length false) a { w with drawn := w.drawn + 1 } (by simp) (by simp [open_])
    (by
      have hno : ∀ k, (Array.replicate h.length false).getD k false = true → False := fun k hk => by
        rw [Array.getD_eq_getD_getElem?, Array.getElem?_replicate] at hk
        split at hk <;> simp at hk
      exact ⟨⟨rfl, rfl, fun _ _ => rfl⟩, hw.drew, fun d hL => (by obtain ⟨i, o, _, hon, _⟩ := hL; exact (hno i hon).elim)⟩)
  have h3 := lift_under (Q := Q) hE hG hT (by rw [e]; exact hS) h.length (Array.replicate h.length false) a _ (by simp) (by simp [open_]) (closed_none _) main
  rw [e] at h3
  have e1 : l.toArray.size = h.length + (l.drop n).length := by rw [← List.length_append, e]; simp
  rw [e1, show Array.replicate (h.length + (l.drop n).length) false = Array.replicate h.length false ++ Array.replicate (l.drop n).length false by simp]
  exact h3
end Go.Proofs.Ytfkpbmkhkhnehaa.sh
