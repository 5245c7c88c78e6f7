/-
  General pieces, joined: XF XH XI XJ XK XL XU XM XN XQ W1 RM R1 R2 YA YB SHL SHN SA SC SE CA CB BL CC.
-/
import Derived.Test.YtniogaimhkcedaaDoorBaseB
import Derived.Lib.BufferWrite
import Derived.Deep.Strs
import Derived.Test.YtniogaimhkcedaaDoorRows
import Derived.WalkKit
import Derived.WalkSpells
import Derived.WalkLawsBesides
import Derived.Laws.MathBits
import Derived.RegionTactic
import Derived.BigRegion
import Derived.Deep.QuietTactic
import Derived.BigQuiet
import Derived.Laws.IdiomStrings
import Derived.SliceStrings
import Derived.ProofKit
import Derived.LaidMore
import Derived.OpenShut
import Derived.ChangeOld
import Derived.Shelf.Strings.Builder1
import Derived.Shelf.Strings.Builder2
import Derived.Shelf.Strconv.Clone
import Derived.Shelf.Strings.Prefix
import Derived.Shelf.LaysM
/-
  The words of a block at first, by the program.
-/
namespace Go.Proofs.YtniogaimhkcedaaDoor.sh
open Go Go.RowKit
set_option linter.unusedVariables false
set_option linter.unusedSimpArgs false

theorem part_congr (b b' : List Nat) (j j' : Nat) : ∀ n, (∀ m, m < n → b.getD (4 * j + m) 0 = b'.getD (4 * j' + m) 0) → part b j n = part b' j' n
  | 0, _ => rfl
  | n + 1, h => by
    show part b j n + b.getD (4 * j + n) 0 * 256 ^ n = part b' j' n + b'.getD (4 * j' + n) 0 * 256 ^ n
    rw [part_congr b b' j j' n (fun m hm => h m (by omega)), h n (by omega)]
theorem getD_left (l m : List Nat) (i : Nat) (h : i < l.length) : (l ++ m).getD i 0 = l.getD i 0 := by
  rw [List.getD_eq_getElem?_getD, List.getD_eq_getElem?_getD, List.getElem?_append_left h]
theorem getD_right (l m : List Nat) (i : Nat) (h : l.length ≤ i) : (l ++ m).getD i 0 = m.getD (i - l.length) 0 := by
  rw [List.getD_eq_getElem?_getD, List.getD_eq_getElem?_getD, List.getElem?_append_right h]
theorem frst_eq (key nonce : List Nat) (count : Nat) (hk : key.length = 32) (hn : nonce.length = 12) : (wsL (nameL ++ key ++ (List.replicate 4 0 ++ nonce)) 16).set 12 count = frstL key nonce count := by
  have hl : (nameL ++ key).length = 48 := by rw [List.length_append, hk]; rfl
  apply List.ext_getElem?
  intro j
  unfold frstL
  rw [List.getElem?_set, wsL_len]
  by_cases h1 : j < 12
  · rw [if_neg (by omega), List.getElem?_append_left (by simp [wsL_len]; omega), List.getElem?_append_left (by rw [wsL_len]; exact h1)]
    simp only [wsL, List.getElem?_map, List.getElem?_range (show j < 16 by omega), List.getElem?_range h1, Option.map_some]
    congr 1
    exact part_congr _ _ _ _ 4 (fun m hm => getD_left _ _ _ (by rw [hl]; omega))
  · by_cases h2 : j = 12
    · subst h2
      rw [if_pos rfl, if_pos (by decide), List.getElem?_append_left (by simp [wsL_len]), List.getElem?_append_right (by rw [wsL_len]; exact Nat.le_refl _), wsL_len]
      rfl
    · rw [if_neg (by omega), List.getElem?_append_right (by simp [wsL_len]; omega)]
      by_cases h3 : j < 16
      · simp only [wsL, List.getElem?_map, List.getElem?_range h3, List.length_append, List.length_map, List.length_range, List.length_singleton, List.getElem?_range (show j - (12 + 1) < 3 by omega), Option.map_some]
        congr 1
        refine part_congr _ _ _ _ 4 (fun m hm => ?_)
        rw [getD_right _ _ _ (by rw [hl]; omega), hl, getD_right _ _ _ (by simp; omega)]
        congr 1
        simp
        omega
      · rw [List.getElem?_eq_none (by rw [wsL_len]; omega), List.getElem?_eq_none (by simp [wsL_len]; omega)]
theorem splice_parts (key nonce : List Nat) (hk : key.length = 32) (hn : nonce.length = 12) : splice (splice (splice (List.replicate 64 0) 0 nameL) 16 key) 52 nonce = nameL ++ key ++ (List.replicate 4 0 ++ nonce) := by
  have e1 : splice (List.replicate 64 0) 0 nameL = nameL ++ List.replicate 48 0 := by
    unfold splice
    rw [List.take_zero, List.nil_append, List.drop_replicate]
    rfl
  have e2 : splice (nameL ++ List.replicate 48 0) 16 key = nameL ++ key ++ List.replicate 16 0 := by
    unfold splice
    rw [List.take_left' (by rfl), hk, List.drop_append]
    have : List.drop (16 + 32) nameL = [] := by rfl
    rw [this, List.nil_append, List.drop_replicate, List.append_assoc]
    rfl
  have hl : (nameL ++ key).length = 48 := by rw [List.length_append, hk]; rfl
  have e3 : splice (nameL ++ key ++ List.replicate 16 0) 52 nonce = nameL ++ key ++ (List.replicate 4 0 ++ nonce) := by
    unfold splice
    rw [List.take_append, hl, List.take_of_length_le (by rw [hl]; decide), List.take_replicate, hn, List.drop_of_length_le (by rw [List.length_append, hl, List.length_replicate]; decide), List.append_nil, List.append_assoc]
    rfl
  rw [e1, e2, e3]
theorem arr_to_run {o : Oper} {a : Act} {x : Operand} {g n : Nat} (m : Nat) {t e : TypeId} (ho : o.op = .slice t x none (some (.const (.int .i64 (m : Int)))) none) (hx : a.eval x = .pointer (some ⟨g, 0, none⟩)) (ht : Tryd.prog.underlying t = some (.array n e)) (sz : ∀ w, (sizeOf e).run Tryd.prog w = .ok 1 w) (hm : m ≤ n) (hn : 0 < n) (w : World) :
    (execOp a.eval o).run Tryd.prog w = .ok (.value (.slice (some ⟨g, 0, none⟩) m n)) w := by
  have e3 : a.eval (.const (.int .i64 (m : Int))) = .int .i64 (m : Int) := rfl
  have h2 : ((m : Int) ≤ (n : Int)) := by omega
  unfold execOp
  simp only [ho, hx, e3, Option.map_none, Option.map_some, Instr.sliceAt, Instr.slice, Instr.sliceBounds, Sem.run_bind, run_underlying ht, Result.andThen_ok]
  simp [Instr.sliceBound, asIntOf, sz, go_sem, h2]
  try omega
theorem arr_ft_run {o : Oper} {a : Act} {x : Operand} {g n : Nat} (k m : Nat) {t e : TypeId} (ho : o.op = .slice t x (some (.const (.int .i64 (k : Int)))) (some (.const (.int .i64 (m : Int)))) none) (hx : a.eval x = .pointer (some ⟨g, 0, none⟩)) (ht : Tryd.prog.underlying t = some (.array n e)) (sz : ∀ w, (sizeOf e).run Tryd.prog w = .ok 1 w) (hk : k ≤ m) (hm : m ≤ n) (hn : k < n) (w : World) :
    (execOp a.eval o).run Tryd.prog w = .ok (.value (.slice (some ⟨g, k, none⟩) (m - k) (n - k))) w := by
  have e3 : a.eval (.const (.int .i64 (m : Int))) = .int .i64 (m : Int) := rfl
  have e4 : a.eval (.const (.int .i64 (k : Int))) = .int .i64 (k : Int) := rfl
  have h2 : ((m : Int) ≤ (n : Int)) := by omega
  have h1 : ((k : Int) ≤ (m : Int)) := by omega
  unfold execOp
  simp only [ho, hx, e3, e4, Option.map_none, Option.map_some, Instr.sliceAt, Instr.slice, Instr.sliceBounds, Sem.run_bind, run_underlying ht, Result.andThen_ok]
  simp [Instr.sliceBound, asIntOf, sz, go_sem, h1, h2, Addr.add]
  rw [if_pos hm, if_pos hk]
  simp [show ¬ n = k by omega]
  exact fun h => h.symm
theorem arr_from_run {o : Oper} {a : Act} {x : Operand} {g n : Nat} (k : Nat) {t e : TypeId} (ho : o.op = .slice t x (some (.const (.int .i64 (k : Int)))) none none) (hx : a.eval x = .pointer (some ⟨g, 0, none⟩)) (ht : Tryd.prog.underlying t = some (.array n e)) (sz : ∀ w, (sizeOf e).run Tryd.prog w = .ok 1 w) (hn : k < n) (w : World) :
    (execOp a.eval o).run Tryd.prog w = .ok (.value (.slice (some ⟨g, k, none⟩) (n - k) (n - k))) w := by
  have e4 : a.eval (.const (.int .i64 (k : Int))) = .int .i64 (k : Int) := rfl
  have h1 : ((k : Int) ≤ (n : Int)) := by omega
  unfold execOp
  simp only [ho, hx, e4, Option.map_none, Option.map_some, Instr.sliceAt, Instr.slice, Instr.sliceBounds, Sem.run_bind, run_underlying ht, Result.andThen_ok]
  simp [Instr.sliceBound, asIntOf, sz, go_sem, h1, Addr.add]
  rw [if_pos (by omega)]
  simp [show ¬ n = k by omega]
  exact fun h => h.symm
/-- A constant text is copied. -/
theorem wl_copyS {ops : Array Oper} {rest : List Oper} {o : Oper} {a : Act} {w : World} {Q : Exit → Act → World → Prop} (hgd : o.guard = none) (d s : Operand) (dT sT : TypeId) (ho : o.op = .call { callee := .builtin .copy, args := #[d, s], argTypes := #[dT, sT] }) (hu : Tryd.prog.underlying dT = some (.slice 5))
    (g off dLen dCap : Nat) (hd : a.eval d = .slice (some ⟨g, off, none⟩) dLen dCap) (t8 : ByteArray) (hs : a.eval s = .string t8) (l : List Nat) (hl : Lib.byteCells t8.data.toList = (ints .u8 l).toList) {t : TypeId} (cur : Array Value) (hg : Blk w g t cur) (hn : l.length = t8.size) (hle : t8.size ≤ dLen) (hfit : off + l.length ≤ cur.size)
    (h : ∀ w', Blk w' g t (splice cur.toList off (ints .u8 l).toList).toArray → Put w w' g → wpList Tryd.prog ops Q rest (a.put o.dst (goInt t8.size)) w') : wpList Tryd.prog ops Q (o :: rest) a w := by
  refine wpList_plain hgd fun K hK => ?_
  have hrun := Lib.run_copy_row_string (P := Tryd.prog) w dT sT o.type 5 g off dLen dCap t8 cur t hu (by kernel_rfl) hg hle (by rw [← hn]; exact hfit)
  have e : cur.toList.take off ++ Lib.byteCells t8.data.toList ++ cur.toList.drop (off + t8.size) = splice cur.toList off (ints .u8 l).toList := by
    unfold splice
    rw [hl, List.append_assoc, ← hn]
    simp [ints]
  rw [e] at hrun
  unfold Oper.wp
  simp [execOp, ho, resolve, invoke, builtin, hd, hs, hrun, Result.andThen]
  exact hK _ _ (h _ (setRow_heap _ _ _ _ _ _ hg) ⟨⟨rfl, rfl, rfl, by simp, fun k _ hk => setRow_other _ _ _ _ (fun e => hk (by rw [e]))⟩, by simp⟩)
theorem z64_eq2 : (#[.int .u8 0, .int .u8 0, .int .u8 0, .int .u8 0, .int .u8 0, .int .u8 0, .int .u8 0, .int .u8 0, .int .u8 0, .int .u8 0, .int .u8 0, .int .u8 0, .int .u8 0, .int .u8 0, .int .u8 0, .int .u8 0, .int .u8 0, .int .u8 0, .int .u8 0, .int .u8 0, .int .u8 0, .int .u8 0, .int .u8 0, .int .u8 0, .int .u8 0, .int .u8 0, .int .u8 0, .int .u8 0, .int .u8 0, .int .u8 0, .int .u8 0, .int .u8 0, .int .u8 0, .int .u8 0, .int .u8 0, .int .u8 0, .int .u8 0, .int .u8 0, .int .u8 0, .int .u8 0, .int .u8 0, .int .u8 0, .int .u8 0, .int .u8 0, .int .u8 0, .int .u8 0, .int .u8 0, .int .u8 0, .int .u8 0, .int .u8 0, .int .u8 0, .int .u8 0, .int .u8 0, .int .u8 0, .int .u8 0, .int .u8 0, .int .u8 0, .int .u8 0, .int .u8 0, .int .u8 0, .int .u8 0, .int .u8 0, .int .u8 0, .int .u8 0] : Array Value) = ints .u8 (List.replicate 64 0) := by kernel_rfl
end Go.Proofs.YtniogaimhkcedaaDoor.sh
/-
  Bytes turned by one block, by the program.
-/
namespace Go.Proofs.YtniogaimhkcedaaDoor.sh
open Go Go.RowKit
set_option linter.unusedVariables false
set_option linter.unusedSimpArgs false

def xorZ (b k : List Nat) : List Nat := List.zipWith (· ^^^ ·) b k
theorem xorZ_len (b k : List Nat) (h : b.length ≤ k.length) : (xorZ b k).length = b.length := by simp [xorZ]; omega
theorem xorZ_get (b k : List Nat) (i x y : Nat) (hx : b[i]? = some x) (hy : k[i]? = some y) : (xorZ b k)[i]? = some (x ^^^ y) := by simp [xorZ, List.getElem?_zipWith, hx, hy]
theorem splice_snoc (L X : List Nat) (o i z : Nat) (h : X[i]? = some z) (hL : o + X.length ≤ L.length) : (splice L o (X.take i)).set (o + i) z = splice L o (X.take (i + 1)) := by
  have hi : i < X.length := (List.getElem?_eq_some_iff.1 h).1
  have e0 : (L.take o).length = o := by rw [List.length_take]; omega
  have e1 : (X.take i).length = i := by rw [List.length_take]; omega
  have e2 : (X.take (i + 1)).length = i + 1 := by rw [List.length_take]; omega
  have ed : L.drop (o + i) = L[o + i]'(by omega) :: L.drop (o + i + 1) := List.drop_eq_getElem_cons (by omega)
  unfold splice
  rw [e1, e2, List.set_append_right _ _ (by omega), e0, show o + i - o = i by omega, List.set_append_right _ _ (by omega), e1, Nat.sub_self, ed, List.set_cons_zero, List.take_add_one, h, show o + (i + 1) = o + i + 1 by omega]
  simp
theorem grown_put {w w1 w2 : World} {g : Nat} (h : w.grownBy w1 (some g)) (p : Put w1 w2 g) : w.grownBy w2 (some g) :=
  ⟨p.grown.os.trans h.os, p.grown.tape.trans h.tape, p.grown.output.trans h.output, by rw [p.size]; exact h.size, fun k hk hne => (p.grown.block k (by have := h.size; omega) hne).trans (h.block k hk hne)⟩
end Go.Proofs.YtniogaimhkcedaaDoor.sh
/-
  Bytes turned by blocks, by the program.
-/
namespace Go.Proofs.YtniogaimhkcedaaDoor.sh
open Go Go.RowKit
set_option linter.unusedVariables false
set_option linter.unusedSimpArgs false

theorem run_c3264 {o : Oper} {a : Act} {x : Operand} {z : Nat} (ho : o.op = .convert 132 44 x) (hx : a.eval x = .int .u32 (z : Int)) (hz : z < 4294967296) (w : World) : (execOp a.eval o).run Tryd.prog w = .ok (.value (.int .u64 (z : Int))) w := by
  unfold execOp
  simp only [ho, hx]
  simp [go_sem, IntKind.wrap_u64]
  omega
theorem run_c364 {o : Oper} {a : Act} {x : Operand} {z : Nat} (ho : o.op = .convert 3 44 x) (hx : a.eval x = .int .i64 (z : Int)) (hz : z < 4611686018427387904) (w : World) : (execOp a.eval o).run Tryd.prog w = .ok (.value (.int .u64 (z : Int))) w := by
  unfold execOp
  simp only [ho, hx]
  simp [go_sem, IntKind.wrap_u64]
  omega
theorem run_add64 {o : Oper} {a : Act} {x y : Operand} {m n z : Nat} (ho : o.op = .binOp .add 44 x y 44) (hx : a.eval x = .int .u64 (m : Int)) (hy : a.eval y = .int .u64 (n : Int)) (hz : z = m + n) (h62 : z < 4611686018427387904) (w : World) : (execOp a.eval o).run Tryd.prog w = .ok (.value (.int .u64 (z : Int))) w := by
  unfold execOp
  simp only [ho, hx, hy]
  simp [go_sem, IntKind.wrap_u64]
  omega
theorem run_gtr64c {o : Oper} {a : Act} {x : Operand} {m : Nat} {b : Bool} (ho : o.op = .binOp .gtr 44 x (.const (.int .u64 4294967296)) 44) (hx : a.eval x = .int .u64 (m : Int)) (hb : b = decide (4294967296 < m)) (w : World) : (execOp a.eval o).run Tryd.prog w = .ok (.value (.bool b)) w := by
  have e3 : a.eval (.const (.int .u64 4294967296)) = .int .u64 4294967296 := rfl
  unfold execOp
  simp only [ho, hx, e3]
  simp [go_sem, hb]
  omega
theorem run_gtrI {o : Oper} {a : Act} {x : Operand} {m : Nat} {b : Bool} (c : Nat) (ho : o.op = .binOp .gtr 3 x (.const (.int .i64 (c : Int))) 3) (hx : a.eval x = .int .i64 (m : Int)) (hb : b = decide (c < m)) (w : World) : (execOp a.eval o).run Tryd.prog w = .ok (.value (.bool b)) w := by
  have e3 : a.eval (.const (.int .i64 (c : Int))) = .int .i64 (c : Int) := rfl
  unfold execOp
  simp only [ho, hx, e3]
  simp [go_sem, hb]
theorem run_c332 {o : Oper} {a : Act} {x : Operand} {z : Nat} (ho : o.op = .convert 3 132 x) (hx : a.eval x = .int .i64 (z : Int)) (hz : z < 4294967296) (w : World) : (execOp a.eval o).run Tryd.prog w = .ok (.value (.int .u32 (z : Int))) w := by
  unfold execOp
  simp only [ho, hx]
  simp [go_sem, IntKind.wrap_u32']
  omega
theorem run_min2' {o : Oper} {a : Act} {x y : Operand} {m n z : Nat} {ts : Array TypeId} (ho : o.op = .call { callee := .builtin .min, args := #[x, y], argTypes := ts }) (hx : a.eval x = .int .i64 (m : Int)) (hy : a.eval y = .int .i64 (n : Int)) (hz : z = min m n) (w : World) : (execOp a.eval o).run Tryd.prog w = .ok (.value (.int .i64 (z : Int))) w := by exact run_min2 ho hx hy hz w
theorem run_addZ {o : Oper} {a : Act} {x : Operand} {i z : Nat} (c : Nat) (ho : o.op = .binOp .add 3 x (.const (.int .i64 (c : Int))) 3) (hx : a.eval x = .int .i64 (i : Int)) (hz : z = i + c) (hi : z < 4611686018427387904) (w : World) : (execOp a.eval o).run Tryd.prog w = .ok (.value (.int .i64 (z : Int))) w := by
  subst hz
  exact run_addI c ho hx hi w
theorem run_subZ {o : Oper} {a : Act} {x : Operand} {i z : Nat} (c : Nat) (ho : o.op = .binOp .sub 3 x (.const (.int .i64 (c : Int))) 3) (hx : a.eval x = .int .i64 (i : Int)) (hz : i = z + c) (hi : i < 4611686018427387904) (w : World) : (execOp a.eval o).run Tryd.prog w = .ok (.value (.int .i64 (z : Int))) w := by
  have h := run_subI c ho hx (by omega) hi w
  rw [show i - c = z by omega] at h
  exact h
end Go.Proofs.YtniogaimhkcedaaDoor.sh
/-
  Bytes turned by blocks, by the program: where nothing is refused.
-/
namespace Go.Proofs.YtniogaimhkcedaaDoor.sh
open Go Go.RowKit
set_option linter.unusedVariables false
set_option linter.unusedSimpArgs false

theorem mix_piece (L Z : List Nat) (f m : Nat) (hl : L.length = Z.length) (hm : f + m ≤ L.length) : splice (mix L Z f) f ((L.drop f).take m) = mix L Z (f + m) := by
  have e0 : (L.take f).length = f := by rw [List.length_take]; omega
  have e1 : ((L.drop f).take m).length = m := by rw [List.length_take, List.length_drop]; omega
  have e2 : (L.take f ++ Z.drop f).drop (f + m) = Z.drop (f + m) := by
    rw [List.drop_append, List.drop_of_length_le (by rw [e0]; omega), List.nil_append, e0, List.drop_drop]
    congr 1
    omega
  have e3 : L.take (f + m) = L.take f ++ (L.drop f).take m := List.take_add
  unfold splice mix
  rw [e1, List.take_left' e0, e2, e3, List.append_assoc]
theorem enc_piece (key nonce b : List Nat) (count i m : Nat) (hm : m ≤ 64) (hl : 64 * i + m ≤ b.length) : xorZ ((b.drop (64 * i)).take m) (blockL key nonce (count + i)) = ((encL key nonce count b).drop (64 * i)).take m := by
  apply List.ext_getElem?
  intro j
  by_cases hj : j < m
  · have eb : ((b.drop (64 * i)).take m)[j]? = some (b[64 * i + j]'(by omega)) := by rw [List.getElem?_take_of_lt hj, List.getElem?_drop]; exact List.getElem?_eq_getElem _
    have eb2 : b[64 * i + j]? = some (b[64 * i + j]'(by omega)) := List.getElem?_eq_getElem _
    have ek : (blockL key nonce (count + i))[j]? = some ((blockL key nonce (count + i)).getD j 0) := by rw [List.getD_eq_getElem?_getD, List.getElem?_eq_getElem (by rw [blockL_len]; omega)]; rfl
    rw [xorZ_get _ _ _ _ _ eb ek, List.getElem?_take_of_lt hj, List.getElem?_drop, encL_get _ _ _ _ _ _ eb2]
    unfold padB
    rw [show (64 * i + j) % 64 = j by omega, show (64 * i + j) / 64 = i by omega]
  · rw [List.getElem?_eq_none, List.getElem?_eq_none]
    · rw [List.length_take]; omega
    · rw [xorZ_len _ _ (by rw [blockL_len, List.length_take]; omega), List.length_take]; omega
section
variable {o : Oper} {a : Act} {x y z : Operand}
theorem cut_in {p pf : Option Addr} {l c k m mm cc : Nat} {t e : TypeId} (ho : o.op = .slice t x (some y) (some z) none) (hx : a.eval x = .slice p l c) (hy : a.eval y = .int .i64 (k : Int)) (hz : a.eval z = .int .i64 (m : Int)) (ht : Tryd.prog.underlying t = some (.slice e)) (sz : ∀ w, (sizeOf e).run Tryd.prog w = .ok 1 w) (hk : k ≤ m) (hm : m ≤ c) (hpf : pf = if c = k then p else p.map (·.add k)) (hmm : mm = m - k) (hcc : cc = c - k) (w : World) :
    (execOp a.eval o).run Tryd.prog w = .ok (.value (.slice pf mm cc)) w := by
  rw [hpf, hmm, hcc]
  exact cuts_run ho hx hy hz ht sz hk hm w
theorem cut_own {g l c k m mm cc : Nat} {t e : TypeId} (ho : o.op = .slice t x (some y) (some z) none) (hx : a.eval x = .slice (some ⟨g, 0, none⟩) l c) (hy : a.eval y = .int .i64 (k : Int)) (hz : a.eval z = .int .i64 (m : Int)) (ht : Tryd.prog.underlying t = some (.slice e)) (sz : ∀ w, (sizeOf e).run Tryd.prog w = .ok 1 w) (hk : k ≤ m) (hm : m ≤ c) (hkc : k < c) (hmm : mm = m - k) (hcc : cc = c - k) (w : World) :
    (execOp a.eval o).run Tryd.prog w = .ok (.value (.slice (some ⟨g, k, none⟩) mm cc)) w :=
  cut_in ho hx hy hz ht sz hk hm (by rw [if_neg (by omega), Option.map_some, addr_add, Nat.zero_add]) hmm hcc w
end
theorem blk_row {w : World} {base g n : Nat} {e : TypeId} {k : IntKind} {l : List Nat} (h : Blk w g e (ints k l)) (hn : l.length = n) (hb : base ≤ g) (hm : n ≤ maxLen) : Row base e k l (.slice (some ⟨g, 0, none⟩) n n) w := by
  subst hn
  unfold Row
  exact ⟨by simp [ints], .inr ⟨g, l.length, _, rfl, hb, h, Nat.le_refl _, hm, by rw [ints_size, Nat.mul_one], by rw [Nat.mul_one, List.take_of_length_le (by simp [ints])]⟩⟩

end Go.Proofs.YtniogaimhkcedaaDoor.sh
/-
  The answers that the document fixes.
-/
namespace Go.Proofs.YtniogaimhkcedaaDoor.sh
open Go Go.RowKit
set_option linter.unusedVariables false
set_option linter.unusedSimpArgs false

def keyF : List Nat := List.range 32
def nonF : List Nat := [0, 0, 0, 9, 0, 0, 0, 74, 0, 0, 0, 0]
theorem keyF_len : keyF.length = 32 := rfl
theorem keyF_bytes : Bytes keyF := fun i x hx => by
  unfold keyF at hx
  have := List.mem_of_getElem? hx
  simp at this
  omega
theorem nonF_bytes : Bytes nonF := fun i x hx => by
  have h : ∀ y ∈ nonF, y < 256 := by decide
  exact h x (List.mem_of_getElem? hx)
theorem fixed_block : (blockL keyF nonF 1).take 4 = [16, 241, 231, 228] := by kernel_rfl
theorem fixed_enc : encL keyF nonF 1 [0, 0] = [16, 241] := by kernel_rfl
theorem z32_eq : (#[.int .u8 0, .int .u8 0, .int .u8 0, .int .u8 0, .int .u8 0, .int .u8 0, .int .u8 0, .int .u8 0, .int .u8 0, .int .u8 0, .int .u8 0, .int .u8 0, .int .u8 0, .int .u8 0, .int .u8 0, .int .u8 0, .int .u8 0, .int .u8 0, .int .u8 0, .int .u8 0, .int .u8 0, .int .u8 0, .int .u8 0, .int .u8 0, .int .u8 0, .int .u8 0, .int .u8 0, .int .u8 0, .int .u8 0, .int .u8 0, .int .u8 0, .int .u8 0] : Array Value) = ints .u8 (List.replicate 32 0) := by kernel_rfl
theorem run_c38 {o : Oper} {a : Act} {x : Operand} {z : Nat} (ho : o.op = .convert 3 5 x) (hx : a.eval x = .int .i64 (z : Int)) (hz : z < 256) (w : World) : (execOp a.eval o).run Tryd.prog w = .ok (.value (.int .u8 (z : Int))) w := run_conv38 ho hx (by omega) w
theorem run_eqC {o : Oper} {a : Act} {x : Operand} {k : IntKind} {t u : TypeId} {z : Nat} (ho : o.op = .binOp .eql t x (.const (.int k (z : Int))) u) (hx : a.eval x = .int k (z : Int)) (ht : Tryd.prog.underlying t = some (.int k)) (w : World) : (execOp a.eval o).run Tryd.prog w = .ok (.value (.bool true)) w := by
  have e3 : a.eval (.const (.int k (z : Int))) = .int k (z : Int) := rfl
  unfold execOp
  simp only [ho, hx, e3]
  simp [go_sem]

end Go.Proofs.YtniogaimhkcedaaDoor.sh
/-
  An argument that is a key, a nonce and a count.
-/
namespace Go.Proofs.YtniogaimhkcedaaDoor.sh
open Go Go.ChangeShapes Go.WideShapes Go.ChangeAt Go.RowKit
set_option linter.unusedVariables false
set_option linter.unusedSimpArgs false

def placeA (k n : List Nat) (c : Nat) : Array Value := ints .u8 k ++ (ints .u8 n ++ #[.int .u32 (c : Int)])
theorem place_size (k n : List Nat) (c : Nat) (hk : k.length = 32) (hn : n.length = 12) : (placeA k n c).size = 45 := by simp [placeA, ints_size, hk, hn]
theorem place_key (k n : List Nat) (c : Nat) : ∀ (j : Nat) (v : Value), (ints .u8 k)[j]? = some v → (placeA k n c)[0 + j]? = some v := part_first _ _
theorem place_non (k n : List Nat) (c : Nat) (hk : k.length = 32) : ∀ (j : Nat) (v : Value), (ints .u8 n)[j]? = some v → (placeA k n c)[32 + j]? = some v := fun j v h => by
  have h2 := part_first (ints .u8 n) #[.int .u32 (c : Int)] j v h
  rw [Nat.zero_add] at h2
  exact part_second (ints .u8 k) _ 32 (by rw [ints_size, hk]) j v h2
theorem place_cnt (k n : List Nat) (c : Nat) (hk : k.length = 32) (hn : n.length = 12) : (placeA k n c)[44]? = some (.int .u32 (c : Int)) := by
  have h2 := part_second (ints .u8 n) #[.int .u32 (c : Int)] 12 (by rw [ints_size, hn]) 0 _ rfl
  exact part_second (ints .u8 k) _ 32 (by rw [ints_size, hk]) 12 _ h2
theorem arr_cells {H : Type} {enc : TypeId × Value → H} {W : World} {base : Nat} {sp : Nat → Bool} {held : Bool} {fuel : Nat} {cs : List Value} {x : DataW H × List MemPlace} {t e : TypeId} {n B : Nat} {kd : IntKind} (ht : Tryd.prog.underlying t = some (.array n e)) (he : Tryd.prog.underlying e = some (.int kd)) (ct : Tryd.prog.cellsOf t = n) (ce : Tryd.prog.cellsOf e = 1) (hB : ∀ k : Int, (Lit.int kd k).wf = true → 0 ≤ k ∧ k < B)
    (hf : DataW.trod enc Tryd.prog W base sp held fuel t cs = some x) : ∃ l : List Nat, cs = (ints kd l).toList ∧ l.length = n ∧ ∀ (i x : Nat), l[i]? = some x → x < B := by
  obtain ⟨xs, m, rfl, hx, hlen, hn, hel⟩ := DataW.trod_array ht hf
  rw [ct] at hlen
  have hb : ∀ i, ∃ k : Nat, i < n → cs[i]? = some (.int kd (k : Int)) ∧ k < B := by
    intro i
    by_cases hi : i < n
    · have h1 := hel i hi
      rw [ce, Nat.mul_one] at h1
      have hxi : xs[i]? = some (xs[i]'(by omega)) := List.getElem?_eq_getElem _
      rw [hxi] at h1
      obtain ⟨k, e1, e2, hwf⟩ := DataW.trod_int he h1
      have hi' : i < cs.length := by omega
      have e3 : (cs.drop i).take 1 = [cs[i]] := by
        rw [List.drop_eq_getElem_cons hi']
        rfl
      rw [e3] at e1
      obtain ⟨h2, h3⟩ := hB k hwf
      refine ⟨k.toNat, fun _ => ⟨?_, by omega⟩⟩
      rw [Int.toNat_of_nonneg h2, List.getElem?_eq_getElem hi']
      simpa using e1
    · exact ⟨0, fun h' => absurd h' hi⟩
  let b : Nat → Nat := fun i => Classical.choose (hb i)
  have b1 : ∀ i, i < n → cs[i]? = some (.int kd (b i : Int)) ∧ b i < B := fun i => Classical.choose_spec (hb i)
  refine ⟨(List.range n).map b, ?_, by simp, fun i x hx => ?_⟩
  · apply List.ext_getElem?
    intro j
    by_cases hj : j < n
    · rw [(b1 j hj).1]
      have h9 : (ints kd ((List.range n).map b))[j]? = some (.int kd (b j : Int)) := ints_get (by simp [hj])
      rw [← Array.getElem?_toList] at h9
      exact h9.symm
    · have h9 : (ints kd ((List.range n).map b)).toList.length = n := by simp [ints]
      rw [List.getElem?_eq_none (by omega), List.getElem?_eq_none (by omega)]
  · rw [List.getElem?_map] at hx
    obtain ⟨y, hy, rfl⟩ := Option.map_eq_some_iff.1 hx
    obtain ⟨h1, h2⟩ := List.getElem?_eq_some_iff.1 hy
    simp at h1 h2
    rw [← h2]
    exact (b1 _ h1).2
theorem c_u32 : Tryd.prog.cellsOf 132 = 1 := by kernel_rfl
section
variable {ops : Array Oper} {rest : List Oper} {o : Oper} {a : Act} {w : World} {Q : Exit → Act → World → Prop} {d : Nat}
/-- An array in the midst of a block is read. -/
theorem wv_partA (hd : o.dst = some d) (hw : Region.wanted o (yielded ops a.tmps) = true) (t : TypeId) (x : Operand) (ho : o.op = .load t x) (g off : Nat) (hx : a.eval x = .pointer (some ⟨g, off, none⟩)) {t' : TypeId} (cs es : Array Value) (len : Nat) (e : TypeId) (hu : Tryd.prog.underlying t = some (.array len e)) (hs : (Tryd.prog.info? t).map (·.size) = some es.size)
    (hg : Blk w g t' cs) (hp : ∀ j v, es[j]? = some v → cs[off + j]? = some v) (h : wpList Tryd.prog ops Q rest (a.put o.dst (.agg es)) w) : wpList Tryd.prog ops Q (o :: rest) a w :=
  BigFrame.wpList_want hw fun K hK => by
    unfold Oper.wp execOp
    simp only [ho, hx, Instr.loadAt, Instr.sureAddr, Sem.run_bind, Sem.run_pure, Result.andThen_ok, run_loadVar_at w g off t' t cs es (0, 0) _ hg hp hu rfl hs]
    exact hK _ _ h
end
section
variable {P : Program} {h : List Oper} {A0 A : Act} {W0 : World} {S : Nat → Option (Value → World → Prop)} {sp O : List Nat} {E : List (Nat × Nat)} {i : Nat} {o : Oper}
theorem ow_partA (hA : Full h A0 A S sp) (hw : Wants h A0 A S O E W0.heap.size i o) (d : Nat) (v : Value) (hdet : detE h sp E i o = true) (hsel : notSel o = true) (hd : o.dst = some d) (hds : sp.contains d = false) (hO : O.contains d = false) (hv : A.tmps[d]? = some v) (ty : TypeId) (x : Operand) (ho : o.op = .load ty x) (g off : Nat) (hx : A.eval x = .pointer (some ⟨g, off, none⟩)) (t : TypeId) (cs es : Array Value) (len : Nat) (e : TypeId) (hu : P.underlying ty = some (.array len e)) (hi : (P.info? ty).map (·.size) = some es.size)
    (hb : ∀ w, Below W0.heap.size W0 w → Blk w g t cs) (hp : ∀ j v, es[j]? = some v → cs[off + j]? = some v) (hvB : v = .agg es) : OwnOk P h A0 W0 (relR A S) O E i o :=
  ow_q hA hdet hsel hw d v hd hds hO hv fun w hw => by
    unfold Oper.quietAt execOp
    simp only [ho, hx, Instr.loadAt, Instr.sureAddr, Sem.run_bind, Sem.run_pure, Result.andThen_ok, run_loadVar_at w g off t ty cs es (0, 0) _ (hb w hw) hp hu rfl hi]
    exact ⟨rfl, hvB.symm⟩
end
end Go.Proofs.YtniogaimhkcedaaDoor.sh
/-
  Regions that draw their order, where no operation takes a block over: what a slot holds may be a pair whose slice is new.
-/
namespace Go.Proofs.YtniogaimhkcedaaDoor.sh
open Go Go.RowKit
set_option linter.unusedVariables false
set_option linter.unusedSimpArgs false

theorem grown_empty {w w' : World} {row : Option Nat} (h : w.grownBy w' row) (hr : ∀ b, row = some b → False) : Below w.heap.size w w' := ⟨h.os, h.tape, h.output, h.size, fun k hk => h.block k hk (fun e => hr k e.symm)⟩
/-- A region that draws its order: each of the first n operations makes a value of which R holds; owners' blocks are apart; the last operations wait for all of those. -/
theorem region_ownN {P : Program} {Q : Exit → Act → World → Prop} {id : Nat} {a : Act} {w : World} (W0 : World) (n : Nat) {l : List Oper} (R : Nat → Value → World → Prop) (O : List Nat) (E : List (Nat × Nat)) (ds : List Nat) (hm : P.follows .mixedOrders = true)
    (hE : edgesIn (l.take n) = true) (hG : guardsIn (l.take n) = true) (hA : dstsApart (l.take n) 0 = true) (hI : dstsIn (l.take n) a.tmps.size = true) (hT : tailUnder (l.take n) (l.drop n) = true)
    (hS : Region.seqB .any l.toArray (l.drop n).length (l.take n).length (Array.replicate (l.take n).length true ++ Array.replicate (l.drop n).length false) = true)
    (hEw : (E.all fun q => O.contains q.2 && match (l.take n)[q.1]? with | some o => waitsFor (l.take n) o q.2 | none => false) = true) (hEn : apartB (E.map (·.2)) = true)
    (hds : dstsOf (l.take n) = ds)
    (hst1 : ∀ d v w w', O.contains d = false → R d v w → Below W0.heap.size W0 w → Below W0.heap.size w w' → (E = [] → Below w.heap.size w w') → R d v w')
    (hst2 : ∀ d v w w' row, O.contains d = true → R d v w → w.grownBy w' row → (blkOf v = none ∨ blkOf v ≠ row) → (∀ b, blkOf v = some b → b < w.heap.size) → R d v w') (hw : Below W0.heap.size W0 w)
    (hok : OwnAll P (l.take n) a W0 R O E 0 (l.take n))
    (hfin : ∀ (f : Nat → Value) w', (∀ d ∈ ds, d ∉ E.map (·.2) → R d (f d) w' ∧ (O.contains d = true → ∀ b, blkOf (f d) = some b → W0.heap.size ≤ b ∧ b < w'.heap.size)) →
      (∀ d ∈ ds, ∀ d' ∈ ds, d ∉ E.map (·.2) → d' ∉ E.map (·.2) → O.contains d = true → O.contains d' = true → d ≠ d' → ∀ b, blkOf (f d) = some b → blkOf (f d') ≠ some b) → Below W0.heap.size W0 w' →
      wpList P l.toArray Q (l.drop n) (putR a (ds.map fun d => (d, f d))) w') : (Code.region id l.toArray true).wp P Q a w := by
  have e : l.take n ++ l.drop n = l := List.take_append_drop n l
  refine wp_region_any hm ?_
  generalize hh : l.take n = h at *
  have hEw' : ∀ q ∈ E, O.contains q.2 = true ∧ ∃ o, h[q.1]? = some o ∧ waitsFor h o q.2 = true := fun q hq => by
    have := List.all_eq_true.1 hEw q hq
    simp only [Bool.and_eq_true] at this
    refine ⟨this.1, ?_⟩
    cases ho : h[q.1]? with
    | none => simp [ho] at this
    | some o => exact ⟨o, rfl, by simpa [ho] using this.2⟩
  have main := wpAny_inv (P := P) (l := h) (Q := headPost P (h ++ l.drop n).toArray Q (l.drop n))
    (fun listed a' w' => Fr h a a' ∧ Below W0.heap.size W0 w' ∧ (∀ d, Liv h E listed d → ∃ v, a'.tmps[d]? = some v ∧ R d v w' ∧ (O.contains d = true → ∀ b, blkOf v = some b → W0.heap.size ≤ b ∧ b < w'.heap.size)) ∧
      ∀ d d', Liv h E listed d → Liv h E listed d' → O.contains d = true → O.contains d' = true → d ≠ d' → ∀ b, (a'.tmps[d]?).bind blkOf = some b → (a'.tmps[d']?).bind blkOf ≠ some b) hE
    (by
      intro listed a' w' i o hls hI' ho hun hall
      obtain ⟨hF, hB, hV, hD⟩ := hI'
      have hil : i < listed.size := by rw [hls]; exact (List.getElem?_eq_some_iff.1 ho).1
      have hun' : listed.getD i false = false := by simpa [hil] using hun
      obtain ⟨d, hd, hrun⟩ := by have := ownAll_get h 0 hok i o ho; rwa [Nat.zero_add] at this
      have hson : ∀ k, (listed.setIfInBounds i true).getD k false = if k = i then true else listed.getD k false := fun k => by
        by_cases hk : k = i
        · subst hk; simp [hil]
        · rw [if_neg hk, getD_set_ne false (Ne.symm hk)]
      have hlist : ∀ s, waitsFor h o s = true → ∃ (j : Nat) (o' : Oper), h[j]? = some o' ∧ listed.getD j false = true ∧ o'.dst = some s := fun s hs => by
        obtain ⟨x, hx, h1⟩ := Array.any_eq_true'.1 hs
        simp only [Bool.and_eq_true] at h1
        cases ho' : h[x.on]? with
        | none => simp [ho'] at h1
        | some o' => exact ⟨x.on, o', ho', hall x hx h1.1, by simpa [ho'] using h1.2⟩
      have hgot : GotE h E R O W0.heap.size i a' w' o := fun s hs hq => hV s ⟨hlist s hs, fun q hq' he => by
        have := List.all_eq_true.1 hq q hq'
        simp only [he, bne_self_eq_false, Bool.false_or, beq_iff_eq] at this
        rw [this]
        exact hun'⟩
      have hSe : ∀ s, (i, s) ∈ E → Liv h E listed s ∧ O.contains s = true := fun s hs => by
        obtain ⟨h1, o', h2, h3⟩ := hEw' _ hs
        rw [ho] at h2
        cases h2
        refine ⟨⟨hlist s h3, fun q hq he => ?_⟩, h1⟩
        have := apart_eq E hEn q hq (i, s) hs he
        rw [this]
        exact hun'
      obtain ⟨hwant, hwp⟩ := hrun a' w' hF hB hgot
      refine ⟨hwant, wp_false ?_ hwp⟩
      rintro a2 w2 ⟨v, row, rfl, hR, hg, hrow, hblk⟩
      have hdl : d < a'.tmps.size := by
        have := List.all_eq_true.1 hI o (List.mem_of_getElem? ho)
        rw [hd] at this
        rw [hF.size]
        simpa using this
      have hother : ∀ d', d' ≠ d → (a'.put (some d) v).tmps[d']? = a'.tmps[d']? := fun d' hne => by simp [Act.put, Array.getElem?_setIfInBounds_ne (Ne.symm hne)]
      have hself : (a'.put (some d) v).tmps[d]? = some v := by simp [Act.put, hdl]
      have hrange : ∀ s, (i, s) ∈ E → ∀ b, (a'.tmps[s]?).bind blkOf = some b → W0.heap.size ≤ b ∧ b < w'.heap.size := fun s hs b hb => by
        obtain ⟨h1, h2⟩ := hSe s hs
        obtain ⟨u, e1, _, e3⟩ := hV s h1
        rw [e1] at hb
        exact e3 h2 b hb
      have hBw : Below W0.heap.size w' w2 := grown_mono hg hB.size (fun b hb => by
        obtain ⟨s, hs, hb'⟩ := hrow b hb
        exact (hrange s hs b hb').1)
      have hold : ∀ d', Liv h E (listed.setIfInBounds i true) d' → d' ≠ d → Liv h E listed d' := fun d' hL hne => by
        obtain ⟨⟨j, o', h1, h2, h3⟩, h4⟩ := hL
        refine ⟨⟨j, o', h1, ?_, h3⟩, fun q hq he => ?_⟩
        · rw [hson j] at h2
          split at h2
          · next hji => subst hji; rw [ho] at h1; cases h1; rw [hd] at h3; exact absurd (Option.some.inj h3).symm hne
          · exact h2
        · have := h4 q hq he
          rw [hson q.1] at this
          split at this
          · cases this
          · exact this
      have hne_s : ∀ s d', (i, s) ∈ E → Liv h E (listed.setIfInBounds i true) d' → s ≠ d' := fun s d' hs hL he => by
        have := hL.2 (i, s) hs he
        rw [hson i, if_pos rfl] at this
        cases this
      refine ⟨⟨by rw [size_put]; exact hF.size, hF.defers, fun d' h' => ?_⟩, hB.trans hBw, fun d' hL => ?_, fun d1 d2 hL1 hL2 hO1 hO2 hne b hb1 hb2 => ?_⟩
      · rw [hother d' (fun e2 => h' i o ho (by rw [hd, e2]))]
        exact hF.out d' h'
      · by_cases hdd : d' = d
        · subst hdd
          refine ⟨v, hself, hR, fun hO b hb => ?_⟩
          rcases hblk hO b hb with ⟨h1, h2⟩ | ⟨s, hs, hb'⟩
          · exact ⟨Nat.le_trans hB.size h1, h2⟩
          · have := hrange s hs b hb'
            exact ⟨this.1, Nat.lt_of_lt_of_le this.2 hg.size⟩
        · have hL' := hold d' hL hdd
          obtain ⟨u, e1, e2, e3⟩ := hV d' hL'
          refine ⟨u, by rw [hother d' hdd]; exact e1, ?_, fun hO b hb => ⟨(e3 hO b hb).1, Nat.lt_of_lt_of_le (e3 hO b hb).2 hg.size⟩⟩
          cases hO : O.contains d' with
          | false => exact hst1 d' u w' w2 hO e2 hB hBw (fun hE0 => grown_empty hg (fun b hb => by obtain ⟨s, hs, _⟩ := hrow b hb; rw [hE0] at hs; cases hs))
          | true =>
            refine hst2 d' u w' w2 row hO e2 hg ?_ (fun b hb => (e3 hO b hb).2)
            cases hb : blkOf u with
            | none => exact .inl rfl
            | some b =>
              refine .inr fun hr => ?_
              obtain ⟨s, hs, hb'⟩ := hrow b hr.symm
              obtain ⟨h1, h2⟩ := hSe s hs
              exact hD s d' h1 hL' h2 hO (hne_s s d' hs hL) b hb' (by rw [e1]; exact hb)
      · by_cases h1 : d1 = d
        · subst h1
          have h2 : d2 ≠ d1 := Ne.symm hne
          have hL2' := hold d2 hL2 h2
          rw [hother d2 h2] at hb2
          rw [hself] at hb1
          rcases hblk hO1 b hb1 with ⟨h3, _⟩ | ⟨s, hs, hb'⟩
          · obtain ⟨u, e1, _, e3⟩ := hV d2 hL2'
            rw [e1] at hb2
            have := (e3 hO2 b hb2).2
            omega
          · obtain ⟨h4, h5⟩ := hSe s hs
            exact hD s d2 h4 hL2' h5 hO2 (hne_s s d2 hs hL2) b hb' hb2
        · have hL1' := hold d1 hL1 h1
          rw [hother d1 h1] at hb1
          by_cases h2 : d2 = d
          · subst h2
            rw [hself] at hb2
            rcases hblk hO2 b hb2 with ⟨h3, _⟩ | ⟨s, hs, hb'⟩
            · obtain ⟨u, e1, _, e3⟩ := hV d1 hL1'
              rw [e1] at hb1
              have := (e3 hO1 b hb1).2
              omega
            · obtain ⟨h4, h5⟩ := hSe s hs
              exact hD s d1 h4 hL1' h5 hO1 (hne_s s d1 hs hL1) b hb' hb1
          · rw [hother d2 h2] at hb2
            exact hD d1 d2 hL1' (hold d2 hL2 h2) hO1 hO2 hne b hb1 hb2)
    (by
      intro a' w' hI'
      obtain ⟨hF, hB, hV, hD⟩ := hI'
      have hliv : ∀ d ∈ ds, d ∉ E.map (·.2) → Liv h E (Array.replicate h.length true) d := fun d hd hn => by
        rw [← hds] at hd
        obtain ⟨o, ho, hd'⟩ := List.mem_filterMap.1 hd
        obtain ⟨i, hi, he⟩ := List.getElem_of_mem ho
        exact ⟨⟨i, o, by rw [List.getElem?_eq_getElem hi, he], by simp [hi], hd'⟩, fun q hq he => absurd (List.mem_map.2 ⟨q, hq, he⟩) hn⟩
      have hsome : ∀ d ∈ ds, ∃ v, a'.tmps[d]? = some v := fun d hd => by
        rw [← hds] at hd
        obtain ⟨o, ho, hd'⟩ := List.mem_filterMap.1 hd
        have := List.all_eq_true.1 hI o ho
        rw [hd'] at this
        exact ⟨_, Array.getElem?_eq_getElem (by rw [hF.size]; simpa using this)⟩
      have hfr := hfin (fun d => (a'.tmps[d]?).getD undef) w' (fun d hd hn => by obtain ⟨v, h1, h2⟩ := hV d (hliv d hd hn); simp only [h1, Option.getD_some]; exact h2)
        (fun d hd d' hd' hn hn' hO hO' hne b hb hb' => by
          obtain ⟨v, h1, _⟩ := hV d (hliv d hd hn)
          obtain ⟨v', h1', _⟩ := hV d' (hliv d' hd' hn')
          simp only [h1, h1', Option.getD_some] at hb hb'
          exact hD d d' (hliv d hd hn) (hliv d' hd' hn') hO hO' hne b (by rw [h1]; exact hb) (by rw [h1']; exact hb')) hB
      have ea : a' = putR a (ds.map fun d => (d, (a'.tmps[d]?).getD undef)) := by
        refine act_eq (Array.ext_getElem? fun d => ?_) (by rw [putR_defers]; exact hF.defers)
        by_cases hdl : d < a.tmps.size
        · rw [putR_get (fun d => (a'.tmps[d]?).getD undef) d ds a hdl]
          by_cases hd : d ∈ ds
          · rw [if_pos hd]
            obtain ⟨v, h1⟩ := hsome d hd
            simp [h1]
          · rw [if_neg hd]
            refine hF.out d fun i o ho hd' => hd ?_
            rw [← hds]
            exact List.mem_filterMap.2 ⟨o, List.mem_of_getElem? ho, hd'⟩
        · rw [Array.getElem?_eq_none (by rw [hF.size]; omega), Array.getElem?_eq_none (by rw [putR_size]; omega)]
      rw [← ea] at hfr
      show wpList P (h ++ l.drop n).toArray Q (l.drop n) a' w'
      rw [e]
      exact hfr)
    h.length (Array.replicate h.length false) a { w with drawn := w.drawn + 1 } (by simp) (by simp [open_])
    ⟨⟨rfl, rfl, fun _ _ => rfl⟩, hw.drew, fun d hL => by
      exfalso
      obtain ⟨⟨i, o, _, hon, _⟩, _⟩ := hL
      rw [Array.getD_eq_getD_getElem?, Array.getElem?_replicate] at hon
      split at hon <;> simp at hon, fun d d' hL => by
      exfalso
      obtain ⟨⟨i, o, _, hon, _⟩, _⟩ := hL
      rw [Array.getD_eq_getD_getElem?, Array.getElem?_replicate] at hon
      split at hon <;> simp at hon⟩
  have h3 := lift_under (Q := Q) hE hG hT (by rw [e]; exact hS) h.length (Array.replicate h.length false) a _ (by simp) (by simp [open_]) (closed_none _) main
  rw [e] at h3
  have e1 : l.toArray.size = h.length + (l.drop n).length := by rw [← List.length_append, e]; simp
  rw [e1, show Array.replicate (h.length + (l.drop n).length) false = Array.replicate h.length false ++ Array.replicate (l.drop n).length false by simp]
  exact h3
theorem region_ownNL {P : Program} {Q : Exit → Act → World → Prop} {id : Nat} {a : Act} {w : World} (W0 : World) (n : Nat) {l : List Oper} (vals : List (Nat × Value)) (L : List (Nat × (Value → World → Prop))) (O : List Nat) (E : List (Nat × Nat)) (hm : P.follows .mixedOrders = true)
    (hE : edgesIn (l.take n) = true) (hG : guardsIn (l.take n) = true) (hA : dstsApart (l.take n) 0 = true) (hI : dstsIn (l.take n) a.tmps.size = true) (hT : tailUnder (l.take n) (l.drop n) = true)
    (hS : Region.seqB .any l.toArray (l.drop n).length (l.take n).length (Array.replicate (l.take n).length true ++ Array.replicate (l.drop n).length false) = true)
    (hv : (vals.all fun p => (dstsOf (l.take n)).contains p.1) = true) (hsp : ((L.map (·.1)).all fun d => (dstsOf (l.take n)).contains d) = true) (hO : (O.all fun d => (L.map (·.1)).contains d) = true)
    (hEw : (E.all fun q => O.contains q.2 && match (l.take n)[q.1]? with | some o => waitsFor (l.take n) o q.2 | none => false) = true) (hEn : apartB (E.map (·.2)) = true)
    (hst1 : ∀ q ∈ L, O.contains q.1 = false → ∀ (v : Value) (w w' : World), q.2 v w → Below W0.heap.size W0 w → Below W0.heap.size w w' → (E = [] → Below w.heap.size w w') → q.2 v w')
    (hst2 : ∀ q ∈ L, O.contains q.1 = true → ∀ (v : Value) (w w' : World) (row : Option Nat), q.2 v w → w.grownBy w' row → (blkOf v = none ∨ blkOf v ≠ row) → (∀ b, blkOf v = some b → b < w.heap.size) → q.2 v w') (hw : Below W0.heap.size W0 w)
    (hok : Full (l.take n) a (putR a vals) (specOf L) (L.map (·.1)) → OwnAll P (l.take n) a W0 (relR (putR a vals) (specOf L)) O E 0 (l.take n))
    (hfin : ∀ (f : Nat → Value) w', (∀ d p, specOf L d = some p → (E.map (·.2)).contains d = false → p (f d) w' ∧ (O.contains d = true → ∀ b, blkOf (f d) = some b → W0.heap.size ≤ b ∧ b < w'.heap.size)) →
      (∀ d d', O.contains d = true → O.contains d' = true → (E.map (·.2)).contains d = false → (E.map (·.2)).contains d' = false → d ≠ d' → ∀ b, blkOf (f d) = some b → blkOf (f d') ≠ some b) → Below W0.heap.size W0 w' →
      wpList P l.toArray Q (l.drop n) (putR (putR a vals) ((L.map (·.1)).map fun d => (d, f d))) w') : (Code.region id l.toArray true).wp P Q a w := by
  have hfull : Full (l.take n) a (putR a vals) (specOf L) (L.map (·.1)) := full_put vals hv (specOf_none L)
  have hOL : ∀ d, O.contains d = true → d ∈ L.map (·.1) := fun d hd => List.contains_iff_mem.1 (List.all_eq_true.1 hO d (List.contains_iff_mem.1 hd))
  have hEO : ∀ d, d ∈ E.map (·.2) → d ∈ L.map (·.1) := fun d hd => by
    obtain ⟨q, hq, rfl⟩ := List.mem_map.1 hd
    have := List.all_eq_true.1 hEw q hq
    simp only [Bool.and_eq_true] at this
    exact hOL _ this.1
  have hin : ∀ d, d ∈ L.map (·.1) → d ∈ dstsOf (l.take n) := fun d hd => List.contains_iff_mem.1 (List.all_eq_true.1 hsp d hd)
  have hnc : ∀ d, (E.map (·.2)).contains d = false → d ∉ E.map (·.2) := fun d h hm => by rw [List.contains_iff_mem.2 hm] at h; cases h
  refine region_ownN W0 n (relR (putR a vals) (specOf L)) O E _ hm hE hG hA hI hT hS hEw hEn rfl ?_ ?_ hw (hok hfull) ?_
  · intro d v w w' hd h1 h2 h3 h9
    unfold relR at *
    cases hs : specOf L d with
    | none => rw [hs] at h1; exact h1
    | some p =>
      rw [hs] at h1
      obtain ⟨q, hq, rfl, rfl⟩ := specOf_mem' L d p hs
      exact hst1 q hq hd v w w' h1 h2 h3 h9
  · intro d v w w' row hd h1 h2 h3 h4
    unfold relR at *
    cases hs : specOf L d with
    | none => rw [hs] at h1; exact h1
    | some p =>
      rw [hs] at h1
      obtain ⟨q, hq, rfl, rfl⟩ := specOf_mem' L d p hs
      exact hst2 q hq hd v w w' row h1 h2 h3 h4
  · intro f w' hf hD hb
    have e : putR a ((dstsOf (l.take n)).map fun d => (d, f d)) = putR (putR a vals) ((L.map (·.1)).map fun d => (d, f d)) := by
      refine act_eq (Array.ext_getElem? fun d => ?_) (by rw [putR_defers, putR_defers, putR_defers])
      rw [putR_get', putR_get', putR_size]
      by_cases hd : d < a.tmps.size
      · rw [if_pos hd, if_pos hd]
        by_cases h1 : d ∈ dstsOf (l.take n)
        · rw [if_pos h1]
          by_cases h2 : d ∈ L.map (·.1)
          · rw [if_pos h2]
          · rw [if_neg h2]
            have := (hf d h1 (fun h3 => h2 (hEO d h3))).1
            unfold relR at this
            rw [hfull.spec d h2] at this
            exact this.symm
        · rw [if_neg h1, if_neg (fun h2 => h1 (hin d h2))]
          refine (hfull.out d fun i o ho hdo => h1 ?_).symm
          exact List.mem_filterMap.2 ⟨o, List.mem_of_getElem? ho, hdo⟩
      · rw [if_neg hd, if_neg hd]
    rw [e]
    refine hfin f w' (fun d p hp hn => ?_) (fun d d' h1 h2 h3 h4 h5 => hD d (hin d (hOL d h1)) d' (hin d' (hOL d' h2)) (hnc d h3) (hnc d' h4) h1 h2 h5) hb
    by_cases hd : d ∈ L.map (·.1)
    · have := hf d (hin d hd) (hnc d hn)
      unfold relR at this
      rw [hp] at this
      exact this
    · rw [specOf_none L d hd] at hp
      cases hp

section
variable {P : Program} {h : List Oper} {A0 A : Act} {W0 : World} {S : Nat → Option (Value → World → Prop)} {sp O : List Nat} {E : List (Nat × Nat)} {i : Nat} {o : Oper}
/-- What is made of one slot alone. -/
theorem ow_pure (hw : Wants h A0 A S O E W0.heap.size i o) (d s : Nat) (hd : o.dst = some d) (p q : Value → World → Prop) (hps : S s = some p) (hpd : S d = some q) (hws : waitsFor h o s = true) (hE : (E.all fun q => q.2 != s || q.1 == i) = true) (hO : O.contains d = false)
    (hrun : ∀ (a : Act) (w : World), p (a.eval (.tmp s)) w → ∃ v, (execOp a.eval o).run P w = .ok (.value v) w ∧ q v w) : OwnOk P h A0 W0 (relR A S) O E i o :=
  ow_run hw d hd fun a w hF hB hgot => by
    obtain ⟨v, h1, h2⟩ := hrun a w (gotE_spec hgot p hws hE hps).1
    exact ⟨v, w, none, h1, rel_spec q hpd h2, grown_none (Below.refl _ _), fun b hb => (by cases hb), fun h3 => by rw [hO] at h3; cases h3⟩
/-- A known value made of one slot alone. -/
theorem ow_pureD (hA : Full h A0 A S sp) (hw : Wants h A0 A S O E W0.heap.size i o) (d s : Nat) (hd : o.dst = some d) (p : Value → World → Prop) (v : Value) (hps : S s = some p) (hds : sp.contains d = false) (hv : A.tmps[d]? = some v) (hws : waitsFor h o s = true) (hE : (E.all fun q => q.2 != s || q.1 == i) = true) (hO : O.contains d = false)
    (hrun : ∀ (a : Act) (w : World), p (a.eval (.tmp s)) w → (execOp a.eval o).run P w = .ok (.value v) w) : OwnOk P h A0 W0 (relR A S) O E i o :=
  ow_run hw d hd fun a w hF hB hgot => by
    have h1 := hrun a w (gotE_spec hgot p hws hE hps).1
    exact ⟨v, w, none, h1, rel_det hA hds hv, grown_none (Below.refl _ _), fun b hb => (by cases hb), fun h3 => by rw [hO] at h3; cases h3⟩
end
/-- A pair of bytes and a number. -/
def PairV (r : Int) (U : List Nat) : Value → World → Prop := fun v w => ∃ u, v = .tuple #[u, .int .i64 r] ∧ BytesV u w U
theorem PairV.under {r : Int} {U : List Nat} {v : Value} {w w' : World} (h : PairV r U v w) (hb : Below w.heap.size w w') : PairV r U v w' := by
  obtain ⟨u, h1, h2⟩ := h
  exact ⟨u, h1, h2.under hb⟩
def BytesS (U : List Nat) : Value → World → Prop := fun v w => BytesV v w U
theorem mv_pair {r : Int} {U : List Nat} {o : Oper} {a : Act} {s : Nat} {w : World} (ho : o.op = .move (.tmp s)) (h : PairV r U (a.eval (.tmp s)) w) : ∃ v, (execOp a.eval o).run Tryd.prog w = .ok (.value v) w ∧ PairV r U v w := by
  refine ⟨_, ?_, h⟩
  unfold execOp
  simp only [ho]
  simp [go_sem]
theorem ex_fst {r : Int} {U : List Nat} {o : Oper} {a : Act} {s : Nat} {w : World} (ho : o.op = .extract (.tmp s) 0) (h : PairV r U (a.eval (.tmp s)) w) : ∃ v, (execOp a.eval o).run Tryd.prog w = .ok (.value v) w ∧ BytesS U v w := by
  obtain ⟨u, h1, h2⟩ := h
  refine ⟨u, ?_, h2⟩
  unfold execOp
  simp only [ho, h1]
  simp [go_sem]
theorem ex_snd {r : Int} {U : List Nat} {o : Oper} {a : Act} {s : Nat} {w : World} (ho : o.op = .extract (.tmp s) 1) (h : PairV r U (a.eval (.tmp s)) w) : (execOp a.eval o).run Tryd.prog w = .ok (.value (.int .i64 r)) w := by
  obtain ⟨u, h1, h2⟩ := h
  unfold execOp
  simp only [ho, h1]
  simp [go_sem]
theorem as_bytes {U : List Nat} {o : Oper} {a : Act} {s : Nat} {w : World} (ho : o.op = .assign (.tmp s)) (h : BytesS U (a.eval (.tmp s)) w) : ∃ v, (execOp a.eval o).run Tryd.prog w = .ok (.value v) w ∧ BytesS U v w := by
  refine ⟨_, ?_, h⟩
  unfold execOp
  simp only [ho]
  simp [go_sem]
end Go.Proofs.YtniogaimhkcedaaDoor.sh
/-
  StreamEnd: behind the last count there is no block more; more bytes than may be are refused.
-/
namespace Go.Proofs.YtniogaimhkcedaaDoor.sh
open Go Go.RowKit
set_option linter.unusedVariables false
set_option linter.unusedSimpArgs false

theorem run_rem8c {o : Oper} {a : Act} {x : Operand} {i z : Nat} (ho : o.op = .binOp .rem 5 x (.const (.int .u8 4)) 5) (hx : a.eval x = .int .u8 (i : Int)) (hz : z = i % 4) (hi : i < 256) (w : World) : (execOp a.eval o).run Tryd.prog w = .ok (.value (.int .u8 (z : Int))) w := by
  have e3 : a.eval (.const (.int .u8 4)) = .int .u8 4 := rfl
  have h3 : (i : Int).tmod 4 = (z : Int) := by rw [hz, Int.tmod_eq_emod_of_nonneg (by omega)]; omega
  unfold execOp
  simp only [ho, hx, e3]
  simp [go_sem, h3]
theorem run_c864 {o : Oper} {a : Act} {x : Operand} {z : Nat} (ho : o.op = .convert 5 44 x) (hx : a.eval x = .int .u8 (z : Int)) (hz : z < 256) (w : World) : (execOp a.eval o).run Tryd.prog w = .ok (.value (.int .u64 (z : Int))) w := by
  unfold execOp
  simp only [ho, hx]
  simp [go_sem, IntKind.wrap_u64]
  omega
theorem run_c6432 {o : Oper} {a : Act} {x : Operand} {z : Nat} (ho : o.op = .convert 44 132 x) (hx : a.eval x = .int .u64 (z : Int)) (hz : z < 4294967296) (w : World) : (execOp a.eval o).run Tryd.prog w = .ok (.value (.int .u32 (z : Int))) w := by
  unfold execOp
  simp only [ho, hx]
  simp [go_sem, IntKind.wrap_u32']
  omega
theorem run_subL {o : Oper} {a : Act} {x : Operand} {i z : Nat} (ho : o.op = .binOp .sub 44 (.const (.int .u64 4294967295)) x 44) (hx : a.eval x = .int .u64 (i : Int)) (hz : z + i = 4294967295) (w : World) : (execOp a.eval o).run Tryd.prog w = .ok (.value (.int .u64 (z : Int))) w := by
  have e3 : a.eval (.const (.int .u64 4294967295)) = .int .u64 4294967295 := rfl
  unfold execOp
  simp only [ho, hx, e3]
  simp [go_sem, IntKind.wrap_u64]
  omega
theorem run_leqI {o : Oper} {a : Act} {x y : Operand} {m n : Nat} {b : Bool} (ho : o.op = .binOp .leq 3 x y 3) (hx : a.eval x = .int .i64 (m : Int)) (hy : a.eval y = .int .i64 (n : Int)) (hb : b = decide (m ≤ n)) (w : World) : (execOp a.eval o).run Tryd.prog w = .ok (.value (.bool b)) w := by
  unfold execOp
  simp only [ho, hx, hy]
  simp [go_sem, hb]
theorem nat_of_u8 {y : Int} (h : (Lit.int .u8 y).wf = true) : ∃ a : Nat, y = (a : Int) ∧ a < 256 := by
  have := bounds_u8 h
  exact ⟨y.toNat, by omega, by omega⟩
theorem nat_of_u16 {y : Int} (h : (Lit.int .u16 y).wf = true) : ∃ a : Nat, y = (a : Int) ∧ a < 65536 := by
  have := bounds_u16 h
  exact ⟨y.toNat, by omega, by omega⟩
theorem make_new {B : Nat} {o : Oper} {a : Act} (c : Nat) (hc : c < 1000000) (ho : o.op = .makeSlice 23 (.const (.int .i64 (c : Int))) (.const (.int .i64 (c : Int)))) (w : World) (hB : B ≤ w.heap.size) : ∃ v w', (execOp a.eval o).run Tryd.prog w = .ok (.value v) w' ∧ Row B 5 .u8 (List.replicate c 0) v w' ∧ Below w.heap.size w w' ∧ ∀ b, blkOf v = some b → w.heap.size ≤ b ∧ b < w'.heap.size := by
  refine ⟨.slice (some ⟨w.heap.size, 0, none⟩) c c, w.alloc (.cells (ints .u8 (List.replicate c 0)) 5), ?_, blk_row (blk_new _ _ _) (by rw [List.length_replicate]) hB (by unfold maxLen; omega), (Below.refl _ _).alloc (Nat.le_refl _) _, fun b hb => ?_⟩
  · have e3 : a.eval (.const (.int .i64 (c : Int))) = .int .i64 (c : Int) := rfl
    unfold execOp
    simp only [ho, e3]
    simp [run_make8 c hc .i64 w]
  · cases hb
    exact ⟨Nat.le_refl _, by simp⟩
end Go.Proofs.YtniogaimhkcedaaDoor.sh
/-
  StreamBlocks: bytes are turned by blocks that are told one by one.
-/
namespace Go.Proofs.YtniogaimhkcedaaDoor.sh
open Go Go.RowKit
set_option linter.unusedVariables false
set_option linter.unusedSimpArgs false

theorem run_neq8 {o : Oper} {a : Act} {x y : Operand} {m : Nat} (ho : o.op = .binOp .neq 5 x y 5) (hx : a.eval x = .int .u8 (m : Int)) (hy : a.eval y = .int .u8 (m : Int)) (w : World) : (execOp a.eval o).run Tryd.prog w = .ok (.value (.bool false)) w := by
  unfold execOp
  simp only [ho, hx, hy]
  simp [go_sem]
theorem bytes_at {p : Option Addr} {n c : Nat} {w : World} {bs : List Nat} (h : BytesV (.slice p n c) w bs) {i x : Nat} (hx : bs[i]? = some x) : ∃ A, p = some A ∧ A.block < w.heap.size ∧ w.cell? (A.add i) = some (.int .u8 (x : Int)) := by
  obtain ⟨p', c', e1, _, e3⟩ := h
  cases e1
  obtain ⟨A, e4, e6, e5⟩ := e3 (by intro e; rw [e] at hx; cases hx)
  exact ⟨A, e4, e6, e5 i x hx⟩
theorem bytes_cell {A : Addr} {n c : Nat} {w : World} {bs : List Nat} (h : BytesV (.slice (some A) n c) w bs) {i x : Nat} (hx : bs[i]? = some x) : w.cell? (A.add i) = some (.int .u8 (x : Int)) := by
  obtain ⟨A', e1, _, e2⟩ := bytes_at h hx
  cases e1
  exact e2
end Go.Proofs.YtniogaimhkcedaaDoor.sh
/-
  The reference: a word turned, a word of bytes, a quarter.
-/
namespace Go.Proofs.YtniogaimhkcedaaDoor.sh
open Go Go.RowKit
set_option linter.unusedVariables false
set_option linter.unusedSimpArgs false

theorem run_mul32c {o : Oper} {a : Act} {x : Operand} {m z : Nat} (ho : o.op = .binOp .mul 132 x (.const (.int .u32 2)) 132) (hx : a.eval x = .int .u32 (m : Int)) (hz : z = m * 2 % 4294967296) (w : World) : (execOp a.eval o).run Tryd.prog w = .ok (.value (.int .u32 (z : Int))) w := by
  have e3 : a.eval (.const (.int .u32 2)) = .int .u32 2 := rfl
  unfold execOp
  simp only [ho, hx, e3]
  simp [go_sem, IntKind.wrap_u32']
  omega
theorem run_quo32c {o : Oper} {a : Act} {x : Operand} {m z : Nat} (c : Nat) (ho : o.op = .binOp .quo 132 x (.const (.int .u32 (c : Int))) 132) (hx : a.eval x = .int .u32 (m : Int)) (hc : 0 < c) (hm : m < 4294967296) (hz : z = m / c) (w : World) : (execOp a.eval o).run Tryd.prog w = .ok (.value (.int .u32 (z : Int))) w := by
  have e3 : a.eval (.const (.int .u32 (c : Int))) = .int .u32 (c : Int) := rfl
  have h3 : (m : Int).tdiv (c : Int) = (z : Int) := by rw [hz, Int.tdiv_eq_ediv_of_nonneg (by omega)]; rfl
  have h0 : ¬ (c : Int) = 0 := by omega
  have hz' : z < 4294967296 := by rw [hz]; exact Nat.lt_of_le_of_lt (Nat.div_le_self _ _) hm
  unfold execOp
  simp only [ho, hx, e3]
  simp [go_sem, h0, IntKind.wrap_u32']
  have h4 : (m : Int) / (c : Int) = (z : Int) := by rw [hz]; rfl
  rw [if_neg (by omega), h4, show ((z : Int) % 4294967296) = (z : Int) by omega]
theorem run_mulc32 {o : Oper} {a : Act} {x : Operand} {m z : Nat} (c : Nat) (ho : o.op = .binOp .mul 132 (.const (.int .u32 (c : Int))) x 132) (hx : a.eval x = .int .u32 (m : Int)) (hz : z = c * m % 4294967296) (w : World) : (execOp a.eval o).run Tryd.prog w = .ok (.value (.int .u32 (z : Int))) w := by
  have e3 : a.eval (.const (.int .u32 (c : Int))) = .int .u32 (c : Int) := rfl
  have h3 : ((c : Int) * (m : Int)) % 4294967296 = (z : Int) := by rw [hz, Int.natCast_emod, Int.natCast_mul]; rfl
  unfold execOp
  simp only [ho, hx, e3]
  simp [go_sem, IntKind.wrap_u32', h3]
theorem cell_at {k : IntKind} {A : Addr} {n c : Nat} {w : World} {l : List Nat} (h : IntsV k (.slice (some A) n c) w l) {i x : Nat} (hx : l[i]? = some x) : w.cell? (A.add i) = some (.int k (x : Int)) := by
  obtain ⟨p', c', e1, _, e3⟩ := h
  cases e1
  obtain ⟨A', e4, _, e5⟩ := e3 (by intro e; rw [e] at hx; cases hx)
  cases e4
  exact e5 i x hx
theorem IntsV.under' {k : IntKind} {A : Addr} {n c : Nat} {w w' : World} {l : List Nat} (h : IntsV k (.slice (some A) n c) w l) (hl : l ≠ []) (hb : Below w.heap.size w w') : IntsV k (.slice (some A) n c) w' l := by
  refine h.below (fun b hb' => ?_) hb
  obtain ⟨p', c', e1, _, e3⟩ := h
  cases e1
  obtain ⟨A', e4, e5, _⟩ := e3 hl
  cases e4
  cases hb'
  exact e5
theorem row_emp32 {base : Nat} (w : World) (hb : base ≤ w.heap.size) : Row base 132 .u32 [] (.slice (some ⟨w.heap.size, 0, none⟩) 0 0) (w.alloc (.cells #[] 132)) := World.ownsRow_lit w #[] 0 hb (by unfold maxLen; omega) rfl
theorem run_idx0 {o : Oper} {a : Act} {x y : Operand} {i l c g : Nat} {t e : TypeId} (ho : o.op = .indexAddr t x y) (hx : a.eval x = .slice (some ⟨g, 0, none⟩) l c) (hy : a.eval y = .int .i64 (i : Int)) (ht : Tryd.prog.underlying t = some (.slice e)) (hi : i < l) (sz : ∀ w, (sizeOf e).run Tryd.prog w = .ok 1 w) (w : World) : (execOp a.eval o).run Tryd.prog w = .ok (.value (.pointer (some ⟨g, i, none⟩))) w := by
  have h := run_idxS ho hx hy ht hi sz w
  rw [addr_add, Nat.zero_add] at h
  exact h
end Go.Proofs.YtniogaimhkcedaaDoor.sh
/-
  What the small functions of package limb do: products of words, sums of four words, eight bytes as a word.
-/
namespace Go.Proofs.YtniogaimhkcedaaDoor
open Go.RowKit

def sub64Entry : Array Value → Sem Value := fun args => do
  let (x, y, b) ← Extern.MathBitsCarry.three "Sub64" args
  pure (Extern.MathBitsCarry.pair ((x + Extern.MathBitsCarry.m64 - y - b) % Extern.MathBitsCarry.m64) (if x < y + b then 1 else 0))

set_option maxHeartbeats 400000 in
theorem mul64_walk (x y : Int) (w : World) (hx0 : 0 ≤ x) (hx : x < 18446744073709551616) (hy0 : 0 ≤ y) (hy : y < 18446744073709551616) :
    Calls Tryd.prog 80 #[.int .u64 x, .int .u64 y] w fun e w' => e = .returned (.tuple #[.int .u64 (x * y / 18446744073709551616), .int .u64 (x * y % 18446744073709551616)]) ∧ w' = w := by
  go_enter Tryd.func80, Tryd.ntmps80
  go_wp2
  go_ret2
  refine ⟨ret_two ?_ ?_, rfl⟩
  · have hm := mul64_arith x y hx0 hx hy0 hy
    simp only [IntKind.wrap_u64]
    rw [and_low32 x hx0 hx, and_low32 y hy0 hy, and_low32 _ (by omega) (by omega)]
    exact hm
  · rw [IntKind.wrap_u64]

theorem mul64_any (x y : Nat) (w : World) (hx : x < 18446744073709551616) (hy : y < 18446744073709551616) :
    Calls Tryd.prog 80 #[.int .u64 (x : Int), .int .u64 (y : Int)] w fun e w' => ∃ hi lo : Nat, e = .returned (.tuple #[.int .u64 (hi : Int), .int .u64 (lo : Int)]) ∧ w' = w ∧
      Hid (lo < 18446744073709551616 ∧ hi ≤ 18446744073709551614 ∧ lo + 18446744073709551616 * hi = x * y) := by
  refine (mul64_walk x y w (by omega) (by omega) (by omega) (by omega)).mono ?_
  rintro e w' ⟨rfl, rfl⟩
  refine ⟨x * y / 18446744073709551616, x * y % 18446744073709551616, ?_, rfl, ?_⟩
  · simp
  · have : x * y ≤ 18446744073709551615 * 18446744073709551615 := Nat.mul_le_mul (by omega) (by omega)
    show _ ∧ _ ∧ _
    omega

end Go.Proofs.YtniogaimhkcedaaDoor
/-
  Plain arithmetic of digits of base 256: values of rows, carries, folding, borrowing. Nothing of the program is named here.
-/
namespace Go.Proofs.YtniogaimhkcedaaDoor

/-- A fact set aside, that no unifier looks into. -/
structure Kept (p : Prop) : Prop where
  out : p

/-- The number of a row of digits, the lowest first. -/
def val : List Nat → Nat
  | [] => 0
  | d :: r => d + 256 * val r

theorem val_split (l : List Nat) : ∀ k, val l = val (l.take k) + 256 ^ k * val (l.drop k) := by
  induction l with
  | nil => intro k; simp [val]
  | cons d r ih =>
    intro k
    cases k with
    | zero => simp [val]
    | succ k =>
      have h := ih k
      simp only [List.take_succ_cons, List.drop_succ_cons, val]
      rw [h, Nat.pow_succ, Nat.mul_add, Nat.mul_comm (256 ^ k) 256, ← Nat.mul_assoc, Nat.add_assoc]

theorem val_take_succ (l : List Nat) : ∀ k, val (l.take (k + 1)) = val (l.take k) + l.getD k 0 * 256 ^ k := by
  induction l with
  | nil => intro k; simp [val]
  | cons d r ih =>
    intro k
    cases k with
    | zero => simp [val]
    | succ k =>
      have h := ih k
      simp only [List.take_succ_cons, val, List.getD_cons_succ]
      rw [h, Nat.pow_succ, Nat.mul_add, Nat.mul_comm (256 ^ k) 256, Nat.mul_left_comm, Nat.add_assoc]

theorem val_set (l : List Nat) (x : Nat) : ∀ k, k < l.length → val (l.set k (l.getD k 0 + x)) = val l + x * 256 ^ k := by
  induction l with
  | nil => intro k h; simp at h
  | cons d r ih =>
    intro k h
    cases k with
    | zero => simp [val]; omega
    | succ k =>
      have h2 := ih k (by simpa using h)
      simp only [List.set_cons_succ, val, List.getD_cons_succ]
      rw [h2, Nat.pow_succ, Nat.mul_add, Nat.mul_comm (256 ^ k) 256, Nat.mul_left_comm, Nat.add_assoc]

/-- One round of carry. -/
theorem carry_step (l : List Nat) (k : Nat) :
    (val (l.take k) / 256 ^ k + l.getD k 0) % 256 = val l / 256 ^ k % 256 ∧ (val (l.take k) / 256 ^ k + l.getD k 0) / 256 = val (l.take (k + 1)) / 256 ^ (k + 1) := by
  have h1 := val_take_succ l k
  have h2 := val_split l (k + 1)
  have hp : 0 < 256 ^ k := Nat.pow_pos (by decide)
  have e1 : val (l.take (k + 1)) / 256 ^ k = val (l.take k) / 256 ^ k + l.getD k 0 := by rw [h1, Nat.add_mul_div_right _ _ hp]
  constructor
  · rw [h2, Nat.pow_succ, Nat.mul_assoc, Nat.add_mul_div_left _ _ hp, e1]
    omega
  · rw [← e1, Nat.pow_succ, Nat.div_div_eq_div_mul]

theorem getD_over (l : List Nat) (k : Nat) (h : l.length ≤ k) : l.getD k 0 = 0 := by simp [List.getD, h]

/-- A number's first k digits make it up, modulo 256^k. -/
theorem mod_succ (V k : Nat) : V % 256 ^ (k + 1) = V % 256 ^ k + V / 256 ^ k % 256 * 256 ^ k := by
  rw [Nat.pow_succ, Nat.mod_mul, Nat.mul_comm (256 ^ k)]

/-- What folding has gathered after i rounds. -/
def foldTo (V : Nat) : Nat → Nat
  | 0 => 0
  | i + 1 => foldTo V i + (if i < 32 then 1 else 38) * (V / 256 ^ i % 256) * 256 ^ (i % 32)

theorem foldTo_low (V : Nat) : ∀ i, i ≤ 32 → foldTo V i = V % 256 ^ i
  | 0, _ => by simp [foldTo, Nat.mod_one]
  | i + 1, h => by
    rw [foldTo, foldTo_low V i (by omega), mod_succ, if_pos (by omega), Nat.mod_eq_of_lt (show i < 32 by omega), Nat.one_mul]

theorem foldTo_mid (V : Nat) : ∀ j, j ≤ 32 → foldTo V (32 + j) = V % 256 ^ 32 + 38 * (V / 256 ^ 32 % 256 ^ j)
  | 0, _ => by rw [Nat.add_zero, foldTo_low V 32 (by omega)]; simp [Nat.mod_one]
  | j + 1, h => by
    rw [← Nat.add_assoc, foldTo, foldTo_mid V j (by omega), mod_succ (V / 256 ^ 32) j, if_neg (by omega), show (32 + j) % 32 = j from by omega, Nat.pow_add, ← Nat.div_div_eq_div_mul, Nat.mul_add, Nat.mul_assoc 38, Nat.add_assoc]

theorem foldTo_high (V : Nat) (hV : V < 256 ^ 64) : ∀ j, foldTo V (64 + j) = V % 256 ^ 32 + 38 * (V / 256 ^ 32)
  | 0 => by
    have h := foldTo_mid V 32 (by omega)
    rw [show 32 + 32 = 64 + 0 from rfl] at h
    rw [h, Nat.mod_eq_of_lt (show V / 256 ^ 32 < 256 ^ 32 from by
      rw [Nat.div_lt_iff_lt_mul (Nat.pow_pos (by decide)), ← Nat.pow_add]; exact hV)]
  | j + 1 => by
    have h0 : V / 256 ^ (64 + j) = 0 := Nat.div_eq_of_lt (Nat.lt_of_lt_of_le hV (Nat.pow_le_pow_right (by decide) (by omega)))
    rw [← Nat.add_assoc, foldTo, foldTo_high V hV j, h0]
    simp

/-- What folding comes to: 2^256 counts 38 times. -/
theorem foldTo_all (V m : Nat) (hV : V < 256 ^ 64) (hm : V < 256 ^ m) (h32 : 32 ≤ m) : foldTo V m = V % 256 ^ 32 + 38 * (V / 256 ^ 32) := by
  by_cases h : m ≤ 64
  · obtain ⟨j, rfl⟩ : ∃ j, m = 32 + j := ⟨m - 32, by omega⟩
    rw [foldTo_mid V j (by omega), Nat.mod_eq_of_lt (show V / 256 ^ 32 < 256 ^ j from by
      rw [Nat.div_lt_iff_lt_mul (Nat.pow_pos (by decide)), ← Nat.pow_add, Nat.add_comm]; exact hm)]
  · obtain ⟨j, rfl⟩ : ∃ j, m = 64 + j := ⟨m - 64, by omega⟩
    exact foldTo_high V hV j

theorem fold_mod (V : Nat) : (V % 256 ^ 32 + 38 * (V / 256 ^ 32)) % 57896044618658097711785492504343953926634992332820282019728792003956564819949 = V % 57896044618658097711785492504343953926634992332820282019728792003956564819949 := by
  have e : (256 : Nat) ^ 32 = 115792089237316195423570985008687907853269984665640564039457584007913129639936 := by decide
  rw [e]
  omega
theorem fold_less (V : Nat) (h : 256 ^ 32 ≤ V) : V % 256 ^ 32 + 38 * (V / 256 ^ 32) < V := by
  have e : (256 : Nat) ^ 32 = 115792089237316195423570985008687907853269984665640564039457584007913129639936 := by decide
  rw [e] at *
  omega
theorem fold_bound (V : Nat) (h : V < 256 ^ 64) : V % 256 ^ 32 + 38 * (V / 256 ^ 32) < 256 ^ 64 := by
  by_cases h2 : 256 ^ 32 ≤ V
  · exact Nat.lt_trans (fold_less V h2) h
  · rw [Nat.div_eq_of_lt (by omega), Nat.mod_eq_of_lt (by omega)]
    simpa using h

/-- No digit above the 32nd: all of the number is below 2^256. -/
theorem high_none (V m : Nat) (hm : V < 256 ^ m) (h32 : 32 ≤ m) (h : ∀ i, 32 ≤ i → i < m → V / 256 ^ i % 256 = 0) : V < 256 ^ 32 := by
  have : ∀ j, j ≤ m - 32 → V % 256 ^ (32 + j) = V % 256 ^ 32 := by
    intro j
    induction j with
    | zero => intro _; rfl
    | succ j ih => intro hj; rw [← Nat.add_assoc, mod_succ, h (32 + j) (by omega) (by omega), ih (by omega)]; simp
  have h2 := this (m - 32) (by omega)
  rw [show 32 + (m - 32) = m from by omega, Nat.mod_eq_of_lt hm] at h2
  rw [h2]
  exact Nat.mod_lt _ (Nat.pow_pos (by decide))
theorem high_some (V i : Nat) (hi : 32 ≤ i) (h : V / 256 ^ i % 256 ≠ 0) : 256 ^ 32 ≤ V := by
  refine Nat.le_of_not_lt fun h2 => h ?_
  rw [Nat.div_eq_of_lt (Nat.lt_of_lt_of_le h2 (Nat.pow_le_pow_right (by decide) hi))]

/-- Comparing from the highest digit down. -/
theorem cmp_same (x y i : Nat) (h : x / 256 ^ (i + 1) = y / 256 ^ (i + 1)) (hd : x / 256 ^ i % 256 = y / 256 ^ i % 256) : x / 256 ^ i = y / 256 ^ i := by
  rw [Nat.pow_succ, ← Nat.div_div_eq_div_mul, ← Nat.div_div_eq_div_mul] at h
  omega
theorem cmp_other (x y i : Nat) (h : x / 256 ^ (i + 1) = y / 256 ^ (i + 1)) (hd : x / 256 ^ i % 256 ≠ y / 256 ^ i % 256) : (x / 256 ^ i % 256 < y / 256 ^ i % 256 ↔ x < y) := by
  rw [Nat.pow_succ, ← Nat.div_div_eq_div_mul, ← Nat.div_div_eq_div_mul] at h
  have hp : 0 < 256 ^ i := Nat.pow_pos (by decide)
  constructor
  · intro h2
    have h3 : x / 256 ^ i < y / 256 ^ i := by omega
    refine Nat.lt_of_not_le fun h4 => ?_
    have := Nat.div_le_div_right (c := 256 ^ i) h4
    omega
  · intro h2
    have := Nat.div_le_div_right (c := 256 ^ i) (Nat.le_of_lt h2)
    omega

/-- Taking off y from x, digit by digit. -/
def bor (x y i : Nat) : Nat := if x % 256 ^ i < y % 256 ^ i then 1 else 0
theorem bor_zero (x y : Nat) : bor x y 0 = 0 := by simp [bor, Nat.mod_one]
theorem bor_le (x y i : Nat) : bor x y i ≤ 1 := by unfold bor; split <;> omega
theorem bor_step (x y i : Nat) (h : y ≤ x) :
    (x / 256 ^ i % 256 < y / 256 ^ i % 256 + bor x y i → (x - y) / 256 ^ i % 256 + y / 256 ^ i % 256 + bor x y i = x / 256 ^ i % 256 + 256 ∧ bor x y (i + 1) = 1) ∧
    (¬ x / 256 ^ i % 256 < y / 256 ^ i % 256 + bor x y i → (x - y) / 256 ^ i % 256 + y / 256 ^ i % 256 + bor x y i = x / 256 ^ i % 256 ∧ bor x y (i + 1) = 0) := by
  have hp : 0 < 256 ^ i := Nat.pow_pos (by decide)
  have ex := Nat.div_add_mod x (256 ^ i)
  have ey := Nat.div_add_mod y (256 ^ i)
  have rx := Nat.mod_lt x hp
  have ry := Nat.mod_lt y hp
  have mx := mod_succ x i
  have my := mod_succ y i
  unfold bor
  rw [mx, my]
  have hle := Nat.div_le_div_right (c := 256 ^ i) h
  generalize hB : 256 ^ i = B at *
  generalize x / B = xq at *
  generalize y / B = yq at *
  generalize x % B = xr at *
  generalize y % B = yr at *
  have hdiv : (x - y) / B = if xr < yr then xq - yq - 1 else xq - yq := by
    split
    · rename_i hlt
      have hlt2 : yq < xq := by
        refine Nat.lt_of_le_of_ne hle fun e => ?_
        subst e
        omega
      have e : x - y = (B + xr - yr) + B * (xq - yq - 1) := by
        have : B * xq = B * yq + B * (xq - yq - 1) + B := by
          rw [← Nat.mul_add, ← Nat.mul_add_one]; congr 1; omega
        omega
      rw [e, Nat.add_mul_div_left _ _ hp, Nat.div_eq_of_lt (by omega)]
      omega
    · have e : x - y = (xr - yr) + B * (xq - yq) := by
        have : B * xq = B * yq + B * (xq - yq) := by rw [← Nat.mul_add]; congr 1; omega
        omega
      rw [e, Nat.add_mul_div_left _ _ hp, Nat.div_eq_of_lt (by omega)]
      omega
  have strict : xr < yr → yq < xq := fun hlt => Nat.lt_of_le_of_ne hle fun e => by subst e; omega
  rw [hdiv]
  have key : ∀ a b : Nat, a < b → a * B + B ≤ b * B := fun a b hab => by
    have := Nat.mul_le_mul_right B hab
    rw [Nat.succ_mul] at this; exact this
  clear hdiv ex ey mx my h
  by_cases hlt : xr < yr
  · have st := strict hlt
    simp only [if_pos hlt]
    constructor
    · intro hc
      refine ⟨by clear key rx ry; omega, if_pos ?_⟩
      by_cases e : xq % 256 = yq % 256
      · rw [e]; omega
      · have := key (xq % 256) (yq % 256) (by omega); omega
    · intro hc
      refine ⟨by clear key rx ry; omega, if_neg ?_⟩
      have := key (yq % 256) (xq % 256) (by omega); omega
  · simp only [if_neg hlt]
    constructor
    · intro hc
      refine ⟨by clear key rx ry; omega, if_pos ?_⟩
      have := key (xq % 256) (yq % 256) (by omega); omega
    · intro hc
      refine ⟨by clear key rx ry; omega, if_neg ?_⟩
      by_cases e : xq % 256 = yq % 256
      · rw [e]; omega
      · have := key (yq % 256) (xq % 256) (by omega); omega

/-- The digits of p are those of p. -/
def primeL : List Nat := 237 :: (List.replicate 30 255 ++ [127])
theorem primeL_at : ∀ i, i < 32 → primeL.getD i 0 = 57896044618658097711785492504343953926634992332820282019728792003956564819949 / 256 ^ i % 256 := by decide +kernel
theorem primeL_len : primeL.length = 32 := rfl
end Go.Proofs.YtniogaimhkcedaaDoor
/-
  What the small functions of the reference package of layer 1 do: the digits of a number, the digits of p.
-/
namespace Go.Proofs.YtniogaimhkcedaaDoor
open Go.RowKit
set_option linter.unusedSimpArgs false
set_option linter.unusedVariables false

theorem info3 : (Tryd.prog.info? 3).map (fun i => (i.zero, i.size, i.bytes)) = some (some (.int .i64 0), 1, 8) := by kernel_rfl

/-- A row of ints. -/
def irow (l : List Nat) : List Value := l.map fun d : Nat => Value.int .i64 (d : Int)
theorem irow_snoc (l : List Nat) (d : Nat) : irow (l ++ [d]) = irow l ++ [.int .i64 (d : Int)] := by simp [irow]
theorem irow_len (l : List Nat) : (irow l).length = l.length := by simp [irow]
theorem irow_get (l : List Nat) (i d : Nat) (h : l[i]? = some d) : (irow l)[i]? = some (.int .i64 (d : Int)) := by simp [irow, h]

/-- The first k digits of a number. -/
def digs (n k : Nat) : List Nat := (List.range k).map fun i => n / 256 ^ i % 256
theorem digs_succ (n k : Nat) : digs n (k + 1) = digs n k ++ [n / 256 ^ k % 256] := by simp [digs, List.range_succ]
theorem digs_len (n k : Nat) : (digs n k).length = k := by simp [digs]

theorem ownsRow_mono {w : World} {b b' : Nat} {e : TypeId} {s : Nat} {v : Value} {n : Nat} {xs : List Value} (h : w.ownsRow b e s v n xs) (hb : b' ≤ b) : w.ownsRow b' e s v n xs := by
  obtain ⟨h1, h2⟩ := h
  refine ⟨h1, ?_⟩
  rcases h2 with h | ⟨g, cap, cur, a, b, c⟩
  · exact .inl h
  · exact .inr ⟨g, cap, cur, a, Nat.le_trans hb b, c⟩

theorem cell_row {w : World} {g : Nat} {A : Array Value} {t : TypeId} {fr : Nat × Nat} {j : Nat} {v : Value} (hg : w.heap[g]? = some (.cells A t fr)) (hv : A[j]? = some v) : w.cell? ⟨g, j, none⟩ = some v := by
  simp [World.cell?, hg, hv]

theorem heap_new (w : World) (o : Obj) : (w.alloc o).heap[w.heap.size]? = some o := by
  show (w.heap.push o)[w.heap.size]? = some o
  simp

theorem grown_below {B : Nat} {w w' : World} {v : Value} {b : Nat} {e : TypeId} {s n : Nat} {xs : List Value} (hg : w.grownBy w' v.ownBlock) (ho : w.ownsRow b e s v n xs) (hb : B ≤ b) (hB : B ≤ w.heap.size) : Below B w w' :=
  (Below.refl _ _).grown hg hB (fun k hk => Nat.le_trans hb (ho.lt k hk).1)

/-- 'append(l, x)' of ints, onto a slice of the call's own. -/
theorem wpList_app1 {ops : Array Oper} {rest : List Oper} {o : Oper} {a : Act} {w : World} {Q : Exit → Act → World → Prop} (hgd : o.guard = none) (s x : Operand)
    (ho : o.op = .call { callee := .builtin .append, args := #[s, x], argTypes := #[65, 65] })
    (base : Nat) (v : Value) (n : Nat) (xs : List Value) (hs : a.eval s = v) (hown : w.ownsRow base 3 1 v n xs) (g : Nat) (u : Int) (hx : a.eval x = .slice (some ⟨g, 0, none⟩) 1 1) (hg : w.cell? ⟨g, 0, none⟩ = some (.int .i64 u))
    (hn : n + 1 ≤ 8796093022208) (hbase : base ≤ w.heap.size)
    (h : ∀ v' w', w'.ownsRow base 3 1 v' (n + 1) (xs ++ [.int .i64 u]) → w.grownBy w' v.ownBlock → wpList Tryd.prog ops Q rest (a.put o.dst v') w') : wpList Tryd.prog ops Q (o :: rest) a w := by
  obtain ⟨i0, hi, hz0, hz1, hz2⟩ := info_parts info3
  refine wpList_append_own _ hgd s x 65 ho base 3 i0 (.int .i64 0) 1 8 Tryd.underlying65 hi hz0 hz1 hz2 rfl (by decide) v n xs hs hown ⟨g, 0, none⟩ 1 1 [.int .i64 u] hx rfl ?_ ?_ ?_ ?_ hbase fun v' w' h1 h2 _ => h v' w' h1 h2
  · intro j y hj
    match j, hj with
    | 0, hj => simp at hj; subst hj; simpa [Addr.add] using hg
  · intro y hy; simp at hy; subst hy; rfl
  · unfold maxLen; omega
  · omega

/-- A block holds a row of ints at its head. -/
def Holds (w : World) (g : Nat) (l : List Nat) : Prop := g < w.heap.size ∧ ∀ j, j < l.length → w.cell? ⟨g, j, none⟩ = some (.int .i64 ((l.getD j 0 : Nat) : Int))
theorem Holds.below {w w' : World} {g B : Nat} {l : List Nat} (h : Holds w g l) (hb : Below B w w') (hB : g < B) : Holds w' g l :=
  ⟨Nat.lt_of_lt_of_le h.1 hb.size, fun j hj => (hb.cell (p := ⟨g, j, none⟩) hB).trans (h.2 j hj)⟩
theorem Holds.under {w w' : World} {g : Nat} {l : List Nat} (h : Holds w g l) (hb : Below w.heap.size w w') : Holds w' g l := h.below hb h.1
theorem owns_holds {w : World} {b n : Nat} {v : Value} {l : List Nat} (h : w.ownsRow b 3 1 v n (irow l)) (hn : 0 < n) : ∃ g cap, v = .slice (some ⟨g, 0, none⟩) n cap ∧ n ≤ cap ∧ cap ≤ maxLen ∧ b ≤ g ∧ l.length = n ∧ Holds w g l := by
  obtain ⟨h1, h2⟩ := h
  rw [irow_len] at h1
  rcases h2 with ⟨_, h⟩ | ⟨g, cap, cur, rfl, hb, hg, hc, hm, hs, ht⟩
  · omega
  · refine ⟨g, cap, rfl, hc, hm, hb, by omega, (Array.getElem?_eq_some_iff.1 hg).1, fun j hj => ?_⟩
    refine cell_row hg ?_
    have h3 : (cur.toList.take (n * 1))[j]? = (irow l)[j]? := by rw [ht]
    rw [List.getElem?_take_of_lt (by omega), Array.getElem?_toList] at h3
    rw [h3]
    refine irow_get l j _ ?_
    simp [List.getD, hj]

end Go.Proofs.YtniogaimhkcedaaDoor
/-
  What the reference package's carry and high do: the same number in digits below 256; has it a digit above the 32nd.
-/
namespace Go.Proofs.YtniogaimhkcedaaDoor
open Go.RowKit
set_option linter.unusedSimpArgs false
set_option linter.unusedVariables false

theorem late_bound {k c : Nat} (h : 64 ≤ k → c * 256 ^ (k - 64) ≤ 1099511627776) (hc : 0 < c) : k ≤ 69 := by
  refine Nat.le_of_not_lt fun h70 => ?_
  have h1 := h (by omega)
  have h2 : 256 ^ 6 ≤ 256 ^ (k - 64) := Nat.pow_le_pow_right (by decide) (by omega)
  have h3 : 1 * 256 ^ (k - 64) ≤ c * 256 ^ (k - 64) := Nat.mul_le_mul_right _ hc
  omega
theorem late_step {k c x : Nat} (h : 64 ≤ k → c * 256 ^ (k - 64) ≤ 1099511627776) (hc : c ≤ 1099511627776) (hx : x ≤ 1099511627776) (h0 : 64 ≤ k → x = 0) : 64 ≤ k + 1 → (c + x) / 256 * 256 ^ (k + 1 - 64) ≤ 1099511627776 := by
  intro hk
  by_cases e : k + 1 = 64
  · rw [e]; simp; omega
  · have h1 := h (by omega)
    rw [h0 (by omega), Nat.add_zero, show k + 1 - 64 = (k - 64) + 1 from by omega, Nat.pow_succ, Nat.mul_comm _ 256, ← Nat.mul_assoc]
    exact Nat.le_trans (Nat.mul_le_mul_right _ (Nat.div_mul_le_self c 256)) h1
theorem take_all_val (l : List Nat) (k : Nat) (h : l.length ≤ k) : l.take k = l := List.take_of_length_le h
theorem div_zero_lt {a b : Nat} (hb : 0 < b) (h : 0 = a / b) : a < b := by
  have := (Nat.div_eq_zero_iff (a := a) (b := b)).1 h.symm
  omega

end Go.Proofs.YtniogaimhkcedaaDoor
/-
  Poly1305 as plain numbers: words of a number, a product modulo 2^130 - 5, the tag of bytes.
-/
namespace Go.Proofs.YtniogaimhkcedaaDoor.sh
open Go Go.RowKit
set_option linter.unusedVariables false
set_option linter.unusedSimpArgs false

/-- The word i of a number. -/
def wd (N i : Nat) : Nat := N / 18446744073709551616 ^ i % 18446744073709551616
def nw (N : Nat) : List Nat := [wd N 0, wd N 1, wd N 2]
def nw2 (N : Nat) : List Nat := [wd N 0, wd N 1]
def nw4 (N : Nat) : List Nat := [wd N 0, wd N 1, wd N 2, wd N 3]
theorem wd_lt (N i : Nat) : wd N i < 18446744073709551616 := Nat.mod_lt _ (by decide)
theorem nw_len (N : Nat) : (nw N).length = 3 := rfl
theorem nw_get (N i : Nat) (h : i < 3) : (nw N)[i]? = some (wd N i) := by
  match i, h with
  | 0, _ => rfl
  | 1, _ => rfl
  | 2, _ => rfl
theorem wd0 (N : Nat) : wd N 0 = N % 18446744073709551616 := by simp [wd]
theorem wd1 (N : Nat) : wd N 1 = N / 18446744073709551616 % 18446744073709551616 := by simp [wd]
theorem wd2 (N : Nat) : wd N 2 = N / 340282366920938463463374607431768211456 % 18446744073709551616 := by simp [wd]
theorem wd3 (N : Nat) : wd N 3 = N / 6277101735386680763835789423207666416102355444464034512896 % 18446744073709551616 := by simp [wd]
theorem nw_of (z0 z1 z2 N : Nat) (h0 : z0 < 18446744073709551616) (h1 : z1 < 18446744073709551616) (h2 : z2 < 18446744073709551616) (h : z0 + 18446744073709551616 * z1 + 340282366920938463463374607431768211456 * z2 = N) : nw N = [z0, z1, z2] := by
  unfold nw
  rw [wd0, wd1, wd2]
  have e0 : N % 18446744073709551616 = z0 := by omega
  have e1 : N / 18446744073709551616 % 18446744073709551616 = z1 := by omega
  have e2 : N / 340282366920938463463374607431768211456 % 18446744073709551616 = z2 := by omega
  rw [e0, e1, e2]
theorem nw4_of (z0 z1 z2 z3 N : Nat) (h0 : z0 < 18446744073709551616) (h1 : z1 < 18446744073709551616) (h2 : z2 < 18446744073709551616) (h3 : z3 < 18446744073709551616) (h : z0 + 18446744073709551616 * z1 + 340282366920938463463374607431768211456 * z2 + 6277101735386680763835789423207666416102355444464034512896 * z3 = N) : nw4 N = [z0, z1, z2, z3] := by
  unfold nw4
  rw [wd0, wd1, wd2, wd3]
  have e0 : N % 18446744073709551616 = z0 := by omega
  have e1 : N / 18446744073709551616 % 18446744073709551616 = z1 := by omega
  have e2 : N / 340282366920938463463374607431768211456 % 18446744073709551616 = z2 := by omega
  have e3 : N / 6277101735386680763835789423207666416102355444464034512896 % 18446744073709551616 = z3 := by omega
  rw [e0, e1, e2, e3]
theorem nw_sum (N : Nat) (h : N < 6277101735386680763835789423207666416102355444464034512896) : wd N 0 + 18446744073709551616 * wd N 1 + 340282366920938463463374607431768211456 * wd N 2 = N := by
  rw [wd0, wd1, wd2]
  omega

/-- What is over behind i words of X + Y w. -/
def cy (X Y w i : Nat) : Nat := (X % 18446744073709551616 ^ i + Y % 18446744073709551616 ^ i * w) / 18446744073709551616 ^ i
theorem cy_zero (X Y w : Nat) : cy X Y w 0 = 0 := by simp [cy, Nat.mod_one]
theorem cy_step (X Y w i : Nat) : wd X i + wd Y i * w + cy X Y w i = wd (X + Y * w) i + 18446744073709551616 * cy X Y w (i + 1) := by
  unfold wd cy
  have hp : 0 < 18446744073709551616 ^ i := Nat.pow_pos (by decide)
  generalize hm : 18446744073709551616 ^ i = m at *
  have hm1 : 18446744073709551616 ^ (i + 1) = m * 18446744073709551616 := by rw [Nat.pow_succ, hm]
  rw [hm1]
  have eX := Nat.div_add_mod X m
  have eY := Nat.div_add_mod Y m
  have e1 : X % (m * 18446744073709551616) = X % m + m * (X / m % 18446744073709551616) := Nat.mod_mul
  have e2 : Y % (m * 18446744073709551616) = Y % m + m * (Y / m % 18446744073709551616) := Nat.mod_mul
  rw [e1, e2]
  have e3 : X % m + m * (X / m % 18446744073709551616) + (Y % m + m * (Y / m % 18446744073709551616)) * w = (X % m + Y % m * w) + m * (X / m % 18446744073709551616 + Y / m % 18446744073709551616 * w) := by grind
  have e4 : X + Y * w = (X % m + Y % m * w) + m * (X / m + Y / m * w) := by
    have : X + Y * w = (m * (X / m) + X % m) + (m * (Y / m) + Y % m) * w := by rw [eX, eY]
    rw [this]; grind
  rw [e3, e4, ← Nat.div_div_eq_div_mul, Nat.add_mul_div_left _ _ hp, Nat.add_mul_div_left _ _ hp]
  generalize (X % m + Y % m * w) / m = c
  have e5 : (c + (X / m + Y / m * w)) % 18446744073709551616 = (c + (X / m % 18446744073709551616 + Y / m % 18446744073709551616 * w)) % 18446744073709551616 := by
    rw [Nat.add_mod, Nat.add_mod (X / m), Nat.mul_mod]
    simp only [Nat.add_mod, Nat.mul_mod, Nat.mod_mod]
  rw [e5]
  generalize X / m % 18446744073709551616 + Y / m % 18446744073709551616 * w = t
  omega
theorem cy_lt (X Y w i : Nat) (hw : w < 18446744073709551616) : cy X Y w i < 18446744073709551616 := by
  unfold cy
  have hp : 0 < 18446744073709551616 ^ i := Nat.pow_pos (by decide)
  generalize 18446744073709551616 ^ i = m at *
  rw [Nat.div_lt_iff_lt_mul hp]
  have h1 : X % m < m := Nat.mod_lt _ hp
  have h2 : Y % m < m := Nat.mod_lt _ hp
  have h3 : Y % m * w ≤ m * w := Nat.mul_le_mul_right _ (by omega)
  have h4 : m * w + m ≤ 18446744073709551616 * m := by
    have : (w + 1) * m ≤ 18446744073709551616 * m := Nat.mul_le_mul_right _ (by omega)
    rw [Nat.add_mul, Nat.one_mul, Nat.mul_comm w m] at this
    exact this
  omega
theorem cy_one (X Y i : Nat) : cy X Y 1 i ≤ 1 := by
  unfold cy
  have hp : 0 < 18446744073709551616 ^ i := Nat.pow_pos (by decide)
  generalize 18446744073709551616 ^ i = m at *
  have h1 : X % m < m := Nat.mod_lt _ hp
  have h2 : Y % m < m := Nat.mod_lt _ hp
  have : (X % m + Y % m * 1) / m < 2 := by rw [Nat.div_lt_iff_lt_mul hp]; omega
  omega

/-- n r modulo p, not wholly. -/
def timesN (N r : Nat) : Nat := N * r % 1361129467683753853853498429727072845824 + 5 * (N * r / 1361129467683753853853498429727072845824)
theorem timesN_lt (N r : Nat) (hN : N < 2722258935367507707706996859454145691648) (hr : r < 21267647932558653966460912964485513216) : timesN N r < 1701411834604692317316873037158841057280 := by
  have h : N * r < 2722258935367507707706996859454145691648 * 21267647932558653966460912964485513216 := by
    have h1 : N * r ≤ N * 21267647932558653966460912964485513216 := Nat.mul_le_mul_left _ (by omega)
    have h2 : N * 21267647932558653966460912964485513216 < 2722258935367507707706996859454145691648 * 21267647932558653966460912964485513216 := Nat.mul_lt_mul_of_pos_right hN (by decide)
    omega
  unfold timesN
  generalize N * r = P at *
  omega
theorem timesN_mod (N r : Nat) : timesN N r % 1361129467683753853853498429727072845819 = N * r % 1361129467683753853853498429727072845819 := by
  unfold timesN
  generalize N * r = P at *
  omega
theorem prod_lt (N r : Nat) (hN : N < 2722258935367507707706996859454145691648) (hr : r < 21267647932558653966460912964485513216) : N * r < 57896044618658097711785492504343953926634992332820282019728792003956564819968 := by
  have h1 : N * r ≤ N * 21267647932558653966460912964485513216 := Nat.mul_le_mul_left _ (by omega)
  have h2 : N * 21267647932558653966460912964485513216 < 2722258935367507707706996859454145691648 * 21267647932558653966460912964485513216 := Nat.mul_lt_mul_of_pos_right hN (by decide)
  omega
theorem times_low (P : Nat) : nw (P % 1361129467683753853853498429727072845824) = [wd P 0, wd P 1, wd P 2 % 4] := by
  refine nw_of _ _ _ _ (wd_lt _ _) (wd_lt _ _) (by omega) ?_
  rw [wd0, wd1, wd2]
  omega
theorem times_high (P : Nat) (h : P < 115792089237316195423570985008687907853269984665640564039457584007913129639936) : nw (P / 1361129467683753853853498429727072845824) = [wd P 2 / 4 + wd P 3 % 4 * 4611686018427387904, wd P 3 / 4, 0] := by
  have h2 := wd_lt P 2
  have h3 := wd_lt P 3
  refine nw_of _ _ _ _ (by omega) (by omega) (by decide) ?_
  rw [wd2, wd3]
  omega

/-- Bits of bytes. -/
theorem and_byte (x y X Y : Nat) (hx : x < 256) (hy : y < 256) : (x + 256 * X) &&& (y + 256 * Y) = (x &&& y) + 256 * (X &&& Y) := by
  have hm : ((x + 256 * X) &&& (y + 256 * Y)) % 2 ^ 8 = x &&& y := by
    rw [Nat.and_mod_two_pow, show (x + 256 * X) % 2 ^ 8 = x by omega, show (y + 256 * Y) % 2 ^ 8 = y by omega]
  have hd : ((x + 256 * X) &&& (y + 256 * Y)) / 2 ^ 8 = X &&& Y := by
    rw [Nat.and_div_two_pow, show (x + 256 * X) / 2 ^ 8 = X by omega, show (y + 256 * Y) / 2 ^ 8 = Y by omega]
  rw [← hm, ← hd]
  omega
theorem val_and : ∀ (a m : List Nat), a.length = m.length → (∀ x ∈ a, x < 256) → (∀ x ∈ m, x < 256) → val a &&& val m = val (List.zipWith (· &&& ·) a m)
  | [], [], _, _, _ => rfl
  | x :: a, y :: m, h, ha, hm => by
    simp only [val, List.zipWith_cons_cons]
    rw [and_byte x y _ _ (ha x (by simp)) (hm y (by simp)), val_and a m (by simpa using h) (fun z hz => ha z (by simp [hz])) (fun z hz => hm z (by simp [hz]))]
theorem Bytes.all {l : List Nat} (h : Bytes l) : ∀ x ∈ l, x < 256 := fun x hx => by
  obtain ⟨i, hi⟩ := List.mem_iff_getElem?.1 hx
  exact h i x hi
theorem bytes_of_all {l : List Nat} (h : ∀ x ∈ l, x < 256) : Bytes l := fun i x hx => h x (List.mem_of_getElem? hx)

def maskL : List Nat := [255, 255, 255, 15, 252, 255, 255, 15, 252, 255, 255, 15, 252, 255, 255, 15]
/-- The bytes of r. -/
def clampL (key : List Nat) : List Nat := List.zipWith (· &&& ·) (key.take 16) maskL
def rN (key : List Nat) : Nat := val (clampL key)
def sN (key : List Nat) : Nat := val (key.drop 16)
theorem val_append (a b : List Nat) : val (a ++ b) = val a + 256 ^ a.length * val b := by
  have h := val_split (a ++ b) a.length
  rw [List.take_left, List.drop_left] at h
  exact h
theorem val_lt : ∀ (a : List Nat), (∀ x ∈ a, x < 256) → val a < 256 ^ a.length
  | [], _ => by simp [val]
  | x :: a, h => by
    have h1 := val_lt a (fun z hz => h z (by simp [hz]))
    have h2 := h x (by simp)
    simp only [val, List.length_cons, Nat.pow_succ]
    omega
theorem digs_get (N n i : Nat) (h : i < n) : (digs N n)[i]? = some (N / 256 ^ i % 256) := by simp [digs, h]
theorem digs_bytes (N n : Nat) : Bytes (digs N n) := bytes_of_all fun x hx => by
  simp only [digs, List.mem_map] at hx
  obtain ⟨i, _, rfl⟩ := hx
  exact Nat.mod_lt _ (by decide)
theorem val_digs (N : Nat) : ∀ n, val (digs N n) = N % 256 ^ n
  | 0 => by simp [digs, val, Nat.mod_one]
  | n + 1 => by
    rw [digs_succ, val_append, val_digs N n, digs_len, mod_succ, Nat.mul_comm]
    simp [val]
theorem val_digit : ∀ (a : List Nat), (∀ x ∈ a, x < 256) → ∀ i, i < a.length → val a / 256 ^ i % 256 = a.getD i 0
  | [], _, i, h => by simp at h
  | x :: a, ha, 0, _ => by
    have := ha x (by simp)
    simp [val]
    omega
  | x :: a, ha, i + 1, h => by
    have h0 := ha x (by simp)
    have := val_digit a (fun z hz => ha z (by simp [hz])) i (by simpa using h)
    simp only [val, Nat.pow_succ, List.getD_cons_succ]
    rw [Nat.mul_comm _ 256, ← Nat.div_div_eq_div_mul, show (x + 256 * val a) / 256 = val a by omega]
    exact this
theorem digs_val (a : List Nat) (h : ∀ x ∈ a, x < 256) : digs (val a) a.length = a := by
  apply List.ext_getElem?
  intro i
  by_cases hi : i < a.length
  · rw [digs_get _ _ _ hi, val_digit a h i hi, List.getD_eq_getElem?_getD, List.getElem?_eq_getElem hi]
    rfl
  · rw [List.getElem?_eq_none (by rw [digs_len]; omega), List.getElem?_eq_none (by omega)]
theorem digs_congr (N M n : Nat) (h : N % 256 ^ n = M % 256 ^ n) : digs N n = digs M n := by
  have h1 : ∀ K, digs (K % 256 ^ n) n = digs K n := fun K => by
    have := digs_val (digs K n) (digs_bytes K n).all
    rw [digs_len, val_digs] at this
    exact this
  rw [← h1 N, h, h1 M]

/-- The number behind k pieces of 16 bytes. -/
def polyT (r : Nat) (b : List Nat) : Nat → Nat
  | 0 => 0
  | k + 1 => timesN (polyT r b k + val ((b.drop (16 * k)).take 16 ++ [1])) r
def tagL (key b : List Nat) : List Nat := digs (polyT (rN key) b ((b.length + 15) / 16) % 1361129467683753853853498429727072845819 + sN key) 16
theorem tagL_len (key b : List Nat) : (tagL key b).length = 16 := digs_len _ _
theorem tagL_bytes (key b : List Nat) : Bytes (tagL key b) := digs_bytes _ _

theorem and_255 : ∀ x, x < 256 → x &&& 255 = x := by decide +kernel
theorem and_15 : ∀ x, x < 256 → x &&& 15 = x % 16 := by decide +kernel
theorem and_252 : ∀ x, x < 256 → x &&& 252 = x - x % 4 := by decide +kernel
theorem and_le (x y : Nat) : x &&& y ≤ y := Nat.and_le_right
theorem clampL_len (key : List Nat) (h : key.length = 32) : (clampL key).length = 16 := by
  simp [clampL, h, maskL]
theorem clampL_all (key : List Nat) : ∀ x ∈ clampL key, x < 256 := fun x hx => by
  obtain ⟨i, hi⟩ := List.mem_iff_getElem?.1 hx
  simp only [clampL, List.getElem?_zipWith] at hi
  split at hi
  · rename_i a b ha hb
    have hm : ∀ y ∈ maskL, y < 256 := by decide
    have := hm b (List.mem_of_getElem? hb)
    have := and_le a b
    simp at hi
    omega
  · cases hi
theorem maskL_val : val maskL = 21267647620597763993911028882763415551 := by kernel_rfl
theorem rN_lt (key : List Nat) (h : key.length = 32) (hy : Bytes key) : rN key < 21267647932558653966460912964485513216 := by
  unfold rN clampL
  rw [← val_and _ _ (by simp [h, maskL]) (hy.take 16).all (by decide), maskL_val]
  exact Nat.lt_of_le_of_lt Nat.and_le_right (by decide)
theorem sN_lt (key : List Nat) (h : key.length = 32) (hy : Bytes key) : sN key < 340282366920938463463374607431768211456 := by
  have := val_lt (key.drop 16) (hy.drop 16).all
  rw [List.length_drop, h] at this
  exact this
theorem piece_lt (b : List Nat) (hy : Bytes b) (h : b.length ≤ 16) : val (b ++ [1]) < 680564733841876926926749214863536422912 := by
  rw [val_append]
  have h1 := val_lt b hy.all
  have h2 : 256 ^ b.length ≤ 256 ^ 16 := Nat.pow_le_pow_right (by decide) h
  have e : (256 : Nat) ^ 16 = 340282366920938463463374607431768211456 := by decide
  simp only [val]
  omega
theorem polyT_lt (r : Nat) (b : List Nat) (hr : r < 21267647932558653966460912964485513216) (hy : Bytes b) : ∀ k, polyT r b k < 1701411834604692317316873037158841057280
  | 0 => by simp [polyT]
  | k + 1 => by
    have h1 := polyT_lt r b hr hy k
    have h2 := piece_lt ((b.drop (16 * k)).take 16) ((hy.drop _).take _) (by simp; omega)
    exact timesN_lt _ _ (by omega) hr
end Go.Proofs.YtniogaimhkcedaaDoor.sh
/-
  Sums and products of words, and the word of eight bytes, by the program.
-/
namespace Go.Proofs.YtniogaimhkcedaaDoor.sh
open Go Go.RowKit
set_option linter.unusedVariables false
set_option linter.unusedSimpArgs false

theorem run_ext {o : Oper} {a : Act} {x : Operand} {A : Array Value} {i : Nat} {v : Value} (ho : o.op = .extract x i) (hx : a.eval x = .tuple A) (hv : A[i]? = some v) (w : World) : (execOp a.eval o).run Tryd.prog w = .ok (.value v) w := by
  unfold execOp
  simp only [ho, hx]
  simp [go_sem, hv]

theorem val8 (b0 b1 b2 b3 b4 b5 b6 b7 : Nat) : val [b0, b1, b2, b3, b4, b5, b6, b7] = b0 + b1 * 256 + b2 * 65536 + b3 * 16777216 + b4 * 4294967296 + b5 * 1099511627776 + b6 * 281474976710656 + b7 * 72057594037927936 := by
  simp only [val]
  omega
end Go.Proofs.YtniogaimhkcedaaDoor.sh
/-
  A region that draws its order, with one store among its operations that does not wait for all of them: 'x[i], c = f(..)'. Those that the store waits for read memory as it was; the others read none.
-/
namespace Go.Proofs.YtniogaimhkcedaaDoor.sh
open Go Go.RowKit
set_option linter.unusedVariables false
set_option linter.unusedSimpArgs false

def waitsOn (o : Oper) (i : Nat) : Bool := o.after.any fun e => Region.binds .any e && e.on == i
def LateAll (P : Program) (h : List Oper) (A0 : Act) (W0 : World) (R : Nat → Value → World → Prop) (s : Nat) (os : Oper) : Nat → List Oper → Prop
  | _, [] => True
  | i, o :: r => (i = s ∨ (waitsOn os i = true ∧ OwnOk P h A0 W0 R [] [] i o) ∨ ∀ W1, OwnOk P h A0 W1 R [] [] i o) ∧ LateAll P h A0 W0 R s os (i + 1) r
theorem lateAll_get {P : Program} {h : List Oper} {A0 : Act} {W0 : World} {R : Nat → Value → World → Prop} {s : Nat} {os : Oper} : ∀ (r : List Oper) (k : Nat), LateAll P h A0 W0 R s os k r → ∀ i o, r[i]? = some o → k + i = s ∨ (waitsOn os (k + i) = true ∧ OwnOk P h A0 W0 R [] [] (k + i) o) ∨ ∀ W1, OwnOk P h A0 W1 R [] [] (k + i) o
  | [], _, _, i, o, ho => by simp at ho
  | x :: r, k, hr, 0, o, ho => by simp at ho; subst ho; exact hr.1
  | x :: r, k, hr, i + 1, o, ho => by
    have := lateAll_get r (k + 1) hr.2 i o (by simpa using ho)
    rwa [show k + 1 + i = k + (i + 1) from by omega] at this

theorem region_late {P : Program} {Q : Exit → Act → World → Prop} {id : Nat} {a : Act} {w : World} (W0 : World) (n s : Nat) {l : List Oper} (vals : List (Nat × Value)) (C2 : World → Prop) (hm : P.follows .mixedOrders = true)
    (hE : edgesIn (l.take n) = true) (hG : guardsIn (l.take n) = true) (hA : dstsApart (l.take n) 0 = true) (hI : dstsIn (l.take n) a.tmps.size = true) (hT : tailUnder (l.take n) (l.drop n) = true)
    (hS : Region.seqB .any l.toArray (l.drop n).length (l.take n).length (Array.replicate (l.take n).length true ++ Array.replicate (l.drop n).length false) = true)
    (hv : (vals.all fun p => (dstsOf (l.take n)).contains p.1) = true)
    (os : Oper) (hos : (l.take n)[s]? = some os) (hsd : os.dst = none) (hw : Below W0.heap.size W0 w)
    (hC : ∀ w w', C2 w → Below w.heap.size w w' → C2 w')
    (hok : Full (l.take n) a (putR a vals) (specOf []) [] → LateAll P (l.take n) a W0 (relR (putR a vals) (specOf [])) s os 0 (l.take n))
    (hst : Full (l.take n) a (putR a vals) (specOf []) [] → ∀ a' w', Fr (l.take n) a a' → Below W0.heap.size W0 w' → GotE (l.take n) [] (relR (putR a vals) (specOf [])) [] W0.heap.size s a' w' os →
      Region.wanted os (yielded (l.take n).toArray a'.tmps) = true ∧ os.wp P a' w' (fun a2 w2 => a2 = a' ∧ C2 w2) (fun _ _ _ => False))
    (hfin : ∀ w', C2 w' → wpList P l.toArray Q (l.drop n) (putR a vals) w') : (Code.region id l.toArray true).wp P Q a w := by
  have hfull : Full (l.take n) a (putR a vals) (specOf []) [] := full_put vals hv (specOf_none [])
  have hok' := hok hfull
  have hst' := hst hfull
  have hRR : ∀ d v (w : World), relR (putR a vals) (specOf []) d v w ↔ (putR a vals).tmps[d]? = some v := fun d v w => Iff.rfl
  clear hok hst
  have e : l.take n ++ l.drop n = l := List.take_append_drop n l
  refine wp_region_any hm ?_
  generalize hh : l.take n = h at *
  have main := wpAny_inv (P := P) (l := h) (Q := headPost P (h ++ l.drop n).toArray Q (l.drop n))
    (fun listed a' w' => Fr h a a' ∧ (∀ d, (∃ (i : Nat) (o : Oper), h[i]? = some o ∧ listed.getD i false = true ∧ o.dst = some d) → ∃ v, a'.tmps[d]? = some v ∧ (putR a vals).tmps[d]? = some v) ∧
      (listed.getD s false = false → Below W0.heap.size W0 w') ∧ (listed.getD s false = true → C2 w' ∧ ∀ x ∈ os.after, Region.binds .any x = true → listed.getD x.on false = true)) hE
    (by
      intro listed a' w' i o hls hI' ho hun hall
      obtain ⟨hF, hV, hB, hD⟩ := hI'
      have hil : i < listed.size := by rw [hls]; exact (List.getElem?_eq_some_iff.1 ho).1
      have hun' : listed.getD i false = false := by simpa [hil] using hun
      have hson : ∀ k, (listed.setIfInBounds i true).getD k false = if k = i then true else listed.getD k false := fun k => by
        by_cases hk : k = i
        · subst hk; simp [hil]
        · rw [if_neg hk, getD_set_ne false (Ne.symm hk)]
      have hup : ∀ k, listed.getD k false = true → (listed.setIfInBounds i true).getD k false = true := fun k hk => by
        rw [hson k]; split <;> first | rfl | exact hk
      have hgot : ∀ B, GotE h [] (relR (putR a vals) (specOf [])) [] B i a' w' o := fun B d hs hq => by
        obtain ⟨x, hx, h1⟩ := Array.any_eq_true'.1 hs
        simp only [Bool.and_eq_true] at h1
        cases ho' : h[x.on]? with
        | none => simp [ho'] at h1
        | some o' =>
          obtain ⟨v, e1, e2⟩ := hV d ⟨x.on, o', ho', hall x hx h1.1, by simpa [ho'] using h1.2⟩
          exact ⟨v, e1, e2, fun hc => by simp at hc⟩
      by_cases his : i = s
      · subst his
        have hoo : o = os := by rw [ho] at hos; exact Option.some.inj hos
        subst hoo
        obtain ⟨hwant, hwp⟩ := hst' a' w' hF (hB hun') (hgot _)
        refine ⟨hwant, wp_false ?_ hwp⟩
        rintro a2 w2 ⟨rfl, hC2⟩
        refine ⟨hF, fun d hd => ?_, fun hf => ?_, fun _ => ⟨hC2, fun x hx hb => hup _ (hall x hx hb)⟩⟩
        · obtain ⟨j, o', h1, h2, h3⟩ := hd
          refine hV d ⟨j, o', h1, ?_, h3⟩
          rw [hson j] at h2
          split at h2
          · next hji => subst hji; rw [ho] at h1; cases h1; rw [hsd] at h3; cases h3
          · exact h2
        · rw [hson, if_pos rfl] at hf; cases hf
      · have hson_s : (listed.setIfInBounds i true).getD s false = listed.getD s false := by rw [hson s, if_neg (Ne.symm his)]
        have step : ∀ W1 : World, Below W1.heap.size W1 w' → OwnOk P h a W1 (relR (putR a vals) (specOf [])) [] [] i o →
            Region.wanted o (yielded h.toArray a'.tmps) = true ∧ o.wp P a' w' (fun a2 w2 => Fr h a a2 ∧ (∀ d, (∃ (j : Nat) (o : Oper), h[j]? = some o ∧ (listed.setIfInBounds i true).getD j false = true ∧ o.dst = some d) → ∃ v, a2.tmps[d]? = some v ∧ (putR a vals).tmps[d]? = some v) ∧ Below w'.heap.size w' w2) (fun _ _ _ => False) := by
          rintro W1 hW1 ⟨d, hd, hrun⟩
          obtain ⟨hwant, hwp⟩ := hrun a' w' hF hW1 (hgot _)
          refine ⟨hwant, wp_false ?_ hwp⟩
          rintro a2 w2 ⟨v, row, rfl, hR, hg, hrow, _⟩
          have hdl : d < a'.tmps.size := by
            have := List.all_eq_true.1 hI o (List.mem_of_getElem? ho)
            rw [hd] at this
            rw [hF.size]
            simpa using this
          have hother : ∀ d', d' ≠ d → (a'.put (some d) v).tmps[d']? = a'.tmps[d']? := fun d' hne => by simp [Act.put, Array.getElem?_setIfInBounds_ne (Ne.symm hne)]
          have hself : (a'.put (some d) v).tmps[d]? = some v := by simp [Act.put, hdl]
          refine ⟨⟨by rw [size_put]; exact hF.size, hF.defers, fun d' h' => ?_⟩, fun d' hL => ?_, grown_empty hg (fun b hb => by obtain ⟨s', hs', _⟩ := hrow b hb; cases hs')⟩
          · rw [hother d' (fun e2 => h' i o ho (by rw [hd, e2]))]
            exact hF.out d' h'
          · by_cases hdd : d' = d
            · subst hdd
              exact ⟨v, hself, hR⟩
            · obtain ⟨j, o', h1, h2, h3⟩ := hL
              rw [hother d' hdd]
              refine hV d' ⟨j, o', h1, ?_, h3⟩
              rw [hson j] at h2
              split at h2
              · next hji => subst hji; rw [ho] at h1; cases h1; rw [hd] at h3; exact absurd (Option.some.inj h3).symm hdd
              · exact h2
        rcases (by have := lateAll_get h 0 hok' i o ho; rwa [Nat.zero_add] at this : i = s ∨ (waitsOn os i = true ∧ OwnOk P h a W0 (relR (putR a vals) (specOf [])) [] [] i o) ∨ ∀ W1, OwnOk P h a W1 (relR (putR a vals) (specOf [])) [] [] i o) with h1 | ⟨hon, hown⟩ | hown
        · exact absurd h1 his
        · have hsf : listed.getD s false = false := by
            cases hc : listed.getD s false with
            | false => rfl
            | true =>
              obtain ⟨x, hx, h1⟩ := Array.any_eq_true'.1 hon
              simp only [Bool.and_eq_true, beq_iff_eq] at h1
              have := (hD hc).2 x hx h1.1
              rw [h1.2, hun'] at this
              cases this
          obtain ⟨hwant, hwp⟩ := step W0 (hB hsf) hown
          refine ⟨hwant, wp_false ?_ hwp⟩
          rintro a2 w2 ⟨h1, h2, h3⟩
          refine ⟨h1, h2, fun _ => (hB hsf).trans (h3.mono (hB hsf).size), fun hs => ?_⟩
          rw [hson_s, hsf] at hs
          cases hs
        · obtain ⟨hwant, hwp⟩ := step w' (Below.refl _ _) (hown w')
          refine ⟨hwant, wp_false ?_ hwp⟩
          rintro a2 w2 ⟨h1, h2, h3⟩
          refine ⟨h1, h2, fun hs => ?_, fun hs => ?_⟩
          · rw [hson_s] at hs
            exact (hB hs).trans (h3.mono (hB hs).size)
          · rw [hson_s] at hs
            exact ⟨hC _ _ (hD hs).1 h3, fun x hx hb => hup _ ((hD hs).2 x hx hb)⟩)
    (by
      intro a' w' hI'
      obtain ⟨hF, hV, hB, hD⟩ := hI'
      have hsl : s < h.length := (List.getElem?_eq_some_iff.1 hos).1
      have hC2 := (hD (by simp [hsl])).1
      have ea : a' = putR a vals := by
        refine act_eq (Array.ext_getElem? fun d => ?_) (by rw [putR_defers]; exact hF.defers)
        by_cases hd : ∃ (i : Nat) (o : Oper), h[i]? = some o ∧ o.dst = some d
        · obtain ⟨i, o, h1, h2⟩ := hd
          obtain ⟨v, e1, e2⟩ := hV d ⟨i, o, h1, by simp [(List.getElem?_eq_some_iff.1 h1).1], h2⟩
          rw [e1, e2]
        · have hno : ∀ (i : Nat) (o : Oper), h[i]? = some o → o.dst ≠ some d := fun i o h1 h2 => hd ⟨i, o, h1, h2⟩
          rw [hF.out d hno, hfull.out d hno]
      have hfr := hfin w' hC2
      rw [← ea] at hfr
      show wpList P (h ++ l.drop n).toArray Q (l.drop n) a' w'
      rw [e]
      exact hfr)
    h.length (Array.replicate h.length false) a { w with drawn := w.drawn + 1 } (by simp) (by simp [open_])
    (by
      have hno : ∀ k, (Array.replicate h.length false).getD k false = true → False := fun k hk => by
        rw [Array.getD_eq_getD_getElem?, Array.getElem?_replicate] at hk
        split at hk <;> simp at hk
      exact ⟨⟨rfl, rfl, fun _ _ => rfl⟩, fun d hL => (by obtain ⟨i, o, _, hon, _⟩ := hL; exact (hno i hon).elim), fun _ => hw.drew, fun hs => (hno s hs).elim⟩)
  have h3 := lift_under (Q := Q) hE hG hT (by rw [e]; exact hS) h.length (Array.replicate h.length false) a _ (by simp) (by simp [open_]) (closed_none _) main
  rw [e] at h3
  have e1 : l.toArray.size = h.length + (l.drop n).length := by rw [← List.length_append, e]; simp
  rw [e1, show Array.replicate (h.length + (l.drop n).length) false = Array.replicate h.length false ++ Array.replicate (l.drop n).length false by simp]
  exact h3

/-- The store of one cell, in such a region. -/
theorem late_store {h : List Oper} {A0 A : Act} {W0 : World} {i : Nat} {o : Oper} {C2 : World → Prop} (hA : Full h A0 A (specOf []) []) (hg : o.guard = none) (hd : o.dst = none) (e : TypeId) (sz : ∀ w, (sizeOf e).run Tryd.prog w = .ok 1 w) (x y : Nat) (ho : o.op = .store e (.tmp x) (.tmp y)) (hwx : waitsFor h o x = true) (hwy : waitsFor h o y = true)
    (g k : Nat) (kd : IntKind) (v : Int) (hx : A.tmps[x]? = some (.pointer (some ⟨g, k, none⟩))) (hy : A.tmps[y]? = some (.int kd v)) (t : TypeId) (C : Array Value) (hB : ∀ w, Below W0.heap.size W0 w → Blk w g t C) (hk : k < C.size)
    (hC : ∀ w w', Below W0.heap.size W0 w → Blk w' g t (C.setIfInBounds k (.int kd v)) → Put w w' g → C2 w') :
    ∀ a' w', Fr h A0 a' → Below W0.heap.size W0 w' → GotE h [] (relR A (specOf [])) [] W0.heap.size i a' w' o →
      Region.wanted o (yielded h.toArray a'.tmps) = true ∧ o.wp Tryd.prog a' w' (fun a2 w2 => a2 = a' ∧ C2 w2) (fun _ _ _ => False) := by
  intro a' w' hF hb hgot
  have ex := gotE_det hA hgot hwx rfl rfl hx
  have ey := gotE_det hA hgot hwy rfl rfl hy
  refine ⟨by simp [Region.wanted, hg], ?_⟩
  have hgk := hB w' hb
  have hc : w'.cell? ⟨g, k, none⟩ = some C[k] := cell_row hgk (Array.getElem?_eq_getElem hk)
  have hf : w'.frozen? ⟨g, k, none⟩ = false := frozen_of_row w' g k C _ hgk
  have hrun : (execOp a'.eval o).run Tryd.prog w' = .ok .skip (w'.setCell ⟨g, k, none⟩ (.int kd v)) := by
    unfold execOp
    simp only [ho, ex, ey, Instr.storeAt, Instr.sureAddr, Sem.run_bind, Sem.run_pure, Result.andThen_ok]
    simp [storeVar, storeCells, sz, go_sem, hc, hf, Value.cells]
    try rfl
  unfold Oper.wp
  rw [hrun]
  refine ⟨by rw [hd]; rfl, hC w' _ hb (heap_setCell_same _ _ _ _ _ _ hgk) ⟨⟨rfl, rfl, rfl, by simp, fun j _ hj => heap_setCell_other w' ⟨g, k, none⟩ j _ (fun e => hj (by rw [e]))⟩, by simp⟩⟩
end Go.Proofs.YtniogaimhkcedaaDoor.sh
/-
  A region that draws its order, in which operations may be left out by their guards; no operation takes a block over.
-/
namespace Go.Proofs.YtniogaimhkcedaaDoor.sh
open Go Go.RowKit
set_option linter.unusedVariables false
set_option linter.unusedSimpArgs false

/-- An invariant carries any order, also where operations are left out. -/
theorem wpAny_skip {P : Program} {Q : Exit → Act → World → Prop} {l : List Oper} (I : Array Bool → Act → World → Prop) (hE : edgesIn l = true)
    (hstep : ∀ listed a w i o, listed.size = l.length → I listed a w → l[i]? = some o → listed.getD i true = false → (∀ e ∈ o.after, Region.binds .any e = true → listed.getD e.on false = true) →
      (Region.wanted o (yielded l.toArray a.tmps) = true ∧ o.wp P a w (fun a' w' => I (listed.setIfInBounds i true) a' w') Q) ∨ (Region.wanted o (yielded l.toArray a.tmps) = false ∧ I (listed.setIfInBounds i true) (a.put o.dst undef) w))
    (hdone : ∀ a w, I (Array.replicate l.length true) a w → Q .normal a w) :
    ∀ (fuel : Nat) (listed : Array Bool) (a : Act) (w : World), listed.size = l.length → open_ listed = fuel → I listed a w → wpAny P .any l.toArray Q fuel listed a w
  | 0, listed, a, w, hs, ho, hI => by
    have ha := all_true ho
    rw [hs] at ha
    refine ⟨?_, hdone a w (by rw [← ha]; exact hI)⟩
    rw [List.eq_nil_iff_forall_not_mem]
    intro j hj
    obtain ⟨h1, o, h2, _⟩ := mem_ready.1 hj
    have hl : j < l.length := by
      have := (Array.getElem?_eq_some_iff.1 h2).1
      simpa using this
    rw [ha] at h1
    simp [hl] at h1
  | f + 1, listed, a, w, hs, ho, hI => by
    refine ⟨fun hr => ?_, fun i hi => ?_⟩
    · obtain ⟨i, h1, h2⟩ := least_open (listed := listed) (by omega)
      have hil : i < l.length := by
        rcases Nat.lt_or_ge i l.length with h' | h'
        · exact h'
        · have : listed.size ≤ i := by omega
          simp [Array.getElem?_eq_none this] at h1
      have hm : i ∈ Region.ready .any l.toArray listed := mem_ready.2 ⟨h1, l[i], by simp [hil], fun e he hb => h2 _ (edge_lt hE (List.getElem?_eq_getElem hil) he hb)⟩
      rw [hr] at hm
      cases hm
    · obtain ⟨h1, o, h2, h3⟩ := mem_ready.1 hi
      have h2' : l[i]? = some o := by simpa using h2
      have next : ∀ a' w', I (listed.setIfInBounds i true) a' w' → wpAny P .any l.toArray Q f (listed.setIfInBounds i true) a' w' := fun a' w' h => wpAny_skip I hE hstep hdone f _ a' w' (by simpa using hs) (by have := open_set h1; omega) h
      rcases hstep listed a w i o hs hI h2' h1 h3 with ⟨hw, hwp⟩ | ⟨hw, hsk⟩
      · unfold wpOp
        simp only [h2, hw, if_true]
        left
        exact Oper.wp_mono next hwp
      · unfold wpOp
        simp only [h2, hw]
        exact next _ _ hsk

/-- What is asked of each operation: it is carried out, or left out. -/
def SkipOk (P : Program) (h : List Oper) (A0 : Act) (W0 : World) (R : Nat → Value → World → Prop) (i : Nat) (o : Oper) : Prop :=
  OwnOk P h A0 W0 R [] [] i o ∨ ∃ d, o.dst = some d ∧ ∀ a w, Fr h A0 a → GotE h [] R [] W0.heap.size i a w o → Region.wanted o (yielded h.toArray a.tmps) = false ∧ R d undef w
def SkipAll (P : Program) (h : List Oper) (A0 : Act) (W0 : World) (R : Nat → Value → World → Prop) : Nat → List Oper → Prop
  | _, [] => True
  | i, o :: r => SkipOk P h A0 W0 R i o ∧ SkipAll P h A0 W0 R (i + 1) r
theorem skipAll_get {P : Program} {h : List Oper} {A0 : Act} {W0 : World} {R : Nat → Value → World → Prop} : ∀ (r : List Oper) (k : Nat), SkipAll P h A0 W0 R k r → ∀ i o, r[i]? = some o → SkipOk P h A0 W0 R (k + i) o
  | [], _, _, i, o, ho => by simp at ho
  | x :: r, k, hr, 0, o, ho => by simp at ho; subst ho; exact hr.1
  | x :: r, k, hr, i + 1, o, ho => by
    have := skipAll_get r (k + 1) hr.2 i o (by simpa using ho)
    rwa [show k + 1 + i = k + (i + 1) from by omega] at this
theorem skip_at {P : Program} {h : List Oper} {A0 A : Act} {W0 : World} {S : Nat → Option (Value → World → Prop)} {sp : List Nat} {i : Nat} {o : Oper} (hA : Full h A0 A S sp) (j : Nat) (b c : Bool) (d s : Nat) (hg : o.guard = some (j, b)) (hj : (h[j]?).bind (·.dst) = some s) (hw : waitsFor h o s = true) (hs : sp.contains s = false) (hv : A.tmps[s]? = some (.bool c)) (hc : (c == b) = false) (hd : o.dst = some d) (hds : sp.contains d = false) (hu : A.tmps[d]? = some undef) : SkipOk P h A0 W0 (relR A S) i o :=
  .inr ⟨d, hd, fun a w _ hgot => by
    obtain ⟨u, e1, e2, _⟩ := hgot s hw rfl
    unfold relR at e2
    rw [hA.spec s (not_mem_of hs), hv] at e2
    cases e2
    have hcb : c ≠ b := by simpa using hc
    refine ⟨by simp [Region.wanted, hg, yielded, hj, e1, hcb], ?_⟩
    unfold relR
    rw [hA.spec d (not_mem_of hds)]
    exact hu⟩
/-- As it is left out of a slot that was left out, too. -/
theorem skip_undef {P : Program} {h : List Oper} {A0 A : Act} {W0 : World} {S : Nat → Option (Value → World → Prop)} {sp : List Nat} {i : Nat} {o : Oper} (hA : Full h A0 A S sp) (j : Nat) (b : Bool) (d s : Nat) (hg : o.guard = some (j, b)) (hj : (h[j]?).bind (·.dst) = some s) (hw : waitsFor h o s = true) (hs : sp.contains s = false) (hv : A.tmps[s]? = some undef) (hd : o.dst = some d) (hds : sp.contains d = false) (hu : A.tmps[d]? = some undef) : SkipOk P h A0 W0 (relR A S) i o :=
  .inr ⟨d, hd, fun a w _ hgot => by
    obtain ⟨u, e1, e2, _⟩ := hgot s hw rfl
    unfold relR at e2
    rw [hA.spec s (not_mem_of hs), hv] at e2
    cases e2
    refine ⟨by simp [Region.wanted, hg, yielded, hj, e1, undef], ?_⟩
    unfold relR
    rw [hA.spec d (not_mem_of hds)]
    exact hu⟩

theorem region_skipL {P : Program} {Q : Exit → Act → World → Prop} {id : Nat} {a : Act} {w : World} (W0 : World) (n : Nat) {l : List Oper} (vals : List (Nat × Value)) (L : List (Nat × (Value → World → Prop))) (hm : P.follows .mixedOrders = true)
    (hE : edgesIn (l.take n) = true) (hG : guardsIn (l.take n) = true) (hA : dstsApart (l.take n) 0 = true) (hI : dstsIn (l.take n) a.tmps.size = true) (hT : tailUnder (l.take n) (l.drop n) = true)
    (hS : Region.seqB .any l.toArray (l.drop n).length (l.take n).length (Array.replicate (l.take n).length true ++ Array.replicate (l.drop n).length false) = true)
    (hv : (vals.all fun p => (dstsOf (l.take n)).contains p.1) = true) (hsp : ((L.map (·.1)).all fun d => (dstsOf (l.take n)).contains d) = true)
    (hst : ∀ q ∈ L, ∀ (v : Value) (w w' : World), q.2 v w → Below w.heap.size w w' → q.2 v w') (hw : Below W0.heap.size W0 w)
    (hok : Full (l.take n) a (putR a vals) (specOf L) (L.map (·.1)) → SkipAll P (l.take n) a W0 (relR (putR a vals) (specOf L)) 0 (l.take n))
    (hfin : ∀ (f : Nat → Value) w', (∀ d p, specOf L d = some p → p (f d) w') → Below W0.heap.size W0 w' → wpList P l.toArray Q (l.drop n) (putR (putR a vals) ((L.map (·.1)).map fun d => (d, f d))) w') : (Code.region id l.toArray true).wp P Q a w := by
  have hfull : Full (l.take n) a (putR a vals) (specOf L) (L.map (·.1)) := full_put vals hv (specOf_none L)
  have hok' := hok hfull
  clear hok
  have hin : ∀ d, d ∈ L.map (·.1) → d ∈ dstsOf (l.take n) := fun d hd => List.contains_iff_mem.1 (List.all_eq_true.1 hsp d hd)
  have hkeep : ∀ d v (w w' : World), relR (putR a vals) (specOf L) d v w → Below w.heap.size w w' → relR (putR a vals) (specOf L) d v w' := fun d v w w' h1 h2 => by
    unfold relR at *
    cases hs : specOf L d with
    | none => rw [hs] at h1; exact h1
    | some p =>
      rw [hs] at h1
      obtain ⟨q, hq, rfl, rfl⟩ := specOf_mem' L d p hs
      exact hst q hq v w w' h1 h2
  have e : l.take n ++ l.drop n = l := List.take_append_drop n l
  refine wp_region_any hm ?_
  generalize hh : l.take n = h at *
  have main := wpAny_skip (P := P) (l := h) (Q := headPost P (h ++ l.drop n).toArray Q (l.drop n))
    (fun listed a' w' => Fr h a a' ∧ Below W0.heap.size W0 w' ∧ ∀ d, (∃ (i : Nat) (o : Oper), h[i]? = some o ∧ listed.getD i false = true ∧ o.dst = some d) → ∃ v, a'.tmps[d]? = some v ∧ relR (putR a vals) (specOf L) d v w') hE
    (by
      intro listed a' w' i o hls hI' ho hun hall
      obtain ⟨hF, hB, hV⟩ := hI'
      have hil : i < listed.size := by rw [hls]; exact (List.getElem?_eq_some_iff.1 ho).1
      have hson : ∀ k, (listed.setIfInBounds i true).getD k false = if k = i then true else listed.getD k false := fun k => by
        by_cases hk : k = i
        · subst hk; simp [hil]
        · rw [if_neg hk, getD_set_ne false (Ne.symm hk)]
      have hgot : GotE h [] (relR (putR a vals) (specOf L)) [] W0.heap.size i a' w' o := fun d hs hq => by
        obtain ⟨x, hx, h1⟩ := Array.any_eq_true'.1 hs
        simp only [Bool.and_eq_true] at h1
        cases ho' : h[x.on]? with
        | none => simp [ho'] at h1
        | some o' =>
          obtain ⟨v, e1, e2⟩ := hV d ⟨x.on, o', ho', hall x hx h1.1, by simpa [ho'] using h1.2⟩
          exact ⟨v, e1, e2, fun hc => by simp at hc⟩
      have step : ∀ d v w2, o.dst = some d → relR (putR a vals) (specOf L) d v w2 → Below w'.heap.size w' w2 → Fr h a (a'.put (some d) v) ∧ Below W0.heap.size W0 w2 ∧ ∀ d', (∃ (j : Nat) (o : Oper), h[j]? = some o ∧ (listed.setIfInBounds i true).getD j false = true ∧ o.dst = some d') → ∃ u, (a'.put (some d) v).tmps[d']? = some u ∧ relR (putR a vals) (specOf L) d' u w2 := by
        intro d v w2 hd hR hb
        have hdl : d < a'.tmps.size := by
          have := List.all_eq_true.1 hI o (List.mem_of_getElem? ho)
          rw [hd] at this
          rw [hF.size]
          simpa using this
        have hother : ∀ d', d' ≠ d → (a'.put (some d) v).tmps[d']? = a'.tmps[d']? := fun d' hne => by simp [Act.put, Array.getElem?_setIfInBounds_ne (Ne.symm hne)]
        have hself : (a'.put (some d) v).tmps[d]? = some v := by simp [Act.put, hdl]
        refine ⟨⟨by rw [size_put]; exact hF.size, hF.defers, fun d' h' => ?_⟩, hB.trans (hb.mono hB.size), fun d' hL => ?_⟩
        · rw [hother d' (fun e2 => h' i o ho (by rw [hd, e2]))]
          exact hF.out d' h'
        · by_cases hdd : d' = d
          · subst hdd
            exact ⟨v, hself, hR⟩
          · obtain ⟨j, o', h1, h2, h3⟩ := hL
            rw [hother d' hdd]
            have h2' : listed.getD j false = true := by
              rw [hson j] at h2
              split at h2
              · next hji => subst hji; rw [ho] at h1; cases h1; rw [hd] at h3; exact absurd (Option.some.inj h3).symm hdd
              · exact h2
            obtain ⟨u, e1, e2⟩ := hV d' ⟨j, o', h1, h2', h3⟩
            exact ⟨u, e1, hkeep d' u w' w2 e2 hb⟩
      rcases (by have := skipAll_get h 0 hok' i o ho; rwa [Nat.zero_add] at this : SkipOk P h a W0 (relR (putR a vals) (specOf L)) i o) with ⟨d, hd, hrun⟩ | ⟨d, hd, hskip⟩
      · obtain ⟨hwant, hwp⟩ := hrun a' w' hF hB hgot
        refine .inl ⟨hwant, wp_false ?_ hwp⟩
        rintro a2 w2 ⟨v, row, rfl, hR, hg, hrow, _⟩
        exact step d v w2 hd hR (grown_empty hg (fun b hb => by obtain ⟨s', hs', _⟩ := hrow b hb; cases hs'))
      · obtain ⟨hwant, hR⟩ := hskip a' w' hF hgot
        refine .inr ⟨hwant, ?_⟩
        rw [hd]
        exact step d undef w' hd hR (Below.refl _ _))
    (by
      intro a' w' hI'
      obtain ⟨hF, hB, hV⟩ := hI'
      have hall : ∀ d (i : Nat) (o : Oper), h[i]? = some o → o.dst = some d → ∃ v, a'.tmps[d]? = some v ∧ relR (putR a vals) (specOf L) d v w' := fun d i o h1 h2 => hV d ⟨i, o, h1, by simp [(List.getElem?_eq_some_iff.1 h1).1], h2⟩
      have hfr := hfin (fun d => (a'.tmps[d]?).getD undef) w' (fun d p hp => by
        obtain ⟨q, hq, e1, rfl⟩ := specOf_mem' L d p hp
        have hd := hin d (by rw [← e1]; exact List.mem_map.2 ⟨q, hq, rfl⟩)
        obtain ⟨o, ho, hdo⟩ := List.mem_filterMap.1 hd
        obtain ⟨i, hi, he⟩ := List.getElem_of_mem ho
        obtain ⟨v, e2, e3⟩ := hall d i o (by rw [List.getElem?_eq_getElem hi, he]) hdo
        simp only [e2, Option.getD_some]
        unfold relR at e3
        rw [hp] at e3
        exact e3) hB
      have ea : a' = putR (putR a vals) ((L.map (·.1)).map fun d => (d, (a'.tmps[d]?).getD undef)) := by
        refine act_eq (Array.ext_getElem? fun d => ?_) (by rw [putR_defers, putR_defers]; exact hF.defers)
        rw [putR_get', putR_size]
        by_cases hdl : d < a.tmps.size
        · rw [if_pos hdl]
          have hsm : a'.tmps[d]? = some ((a'.tmps[d]?).getD undef) := by
            rw [Array.getElem?_eq_getElem (show d < a'.tmps.size by rw [hF.size]; exact hdl)]
            rfl
          by_cases h2 : d ∈ L.map (·.1)
          · rw [if_pos h2]
            exact hsm
          · rw [if_neg h2]
            by_cases hd : ∃ (i : Nat) (o : Oper), h[i]? = some o ∧ o.dst = some d
            · obtain ⟨i, o, h1, h3⟩ := hd
              obtain ⟨v, e1, e2⟩ := hall d i o h1 h3
              unfold relR at e2
              rw [hfull.spec d h2] at e2
              rw [e1]
              exact e2.symm
            · have hno : ∀ (i : Nat) (o : Oper), h[i]? = some o → o.dst ≠ some d := fun i o h1 h3 => hd ⟨i, o, h1, h3⟩
              rw [hF.out d hno, hfull.out d hno]
        · rw [if_neg hdl, Array.getElem?_eq_none (by rw [hF.size]; omega)]
      rw [← ea] at hfr
      show wpList P (h ++ l.drop n).toArray Q (l.drop n) a' w'
      rw [e]
      exact hfr)
    h.length (Array.replicate h.length false) a { w with drawn := w.drawn + 1 } (by simp) (by simp [open_])
    (by
      have hno : ∀ k, (Array.replicate h.length false).getD k false = true → False := fun k hk => by
        rw [Array.getD_eq_getD_getElem?, Array.getElem?_replicate] at hk
        split at hk <;> simp at hk
      exact ⟨⟨rfl, rfl, fun _ _ => rfl⟩, hw.drew, fun d hL => (by obtain ⟨i, o, _, hon, _⟩ := hL; exact (hno i hon).elim)⟩)
  have h3 := lift_under (Q := Q) hE hG hT (by rw [e]; exact hS) h.length (Array.replicate h.length false) a _ (by simp) (by simp [open_]) (closed_none _) main
  rw [e] at h3
  have e1 : l.toArray.size = h.length + (l.drop n).length := by rw [← List.length_append, e]; simp
  rw [e1, show Array.replicate (h.length + (l.drop n).length) false = Array.replicate h.length false ++ Array.replicate (l.drop n).length false by simp]
  exact h3
end Go.Proofs.YtniogaimhkcedaaDoor.sh
/-
  Strings as lists of bytes: length, bytes, parts, joined, compared, turned into bytes.
-/
namespace Go.Proofs.YtniogaimhkcedaaDoor.sh
open Go Go.RowKit
set_option linter.unusedVariables false
set_option linter.unusedSimpArgs false

/-- The bytes of a string. -/
def strL (s : ByteArray) : List Nat := s.data.toList.map (·.toNat)
theorem strL_bytes (s : ByteArray) : Bytes (strL s) := bytes_of_all (fun x hx => by
  unfold strL at hx
  obtain ⟨u, _, rfl⟩ := List.mem_map.1 hx
  exact u.toNat_lt)
theorem sa_fold : ∀ (l : List Nat) (b : ByteArray), ((l.map fun n : Nat => (n : Int)).foldl (fun r n => r.push (UInt8.ofNat n.toNat)) b).data.toList = b.data.toList ++ l.map (fun n => UInt8.ofNat n)
  | [], b => by simp
  | x :: l, b => by
    rw [List.map_cons, List.foldl_cons, sa_fold l]
    simp [ByteArray.push]
theorem sa_data (l : List Nat) : (strOf l).data.toList = l.map (fun n => UInt8.ofNat n) := by
  unfold strOf
  rw [sa_fold]
  rfl
theorem str_ext {s t : ByteArray} (h : s.data.toList = t.data.toList) : s = t := by
  cases s; cases t
  simp only at h
  congr 1
  exact Array.toList_inj.1 h
theorem strOf_strL (s : ByteArray) : strOf (strL s) = s := by
  refine str_ext ?_
  rw [sa_data]
  unfold strL
  rw [List.map_map]
  conv => rhs; rw [← List.map_id s.data.toList]
  exact List.map_congr_left fun x _ => by simp
theorem strL_strOf {l : List Nat} (h : Bytes l) : strL (strOf l) = l := by
  unfold strL
  rw [sa_data, List.map_map]
  conv => rhs; rw [← List.map_id l]
  refine List.map_congr_left fun x hx => ?_
  have := h.all x hx
  simp
  omega
theorem strOf_size (l : List Nat) : (strOf l).size = l.length := by
  show (strOf l).data.size = _
  rw [← Array.length_toList, sa_data, List.length_map]
theorem strOf_append (l m : List Nat) : strOf l ++ strOf m = strOf (l ++ m) := by
  refine str_ext ?_
  rw [sa_data, List.map_append, ← sa_data, ← sa_data, ByteArray.data_append, Array.toList_append]
theorem strOf_extract (l : List Nat) (a b : Nat) : (strOf l).extract a b = strOf ((l.take b).drop a) := by
  refine str_ext ?_
  rw [sa_data, ByteArray.data_extract, Array.toList_extract, sa_data, List.extract_eq_take_drop, ← List.map_drop, ← List.map_take, List.drop_take]
theorem strOf_get (l : List Nat) (i : Nat) : (strOf l)[i]? = (l[i]?).map (fun n => UInt8.ofNat n) := by
  rw [← List.getElem?_map, ← sa_data, Array.getElem?_toList]
  rfl
theorem strOf_same {l m : List Nat} (hl : Bytes l) (hm : Bytes m) (h : strOf l = strOf m) : l = m := by
  rw [← strL_strOf hl, h, strL_strOf hm]
theorem sa_beq {l m : List Nat} (hl : Bytes l) (hm : Bytes m) : ((strOf l).toList == (strOf m).toList) = decide (l = m) := by
  by_cases h : l = m
  · rw [h]; simp
  · rw [decide_eq_false h]
    refine beq_eq_false_iff_ne.2 (fun e => h (strOf_same hl hm (str_ext ?_)))
    rw [ByteArray.toList_eq, ByteArray.toList_eq] at e
    exact e
/-- One text is less than another one. -/
def lessL : List Nat → List Nat → Bool
  | _, [] => false
  | [], _ :: _ => true
  | a :: x, b :: y => decide (a < b) || (decide (a = b) && lessL x y)
theorem less_map : ∀ (l m : List Nat), (∀ x ∈ l, x < 256) → (∀ x ∈ m, x < 256) → Op.bytesLess (l.map fun n => UInt8.ofNat n) (m.map fun n => UInt8.ofNat n) = lessL l m
  | [], [], _, _ => rfl
  | _ :: _, [], _, _ => rfl
  | [], _ :: _, _, _ => rfl
  | a :: x, b :: y, hl, hm => by
    have ha := hl a List.mem_cons_self
    have hb := hm b List.mem_cons_self
    have ih := less_map x y (fun z hz => hl z (List.mem_cons_of_mem _ hz)) (fun z hz => hm z (List.mem_cons_of_mem _ hz))
    simp only [List.map_cons, Op.bytesLess, lessL, ih]
    have e1 : decide (UInt8.ofNat a < UInt8.ofNat b) = decide (a < b) := decide_eq_decide.2 (by rw [UInt8.lt_iff_toNat_lt]; simp; omega)
    have e2 : (UInt8.ofNat a == UInt8.ofNat b) = decide (a = b) := by
      by_cases h : a = b
      · subst h; simp
      · rw [decide_eq_false h]
        refine beq_eq_false_iff_ne.2 (fun e => h ?_)
        have := congrArg UInt8.toNat e
        simp at this
        omega
    rw [e1, e2]
theorem sa_less {l m : List Nat} (hl : Bytes l) (hm : Bytes m) : Op.bytesLess (strOf l).toList (strOf m).toList = lessL l m := by
  rw [ByteArray.toList_eq, ByteArray.toList_eq, sa_data, sa_data]
  exact less_map l m hl.all hm.all

theorem run_sidx {o : Oper} {a : Act} {x y : Operand} {l : List Nat} {i z : Nat} (ho : o.op = .index 9 x y) (hx : a.eval x = .string (strOf l)) (hy : a.eval y = .int .i64 (i : Int)) (hl : Bytes l) (hz : l[i]? = some z) (w : World) : (execOp a.eval o).run Tryd.prog w = .ok (.value (.int .u8 (z : Int))) w := by
  have hz8 := hl i z hz
  have h1 : (strOf l)[i]? = some (UInt8.ofNat z) := by rw [strOf_get, hz]; rfl
  have h2 : ((UInt8.ofNat z).toNat : Int) = (z : Int) := by simp; omega
  unfold execOp
  simp only [ho, hx, hy]
  simp [asIntOf, run_underlying str_u, go_sem, Instr.index, h1, h2]
  omega
theorem run_scut {o : Oper} {a : Act} {x y z : Operand} {l m : List Nat} {i j : Nat} (ho : o.op = .slice 9 x (some y) (some z) none) (hx : a.eval x = .string (strOf l)) (hy : a.eval y = .int .i64 (i : Int)) (hz : a.eval z = .int .i64 (j : Int)) (hij : i ≤ j) (hj : j ≤ l.length) (hm : m = (l.take j).drop i) (w : World) : (execOp a.eval o).run Tryd.prog w = .ok (.value (.string (strOf m))) w := by
  have h2 : ((j : Int) ≤ ((strOf l).size : Int)) := by rw [strOf_size]; omega
  have h1 : ((i : Int) ≤ (j : Int)) := by omega
  have h3 : j ≤ (strOf l).size := by rw [strOf_size]; exact hj
  unfold execOp
  simp only [ho, hx, hy, hz, Option.map_none, Option.map_some, Instr.sliceAt, Instr.slice, Instr.sliceBounds, Sem.run_bind, run_underlying str_u, Result.andThen_ok]
  simp [Instr.sliceBound, asIntOf, go_sem, h1, h2, h3, hij]
  rw [hm, ← strOf_extract]
theorem run_scutF {o : Oper} {a : Act} {x y : Operand} {l m : List Nat} {i : Nat} (ho : o.op = .slice 9 x (some y) none none) (hx : a.eval x = .string (strOf l)) (hy : a.eval y = .int .i64 (i : Int)) (hi : i ≤ l.length) (hm : m = l.drop i) (w : World) : (execOp a.eval o).run Tryd.prog w = .ok (.value (.string (strOf m))) w := by
  have h3 : i ≤ (strOf l).size := by rw [strOf_size]; exact hi
  have h2 : ((i : Int) ≤ ((strOf l).size : Int)) := by omega
  unfold execOp
  simp only [ho, hx, hy, Option.map_none, Option.map_some, Instr.sliceAt, Instr.slice, Instr.sliceBounds, Sem.run_bind, run_underlying str_u, Result.andThen_ok]
  simp [Instr.sliceBound, asIntOf, go_sem, h2, h3]
  rw [hm, strOf_size, strOf_extract, List.take_length]
theorem run_scutT {o : Oper} {a : Act} {x z : Operand} {l m : List Nat} {j : Nat} (ho : o.op = .slice 9 x none (some z) none) (hx : a.eval x = .string (strOf l)) (hz : a.eval z = .int .i64 (j : Int)) (hj : j ≤ l.length) (hm : m = l.take j) (w : World) : (execOp a.eval o).run Tryd.prog w = .ok (.value (.string (strOf m))) w := by
  have h3 : j ≤ (strOf l).size := by rw [strOf_size]; exact hj
  have h2 : ((j : Int) ≤ ((strOf l).size : Int)) := by omega
  unfold execOp
  simp only [ho, hx, hz, Option.map_none, Option.map_some, Instr.sliceAt, Instr.slice, Instr.sliceBounds, Sem.run_bind, run_underlying str_u, Result.andThen_ok]
  simp [Instr.sliceBound, asIntOf, go_sem, h2, h3]
  rw [hm, strOf_extract, List.drop_zero]
theorem run_scat {o : Oper} {a : Act} {x y : Operand} {l m k : List Nat} (ho : o.op = .binOp .add 9 x y 9) (hx : a.eval x = .string (strOf l)) (hy : a.eval y = .string (strOf m)) (hn : l.length + m.length < 4611686018427387904) (hk : k = l ++ m) (w : World) : (execOp a.eval o).run Tryd.prog w = .ok (.value (.string (strOf k))) w := by
  have h1 : ¬ (((strOf l).size + (strOf m).size : Nat) : Int) > IntKind.i64.max := by rw [strOf_size, strOf_size, show IntKind.i64.max = 9223372036854775807 from rfl]; omega
  unfold execOp
  simp only [ho, hx, hy]
  simp [go_sem, Op.stringOp, h1]
  rw [if_neg (by simpa using h1), hk, ← strOf_append]
theorem run_seq {o : Oper} {a : Act} {x y : Operand} {u : TypeId} {l m : List Nat} {b : Bool} (ho : o.op = .binOp .eql 9 x y u) (hx : a.eval x = .string (strOf l)) (hy : a.eval y = .string (strOf m)) (hl : Bytes l) (hm : Bytes m) (hb : b = decide (l = m)) (w : World) : (execOp a.eval o).run Tryd.prog w = .ok (.value (.bool b)) w := by
  have e := sa_beq hl hm
  unfold execOp
  simp only [ho, hx, hy]
  rw [hb, ← e]
  simp [go_sem]
theorem run_sneq {o : Oper} {a : Act} {x y : Operand} {u : TypeId} {l m : List Nat} {b : Bool} (ho : o.op = .binOp .neq 9 x y u) (hx : a.eval x = .string (strOf l)) (hy : a.eval y = .string (strOf m)) (hl : Bytes l) (hm : Bytes m) (hb : b = !decide (l = m)) (w : World) : (execOp a.eval o).run Tryd.prog w = .ok (.value (.bool b)) w := by
  have e := sa_beq hl hm
  unfold execOp
  simp only [ho, hx, hy]
  rw [hb, ← e]
  simp [go_sem]
theorem run_sless {o : Oper} {a : Act} {x y : Operand} {u : TypeId} {l m : List Nat} {b : Bool} (ho : o.op = .binOp .lss 9 x y u) (hx : a.eval x = .string (strOf l)) (hy : a.eval y = .string (strOf m)) (hl : Bytes l) (hm : Bytes m) (hb : b = lessL l m) (w : World) : (execOp a.eval o).run Tryd.prog w = .ok (.value (.bool b)) w := by
  have e := sa_less hl hm
  unfold execOp
  simp only [ho, hx, hy]
  rw [hb, ← e]
  simp [go_sem]
theorem run_slen {o : Oper} {a : Act} {x : Operand} {l : List Nat} {n : Nat} (ho : o.op = .call { callee := .builtin .len, args := #[x], argTypes := #[9] }) (hx : a.eval x = .string (strOf l)) (hn : n = l.length) (w : World) : (execOp a.eval o).run Tryd.prog w = .ok (.value (.int .i64 (n : Int))) w := by
  unfold execOp
  simp only [ho, resolve, invoke, builtin, Sem.run_bind, Sem.run_pure, Result.andThen_ok, List.map_toArray, List.map_cons, List.map_nil, hx]
  simp [Builtin.len_, run_underlying str_u, goInt, go_sem, strOf_size, hn]
/-- Bytes of a string: a slice in a block of its own. -/
theorem conv_sb (l : List Nat) (hl : Bytes l) (w : World) : ∃ v w', (convert 9 23 (.string (strOf l))).run Tryd.prog w = .ok v w' ∧ BytesV v w' l ∧ Below w.heap.size w w' ∧ blkOf v = some w.heap.size := by
  have h := run_bytes_of_string (P := Tryd.prog) w 9 23 5 (strOf l) str_u Tryd.underlying23 Tryd.underlying5
  refine ⟨_, _, h, ⟨_, _, by rw [strOf_size], ?_, fun hne => ⟨_, rfl, ?_, fun j x hx => ?_⟩⟩, ((Below.refl w.heap.size w).drew.alloc (Nat.le_refl _) _), rfl⟩
  · have := grownCap_ge w (strOf l).size 0 5
    rw [strOf_size] at this
    first | exact this | (rw [strOf_size]; exact this)
  · show w.heap.size < (w.heap.push _).size
    simp
  · have hj : j < l.length := (List.getElem?_eq_some_iff.1 hx).1
    have hx8 := hl j x hx
    rw [addr_add, Nat.zero_add]
    refine (show World.cell? _ ⟨w.heap.size, j, none⟩ = _ from ?_)
    have hg : (w.drew.alloc (.cells (bytesRow (strOf l) (grownCap w (strOf l).size 0 5)) 5 ((bytesRow (strOf l) (grownCap w (strOf l).size 0 5)).size, (bytesRow (strOf l) (grownCap w (strOf l).size 0 5)).size + 1))).heap[w.heap.size]? = some (.cells (bytesRow (strOf l) (grownCap w (strOf l).size 0 5)) 5 ((bytesRow (strOf l) (grownCap w (strOf l).size 0 5)).size, (bytesRow (strOf l) (grownCap w (strOf l).size 0 5)).size + 1)) := by
      show (w.heap.push _)[w.heap.size]? = _
      simp
    have hc : (bytesRow (strOf l) (grownCap w (strOf l).size 0 5))[j]? = some (.int .u8 (x : Int)) := by
      unfold bytesRow
      rw [Array.getElem?_append_left (by rw [Array.size_map]; show j < (strOf l).size; rw [strOf_size]; exact hj), Array.getElem?_map]
      have h2 : (strOf l).data[j]? = some (UInt8.ofNat x) := by rw [← Array.getElem?_toList, sa_data, List.getElem?_map, hx]; rfl
      rw [h2]
      simp
      omega
    unfold World.cell?
    rw [hg]
    exact hc
end Go.Proofs.YtniogaimhkcedaaDoor.sh
/-
  Slices whose elements have one cell each, whatever they are: read, owned, appended to; slices of strings.
-/
namespace Go.Proofs.YtniogaimhkcedaaDoor.sh
open Go Go.RowKit
set_option linter.unusedVariables false
set_option linter.unusedSimpArgs false

/-- Values, of one cell each, that a slice holds. -/
def ValsV (v : Value) (w : World) (vs : List Value) : Prop := ∃ p c, v = .slice p vs.length c ∧ vs.length ≤ c ∧ (vs ≠ [] → ∃ A, p = some A ∧ A.block < w.heap.size ∧ ∀ (j : Nat) (x : Value), vs[j]? = some x → w.cell? (A.add j) = some x)
theorem ValsV.below {v : Value} {w w' : World} {vs : List Value} {B : Nat} (h : ValsV v w vs) (hB : ∀ b, blkOf v = some b → b < B) (hb : Below B w w') : ValsV v w' vs := by
  obtain ⟨p, c, rfl, h2, h3⟩ := h
  refine ⟨p, c, rfl, h2, fun hne => ?_⟩
  obtain ⟨A, rfl, e2, e3⟩ := h3 hne
  exact ⟨A, rfl, Nat.lt_of_lt_of_le e2 hb.size, fun j x hx => by rw [hb.cell (by rw [add_block]; exact hB _ rfl)]; exact e3 j x hx⟩
theorem ValsV.under {v : Value} {w w' : World} {vs : List Value} (h : ValsV v w vs) (hb : Below w.heap.size w w') : ValsV v w' vs := by
  obtain ⟨p, c, rfl, hlc, hp⟩ := h
  refine ⟨p, c, rfl, hlc, fun hne => ?_⟩
  obtain ⟨A, rfl, hA, hc⟩ := hp hne
  exact ⟨A, rfl, Nat.lt_of_lt_of_le hA hb.size, fun j x hx => (hb.cell (by rw [add_block]; exact hA)).trans (hc j x hx)⟩
theorem vals_nil (w : World) : ValsV (.slice none 0 0) w [] := ⟨none, 0, rfl, Nat.le_refl _, fun h => absurd rfl h⟩
theorem vals_form {v : Value} {w : World} {vs : List Value} {n : Nat} (h : ValsV v w vs) (hn : vs.length = n) : ∃ p c, v = .slice p n c ∧ n ≤ c := by
  obtain ⟨p, c, rfl, h2, _⟩ := h
  exact ⟨p, c, by rw [hn], by omega⟩
theorem vals_at {p : Option Addr} {n c : Nat} {w : World} {vs : List Value} (h : ValsV (.slice p n c) w vs) {i : Nat} {x : Value} (hx : vs[i]? = some x) : ∃ A, p = some A ∧ A.block < w.heap.size ∧ w.cell? (A.add i) = some x := by
  obtain ⟨p', c', e1, _, e3⟩ := h
  cases e1
  obtain ⟨A, e4, e6, e5⟩ := e3 (by intro e; rw [e] at hx; cases hx)
  exact ⟨A, e4, e6, e5 i x hx⟩
theorem vals_cell {A : Addr} {n c : Nat} {w : World} {vs : List Value} (h : ValsV (.slice (some A) n c) w vs) {i : Nat} {x : Value} (hx : vs[i]? = some x) : w.cell? (A.add i) = some x := by
  obtain ⟨A', e1, _, e2⟩ := vals_at h hx
  cases e1
  exact e2
/-- The same, in a block that the call owns. -/
def VRow (base : Nat) (e : TypeId) (vs : List Value) : Value → World → Prop := fun v w => w.ownsRow base e 1 v vs.length vs
theorem vrow_blk {base : Nat} {e : TypeId} {vs : List Value} {v : Value} {w : World} (h : VRow base e vs v w) : v.ownBlock = blkOf v := by
  rcases h.2 with ⟨rfl, _⟩ | ⟨g, cap, cur, rfl, _⟩ <;> rfl
theorem VRow.keeps {base : Nat} {e : TypeId} {vs : List Value} {v : Value} {w w' : World} {row : Option Nat} (h : VRow base e vs v w) (hg : w.grownBy w' row) (hne : blkOf v = none ∨ blkOf v ≠ row) : VRow base e vs v w' := by
  obtain ⟨h1, h2⟩ := h
  refine ⟨h1, ?_⟩
  rcases h2 with h | ⟨g, cap, cur, rfl, hb, hgt, r⟩
  · exact .inl h
  · refine .inr ⟨g, cap, cur, rfl, hb, ?_, r⟩
    have hlt : g < w.heap.size := (Array.getElem?_eq_some_iff.1 hgt).1
    rw [hg.block g hlt (fun e => by
      rcases hne with h | h
      · cases h
      · exact h e)]
    exact hgt
theorem VRow.mono {base b' : Nat} {e : TypeId} {vs : List Value} {v : Value} {w : World} (h : VRow base e vs v w) (hb : b' ≤ base) : VRow b' e vs v w := by
  obtain ⟨h1, h2⟩ := h
  refine ⟨h1, ?_⟩
  rcases h2 with h | ⟨g, cap, cur, a, b, c⟩
  · exact .inl h
  · exact .inr ⟨g, cap, cur, a, Nat.le_trans hb b, c⟩
theorem VRow.range {base : Nat} {e : TypeId} {vs : List Value} {v : Value} {w : World} (h : VRow base e vs v w) : ∀ b, blkOf v = some b → base ≤ b ∧ b < w.heap.size := fun b hb => h.lt b (by rw [vrow_blk h]; exact hb)
theorem VRow.under {base : Nat} {e : TypeId} {vs : List Value} {v : Value} {w w' : World} (h : VRow base e vs v w) (hb : Below w.heap.size w w') : VRow base e vs v w' := h.keeps (grown_under hb) (ne_none v)
theorem VRow.alloc {base : Nat} {e : TypeId} {vs : List Value} {v : Value} {w : World} (h : VRow base e vs v w) (o : Obj) : VRow base e vs v (w.alloc o) := World.ownsRow.alloc h o
theorem vrow_nil (w : World) (base : Nat) (e : TypeId) : VRow base e [] (.slice none 0 0) w := World.ownsRow_nil w base e 1
theorem vrow_lit {base : Nat} {e : TypeId} (w : World) (A : Array Value) (n : Nat) (hn : A.size = n) (hb : base ≤ w.heap.size) (hm : n ≤ maxLen) : VRow base e A.toList (.slice (some ⟨w.heap.size, 0, none⟩) n n) (w.alloc (.cells A e)) := by
  subst hn
  unfold VRow
  rw [Array.length_toList]
  refine ⟨by simp, .inr ⟨w.heap.size, A.size, A, rfl, hb, heap_new w _, Nat.le_refl _, hm, by omega, ?_⟩⟩
  rw [Nat.mul_one, List.take_of_length_le (by simp)]
theorem vrow_vals {base : Nat} {e : TypeId} {vs : List Value} {v : Value} {w : World} (h : VRow base e vs v w) : ValsV v w vs := by
  rcases h.2 with ⟨rfl, h0⟩ | ⟨g, cap, cur, rfl, hb, hg, hn, hm, hs, ht⟩
  · have : vs = [] := List.eq_nil_of_length_eq_zero h0
    subst this
    exact vals_nil w
  · refine ⟨_, cap, rfl, hn, fun _ => ⟨_, rfl, (Array.getElem?_eq_some_iff.1 hg).1, fun j x hx => ?_⟩⟩
    rw [addr_add, Nat.zero_add]
    refine cell_row hg ?_
    have hj : j < vs.length := (List.getElem?_eq_some_iff.1 hx).1
    have h3 : (cur.toList.take (vs.length * 1))[j]? = vs[j]? := by rw [ht]
    rw [List.getElem?_take_of_lt (by omega), hx, Array.getElem?_toList] at h3
    exact h3
theorem appV_run {P : Program} {t ty e : TypeId} {z : Value} {bytes : Nat} (ht : P.underlying t = some (.slice e)) (hi : (P.info? e).map (fun i => (i.zero, i.size, i.bytes)) = some (some z, 1, bytes)) (hz : z.cells.size = 1) {base : Nat} {l m : List Value} {v u : Value} {w : World} (hown : VRow base e l v w) (hx : ValsV u w m) (h1 : ∀ x ∈ m, x.oneCell' = true) (hn : l.length + m.length ≤ 1099511627776) (hby : bytes ≤ 64) (hbase : base ≤ w.heap.size) :
    ∃ v' w', (Builtin.append_ #[t, t] ty #[v, u]).run P w = .ok v' w' ∧ VRow base e (l ++ m) v' w' ∧ w.grownBy w' (blkOf v) ∧ (blkOf v' = blkOf v ∨ blkOf v' = some w.heap.size) := by
  cases hq : P.info? e with
  | none => rw [hq] at hi; cases hi
  | some i0 =>
  rw [hq] at hi
  simp only [Option.map_some, Option.some.injEq, Prod.mk.injEq] at hi
  obtain ⟨hz0, hz1, hz2⟩ := hi
  obtain ⟨p, c, rfl, h2, h3⟩ := hx
  have hbl := vrow_blk hown
  have hmax : l.length + m.length ≤ maxLen := by unfold maxLen; omega
  have hbb : (l.length + m.length) * bytes ≤ 140737488355328 := Nat.le_trans (Nat.mul_le_mul hn hby) (by decide)
  cases p with
  | none =>
    have hm0 : m = [] := by
      cases m with
      | nil => rfl
      | cons x r => obtain ⟨A, h, _⟩ := h3 (by simp); cases h
    subst hm0
    refine ⟨v, w, ?_, by rw [List.append_nil]; exact hown, ⟨rfl, rfl, rfl, Nat.le_refl _, fun _ _ _ => rfl⟩, .inl rfl⟩
    rcases hown.2 with ⟨rfl, h0⟩ | ⟨g, cap, cur, rfl, _, _, hnc, _⟩
    · simp [Builtin.append_, run_underlying ht, sizeOf, typeInfo, hq, Builtin.lenOf, Builtin.firstCells, h0]
    · simp [Builtin.append_, run_underlying ht, sizeOf, typeInfo, hq, Builtin.lenOf, Builtin.firstCells, hnc, storeCells]
  | some A =>
    obtain ⟨v', w', h4, h5, h6, _, h8⟩ := run_append_own_at (P := P) w base t ty e i0 z 1 bytes ht hq hz0 hz1 hz2 hz (by decide) v l.length l hown A m.length c m (by simp) (by
      intro j y hj
      obtain ⟨A', e1, _, e3⟩ := h3 (by intro e; rw [e] at hj; simp at hj)
      cases e1
      exact e3 j y hj) h1 hmax hbb hbase
    have hrow : VRow base e (l ++ m) v' w' := by unfold VRow; rw [List.length_append]; exact h5
    rw [vrow_blk hrow, hbl] at h8
    exact ⟨v', w', h4, hrow, by rw [← hbl]; exact h6, h8⟩
/-- 'append' in a plain region. -/
theorem wl_appV {ops : Array Oper} {rest : List Oper} {o : Oper} {a : Act} {w : World} {Q : Exit → Act → World → Prop} (hw : Region.wanted o (yielded ops a.tmps) = true) (s x : Operand) (t e : TypeId) (z : Value) (bytes : Nat) (ho : o.op = .call { callee := .builtin .append, args := #[s, x], argTypes := #[t, t] }) (ht : Tryd.prog.underlying t = some (.slice e)) (hi : (Tryd.prog.info? e).map (fun i => (i.zero, i.size, i.bytes)) = some (some z, 1, bytes)) (hz : z.cells.size = 1) (hby : bytes ≤ 64) (base : Nat) (l m : List Value) (v u : Value) (hs : a.eval s = v) (hx : a.eval x = u) (hv : VRow base e l v w) (hu : ValsV u w m) (h1 : ∀ x ∈ m, x.oneCell' = true) (hn : l.length + m.length ≤ 1099511627776) (hbase : base ≤ w.heap.size)
    (hk : ∀ v' w', VRow base e (l ++ m) v' w' → w.grownBy w' (blkOf v) → (blkOf v' = blkOf v ∨ blkOf v' = some w.heap.size) → wpList Tryd.prog ops Q rest (a.put o.dst v') w') : wpList Tryd.prog ops Q (o :: rest) a w :=
  BigFrame.wpList_want hw fun K hK => by
    obtain ⟨v', w', h4, h5, h6, h7⟩ := appV_run (ty := o.type) ht hi hz hv hu h1 hn hby hbase
    unfold Oper.wp execOp
    simp only [ho, resolve, invoke, builtin, Sem.run_bind, Sem.run_pure, Result.andThen_ok, List.map_toArray, List.map_cons, List.map_nil, hs, hx, h4]
    exact hK _ _ (hk v' w' h5 h6 h7)
theorem vapp_below {w0 w w' : World} {v : Value} {B : Nat} {e : TypeId} {l : List Value} (h : Below B w0 w) (hB : B ≤ w.heap.size) (hr : VRow B e l v w) (hg : w.grownBy w' (blkOf v)) : Below B w0 w' := h.trans (grown_mono hg hB (fun b hb => (hr.range b hb).1))
/-- Strings as values. -/
def strs (ll : List (List Nat)) : List Value := ll.map fun l => .string (strOf l)
theorem strs_len (ll : List (List Nat)) : (strs ll).length = ll.length := by simp [strs]
theorem strs_one (ll : List (List Nat)) : ∀ x ∈ strs ll, x.oneCell' = true := fun x hx => by
  unfold strs at hx
  obtain ⟨l, _, rfl⟩ := List.mem_map.1 hx
  rfl
theorem strs_get {ll : List (List Nat)} {i : Nat} {l : List Nat} (h : ll[i]? = some l) : (strs ll)[i]? = some (.string (strOf l)) := by unfold strs; rw [List.getElem?_map, h]; rfl
theorem strs_append (ll mm : List (List Nat)) : strs (ll ++ mm) = strs ll ++ strs mm := by simp [strs]
end Go.Proofs.YtniogaimhkcedaaDoor.sh
/-
  Arguments that are strings, and slices of strings.
-/
namespace Go.Proofs.YtniogaimhkcedaaDoor.sh
open Go Go.ChangeShapes Go.WideShapes Go.ChangeAt Go.RowKit
set_option linter.unusedVariables false
set_option linter.unusedSimpArgs false

set_option maxRecDepth 100000 in
/-- A string among the arguments. -/
theorem open_str {H : Type} {enc : TypeId × Value → H} {W : World} {base : Nat} {sp : Nat → Bool} {held : Bool} {v : Value} {d : DataW H} {p : List MemPlace} {e : TypeId}
    (he : Tryd.prog.underlying e = some .string) (h1 : v.cells = #[v]) (h : DataW.Trod enc Tryd.prog W base sp held e v d p) : ∃ l : List Nat, v = .string (strOf l) ∧ Bytes l ∧ l.length ≤ maxLen := by
  obtain ⟨fuel, hf⟩ := h
  obtain ⟨s, e1, e2, hw⟩ := DataW.trod_string he hf
  rw [h1] at e1
  refine ⟨strL s, ?_, strL_bytes s, ?_⟩
  · rw [strOf_strL]
    simpa using e1
  · rw [show (strL s).length = s.size by rw [← strOf_size, strOf_strL]]
    exact hw
set_option maxRecDepth 100000 in
/-- A slice of strings among the arguments. -/
theorem open_strs {H : Type} {enc : TypeId × Value → H} {W : World} {r : Reach} {b0 base : Nat} {sp : Nat → Bool} {held : Bool} {v : Value} {d : DataW H} {p : List MemPlace} {t e : TypeId}
    (ht : Tryd.prog.underlying t = some (.slice e)) (he : Tryd.prog.underlying e = some .string) (hc : Tryd.prog.cellsOf e = 1)
    (hv : Value.okWide Tryd.prog W r b0 t v) (h : DataW.Trod enc Tryd.prog W base sp held t v d p) : ∃ ll : List (List Nat), ValsV v W (strs ll) ∧ (∀ l ∈ ll, Bytes l ∧ l.length ≤ maxLen) ∧ ll.length ≤ maxLen := by
  obtain ⟨a0, len, cap, rfl⟩ := okWide_slice ht hv
  obtain ⟨fuel, hf⟩ := h
  rcases open_strings ht he hc hf with ⟨hcs, hx⟩ | ⟨a, len', cap', ss, hcs, _, hl, hm, hz, hx, hcell, hsz⟩
  · simp [Value.cells] at hcs
    obtain ⟨rfl, rfl, rfl⟩ := hcs
    exact ⟨[], vals_nil W, fun l hl => by simp at hl, Nat.zero_le _⟩
  · simp [Value.cells] at hcs
    obtain ⟨rfl, rfl, rfl⟩ := hcs
    have hlm : len ≤ ss.length := by rw [hz]; split <;> omega
    have h1 : ((ss.take len).map strL).length = len := by simp; omega
    have cell : ∀ (j : Nat) (x : Value), (strs ((ss.take len).map strL))[j]? = some x → W.cell? (a.add j) = some x := fun j x hx => by
      unfold strs at hx
      rw [List.map_map, List.getElem?_map] at hx
      obtain ⟨s, hs, rfl⟩ := Option.map_eq_some_iff.1 hx
      have hj : j < len := by
        have := (List.getElem?_eq_some_iff.1 hs).1
        simp at this
        omega
      rw [List.getElem?_take_of_lt hj] at hs
      rw [hcell j (by omega), List.getD_eq_getElem?_getD, hs]
      exact congrArg (fun z => some (Value.string z)) (strOf_strL s).symm
    refine ⟨(ss.take len).map strL, ⟨some a, cap, by rw [strs_len, h1], by rw [strs_len, h1]; exact hl, fun hne => ⟨a, rfl, ?_, cell⟩⟩, fun l hl => ?_, by rw [h1]; omega⟩
    · have h0 : 0 < len := by
        rcases Nat.eq_zero_or_pos len with h | h
        · subst h; exact absurd rfl hne
        · exact h
      have := World.block_lt_of_cell? _ _ (hcell 0 (by omega))
      rwa [add_block] at this
    · obtain ⟨s, hs, rfl⟩ := List.mem_map.1 hl
      refine ⟨strL_bytes s, ?_⟩
      rw [show (strL s).length = s.size by rw [← strOf_size, strOf_strL]]
      exact hsz s (List.mem_of_mem_take hs)
end Go.Proofs.YtniogaimhkcedaaDoor.sh
/-
  Texts of texts in one form, as lists of bytes: joined, cut; numbers, the highest byte first.
-/
namespace Go.Proofs.YtniogaimhkcedaaDoor.sh
open Go Go.RowKit
set_option linter.unusedVariables false
set_option linter.unusedSimpArgs false

/-- A text, with how many bytes it has ahead of it. -/
def itemL (l : List Nat) : List Nat := l.length / 256 :: l.length % 256 :: l
def itemsL (ll : List (List Nat)) : List Nat := (ll.map itemL).flatten
def joinL (kind : Nat) (ll : List (List Nat)) : List Nat := 1 :: kind :: ll.length :: itemsL ll
def Fits (ll : List (List Nat)) : Prop := ll.length ≤ 255 ∧ (∀ l ∈ ll, l.length ≤ 4000) ∧ (itemsL ll).length ≤ 29997
theorem itemL_len (l : List Nat) : (itemL l).length = l.length + 2 := rfl
theorem itemsL_nil : itemsL [] = [] := rfl
theorem itemsL_cons (l : List Nat) (ll : List (List Nat)) : itemsL (l :: ll) = itemL l ++ itemsL ll := by simp [itemsL]
theorem itemsL_append (ll mm : List (List Nat)) : itemsL (ll ++ mm) = itemsL ll ++ itemsL mm := by simp [itemsL]
theorem itemsL_snoc (ll : List (List Nat)) (l : List Nat) : itemsL (ll ++ [l]) = itemsL ll ++ itemL l := by simp [itemsL]
theorem itemL_bytes {l : List Nat} (h : Bytes l) (hl : l.length < 65536) : Bytes (itemL l) := bytes_of_all (fun x hx => by
  rcases List.mem_cons.1 hx with rfl | hx
  · omega
  rcases List.mem_cons.1 hx with rfl | hx
  · omega
  · exact h.all x hx)
theorem itemsL_bytes : ∀ {ll : List (List Nat)}, (∀ l ∈ ll, Bytes l ∧ l.length < 65536) → Bytes (itemsL ll)
  | [], _ => nil_bytes
  | l :: ll, h => by
    rw [itemsL_cons]
    exact (itemL_bytes (h l List.mem_cons_self).1 (h l List.mem_cons_self).2).append (itemsL_bytes fun x hx => h x (List.mem_cons_of_mem _ hx))
theorem joinL_len (kind : Nat) (ll : List (List Nat)) : (joinL kind ll).length = (itemsL ll).length + 3 := rfl
theorem itemsL_len : ∀ ll : List (List Nat), (itemsL ll).length = (ll.map fun l => l.length + 2).sum
  | [] => rfl
  | l :: ll => by rw [itemsL_cons, List.length_append, itemL_len, itemsL_len ll]; rfl
theorem joinL_bytes {kind : Nat} {ll : List (List Nat)} (hk : kind < 256) (h : ∀ l ∈ ll, Bytes l) (hf : Fits ll) : Bytes (joinL kind ll) := bytes_of_all (fun x hx => by
  rcases List.mem_cons.1 hx with rfl | hx
  · decide
  rcases List.mem_cons.1 hx with rfl | hx
  · exact hk
  rcases List.mem_cons.1 hx with rfl | hx
  · have := hf.1; omega
  · exact (itemsL_bytes fun l hl => ⟨h l hl, by have := hf.2.1 l hl; omega⟩).all x hx)

/-- So many texts, and nothing behind them. -/
def cutL : Nat → List Nat → Option (List (List Nat))
  | 0, s => if s = [] then some [] else none
  | n + 1, a :: b :: r => if r.length < 256 * a + b then none else (cutL n (r.drop (256 * a + b))).map (r.take (256 * a + b) :: ·)
  | _ + 1, _ => none
theorem cutL_items : ∀ ll : List (List Nat), cutL ll.length (itemsL ll) = some ll
  | [] => rfl
  | l :: ll => by
    have hm : 256 * (l.length / 256) + l.length % 256 = l.length := Nat.div_add_mod _ _
    rw [itemsL_cons, List.length_cons]
    show cutL (ll.length + 1) (l.length / 256 :: l.length % 256 :: (l ++ itemsL ll)) = _
    rw [cutL, hm, if_neg (by rw [List.length_append]; omega), List.drop_left, List.take_left, cutL_items ll]
    rfl
theorem cutL_some : ∀ {n : Nat} {s : List Nat} {ll : List (List Nat)}, cutL n s = some ll → Bytes s → ll.length = n ∧ itemsL ll = s ∧ ∀ l ∈ ll, Bytes l
  | 0, s, ll, h, _ => by
    unfold cutL at h
    by_cases hs : s = []
    · rw [if_pos hs] at h
      cases h
      exact ⟨rfl, by rw [hs]; rfl, fun l hl => by cases hl⟩
    · rw [if_neg hs] at h; cases h
  | n + 1, [], ll, h, _ => by simp [cutL] at h
  | n + 1, [a], ll, h, _ => by simp [cutL] at h
  | n + 1, a :: b :: r, ll, h, hy => by
    rw [cutL] at h
    by_cases hm : r.length < 256 * a + b
    · rw [if_pos hm] at h; cases h
    · rw [if_neg hm] at h
      obtain ⟨mm, h1, h2⟩ := Option.map_eq_some_iff.1 h
      subst h2
      have hb : b < 256 := hy 1 b rfl
      have hr : Bytes r := fun i x hx => hy (i + 2) x hx
      obtain ⟨e1, e2, e3⟩ := cutL_some h1 (hr.drop _)
      have hl : (r.take (256 * a + b)).length = 256 * a + b := by rw [List.length_take]; omega
      refine ⟨by rw [List.length_cons, e1], ?_, fun l hl2 => ?_⟩
      · rw [itemsL_cons, e2, itemL, hl, show (256 * a + b) / 256 = a by omega, show (256 * a + b) % 256 = b by omega]
        simp
      · rcases List.mem_cons.1 hl2 with rfl | hl2
        · exact hr.take _
        · exact e3 l hl2
theorem items_one {ll mm : List (List Nat)} (hn : ll.length = mm.length) (h : itemsL ll = itemsL mm) : ll = mm := by
  have h1 := cutL_items ll
  have h2 := cutL_items mm
  rw [hn, h, h2] at h1
  exact (Option.some.inj h1).symm
theorem join_one {k j : Nat} {ll mm : List (List Nat)} (h : joinL k ll = joinL j mm) : k = j ∧ ll = mm := by
  unfold joinL at h
  simp only [List.cons.injEq, true_and] at h
  exact ⟨h.1, items_one h.2.1 h.2.2⟩

/-- What a text of texts says, if it is one. -/
def Says (s : List Nat) (k : Nat) (ll : List (List Nat)) : Prop := s = joinL k ll ∧ Fits ll
theorem Says.one {s : List Nat} {k j : Nat} {ll mm : List (List Nat)} (h : Says s k ll) (h2 : Says s j mm) : k = j ∧ ll = mm := join_one (h.1.symm.trans h2.1)
theorem says_len {s : List Nat} {k : Nat} {ll : List (List Nat)} (h : Says s k ll) : 3 ≤ s.length ∧ s.length ≤ 30000 := by
  have := h.2.2.2
  rw [h.1, joinL_len]
  omega

/-- A number's bytes, the highest first. -/
def numT (n : Nat) : Nat → List Nat
  | 0 => []
  | k + 1 => if n = 0 then [] else numT (n / 256) k ++ [n % 256]
def numL (n : Nat) : List Nat := numT n 8
def readT (s : List Nat) : Nat := s.foldl (fun a x => a * 256 + x) 0
theorem readT_snoc (s : List Nat) (x : Nat) : readT (s ++ [x]) = readT s * 256 + x := by simp [readT]
theorem numT_zero (k : Nat) : numT 0 k = [] := by cases k <;> simp [numT]
theorem readT_numT : ∀ (k n : Nat), n < 256 ^ k → readT (numT n k) = n
  | 0, n, h => by simp at h; subst h; rfl
  | k + 1, n, h => by
    unfold numT
    by_cases h0 : n = 0
    · rw [if_pos h0, h0]; rfl
    · rw [if_neg h0, readT_snoc, readT_numT k (n / 256) (by rw [Nat.pow_succ] at h; omega)]
      omega
theorem numT_len : ∀ (k n : Nat), (numT n k).length ≤ k
  | 0, _ => Nat.le_refl _
  | k + 1, n => by
    unfold numT
    split
    · exact Nat.zero_le _
    · rw [List.length_append]; have := numT_len k (n / 256); simp; omega
theorem numT_bytes : ∀ (k n : Nat), Bytes (numT n k)
  | 0, _ => nil_bytes
  | k + 1, n => by
    unfold numT
    split
    · exact nil_bytes
    · exact (numT_bytes k _).append (bytes_of_all (fun x hx => by simp at hx; omega))
theorem numT_more : ∀ (k m n : Nat), n < 256 ^ k → numT n (k + m) = numT n k
  | 0, m, n, h => by simp at h; subst h; rw [numT_zero, numT_zero]
  | k + 1, m, n, h => by
    rw [show k + 1 + m = (k + m) + 1 by omega]
    unfold numT
    by_cases h0 : n = 0
    · rw [if_pos h0, if_pos h0]
    · rw [if_neg h0, if_neg h0, numT_more k m (n / 256) (by rw [Nat.pow_succ] at h; omega)]
/-- Bytes without bytes 0 ahead are those of their number. -/
theorem numT_readN : ∀ (n : Nat) (s : List Nat), s.length = n → Bytes s → s.head? ≠ some 0 → numT (readT s) n = s
  | 0, s, hn, _, _ => by
    have : s = [] := List.eq_nil_of_length_eq_zero hn
    subst this
    rfl
  | n + 1, s', hn, hy, h0 => by
    have hne : s' ≠ [] := by intro e; rw [e] at hn; cases hn
    obtain ⟨s, x, rfl⟩ : ∃ s x, s' = s ++ [x] := ⟨_, _, (List.dropLast_concat_getLast hne).symm⟩
    have hsn : s.length = n := by rw [List.length_append] at hn; simpa using hn
    have hx : x < 256 := hy s.length x (by simp)
    have hs : Bytes s := fun i y hi => hy i y (by rw [List.getElem?_append_left (List.getElem?_eq_some_iff.1 hi).1]; exact hi)
    rw [readT_snoc]
    unfold numT
    cases s with
    | nil =>
      have hx0 : x ≠ 0 := fun e => h0 (by rw [e]; rfl)
      have e1 : readT ([] : List Nat) = 0 := rfl
      rw [e1, if_neg (by omega), show (0 * 256 + x) / 256 = 0 by omega, show (0 * 256 + x) % 256 = x by omega, numT_zero]
    | cons y r =>
      have ih' := numT_readN n (y :: r) hsn hs (fun e => h0 (by simpa using e))
      have hz : readT (y :: r) ≠ 0 := fun e => by
        rw [e, numT_zero] at ih'
        cases ih'
      rw [if_neg (by omega), show (readT (y :: r) * 256 + x) / 256 = readT (y :: r) by omega, show (readT (y :: r) * 256 + x) % 256 = x by omega, ih']
theorem readT_lt : ∀ (n : Nat) (s : List Nat), s.length = n → Bytes s → readT s < 256 ^ n
  | 0, s, hn, _ => by
    have : s = [] := List.eq_nil_of_length_eq_zero hn
    subst this
    decide
  | n + 1, s', hn, hy => by
    have hne : s' ≠ [] := by intro e; rw [e] at hn; cases hn
    obtain ⟨s, x, rfl⟩ : ∃ s x, s' = s ++ [x] := ⟨_, _, (List.dropLast_concat_getLast hne).symm⟩
    have hsn : s.length = n := by rw [List.length_append] at hn; simpa using hn
    have hx : x < 256 := hy s.length x (by simp)
    have hs : Bytes s := fun i y hi => hy i y (by rw [List.getElem?_append_left (List.getElem?_eq_some_iff.1 hi).1]; exact hi)
    have := readT_lt n s hsn hs
    rw [readT_snoc, Nat.pow_succ]
    omega
theorem numL_read (n : Nat) (h : n < 18446744073709551616) : readT (numL n) = n := readT_numT 8 n h
theorem numL_len (n : Nat) : (numL n).length ≤ 8 := numT_len 8 n
theorem numL_bytes (n : Nat) : Bytes (numL n) := numT_bytes 8 n
theorem numT_head : ∀ (k n : Nat), n < 256 ^ k → (numT n k).head? ≠ some 0
  | 0, _, _ => by simp [numT]
  | k + 1, n, h => by
    have hd : n / 256 < 256 ^ k := by rw [Nat.pow_succ] at h; omega
    unfold numT
    by_cases h0 : n = 0
    · rw [if_pos h0]; simp
    · rw [if_neg h0]
      have ih := numT_head k (n / 256) hd
      have hr := readT_numT k (n / 256) hd
      cases hq : numT (n / 256) k with
      | nil =>
        rw [hq] at hr
        have hr0 : 0 = n / 256 := hr
        rw [List.nil_append]
        intro e
        simp at e
        omega
      | cons y r => rw [hq] at ih; simpa using ih
theorem numL_head (n : Nat) (h : n < 18446744073709551616) : (numL n).head? ≠ some 0 := numT_head 8 n h
/-- Bytes are those of a number just if there are at most eight, and no byte 0 ahead. -/
theorem numL_of (s : List Nat) (hy : Bytes s) (hl : s.length ≤ 8) (h0 : s.head? ≠ some 0) : numL (readT s) = s := by
  have h1 := numT_readN s.length s rfl hy h0
  have h2 := numT_more s.length (8 - s.length) (readT s) (readT_lt s.length s rfl hy)
  rw [show s.length + (8 - s.length) = 8 by omega] at h2
  unfold numL
  rw [h2, h1]
theorem numT_len_of : ∀ (k n : Nat), n < 256 ^ k → (0 < n → 256 ^ (numT n k).length ≤ 256 * n) ∧ n < 256 ^ (numT n k).length
  | 0, n, h => by simp at h; subst h; simp [numT]
  | k + 1, n, h => by
    have hd : n / 256 < 256 ^ k := by rw [Nat.pow_succ] at h; omega
    obtain ⟨h1, h2⟩ := numT_len_of k (n / 256) hd
    unfold numT
    by_cases h0 : n = 0
    · rw [if_pos h0, h0]; simp
    · rw [if_neg h0, List.length_append]
      simp only [List.length_singleton, Nat.pow_succ]
      by_cases hq : n / 256 = 0
      · rw [hq, numT_zero] at h1 h2 ⊢
        simp at h2 ⊢
        omega
      · have h1' := h1 (by omega)
        generalize 256 ^ (numT (n / 256) k).length = P at *
        omega
theorem lessL_irrefl : ∀ l : List Nat, lessL l l = false
  | [] => rfl
  | x :: l => by simp [lessL, lessL_irrefl l]
theorem lessL_snoc : ∀ (l m : List Nat) (x y : Nat), l.length = m.length → lessL (l ++ [x]) (m ++ [y]) = (lessL l m || (decide (l = m) && decide (x < y)))
  | [], [], x, y, _ => by simp [lessL]
  | [], _ :: _, _, _, h => by cases h
  | _ :: _, [], _, _, h => by cases h
  | a :: l, b :: m, x, y, h => by
    have ih := lessL_snoc l m x y (by simpa using h)
    simp only [List.cons_append, lessL, ih]
    by_cases hab : a = b
    · subst hab; simp
    · simp [hab]
theorem lessL_total : ∀ (s t : List Nat), s.length = t.length → lessL s t = false → lessL t s = false → s = t
  | [], [], _, _, _ => rfl
  | [], _ :: _, h, _, _ => by cases h
  | _ :: _, [], h, _, _ => by cases h
  | a :: s, b :: t, h, h1, h2 => by
    simp only [lessL, Bool.or_eq_false_iff, decide_eq_false_iff_not, Bool.and_eq_false_iff] at h1 h2
    have hab : a = b := by omega
    subst hab
    have e1 : lessL s t = false := by rcases h1.2 with h | h; exact absurd rfl h; exact h
    have e2 : lessL t s = false := by rcases h2.2 with h | h; exact absurd rfl h; exact h
    rw [lessL_total s t (by simpa using h) e1 e2]
/-- Of bytes as many, those of the lesser number are the lesser ones. -/
theorem lessL_read : ∀ (n : Nat) (s t : List Nat), s.length = n → t.length = n → Bytes s → Bytes t → lessL s t = decide (readT s < readT t)
  | 0, s, t, hs, ht, _, _ => by
    have e1 : s = [] := List.eq_nil_of_length_eq_zero hs
    have e2 : t = [] := List.eq_nil_of_length_eq_zero ht
    subst e1 e2
    rfl
  | n + 1, s', t', hs, ht, hy, hz => by
    have hne : s' ≠ [] := by intro e; rw [e] at hs; cases hs
    have hne2 : t' ≠ [] := by intro e; rw [e] at ht; cases ht
    obtain ⟨s, x, rfl⟩ : ∃ s x, s' = s ++ [x] := ⟨_, _, (List.dropLast_concat_getLast hne).symm⟩
    obtain ⟨t, y, rfl⟩ : ∃ s x, t' = s ++ [x] := ⟨_, _, (List.dropLast_concat_getLast hne2).symm⟩
    have hsn : s.length = n := by rw [List.length_append] at hs; simpa using hs
    have htn : t.length = n := by rw [List.length_append] at ht; simpa using ht
    have hx : x < 256 := hy s.length x (by simp)
    have hy8 : y < 256 := hz t.length y (by simp)
    have bs : Bytes s := fun i y hi => hy i y (by rw [List.getElem?_append_left (List.getElem?_eq_some_iff.1 hi).1]; exact hi)
    have bt : Bytes t := fun i y hi => hz i y (by rw [List.getElem?_append_left (List.getElem?_eq_some_iff.1 hi).1]; exact hi)
    have ih := lessL_read n s t hsn htn bs bt
    rw [lessL_snoc s t x y (by omega), ih, readT_snoc, readT_snoc]
    by_cases hst : s = t
    · subst hst
      simp
    · have hne3 : readT s ≠ readT t := fun e => by
        have h1 := lessL_read n t s htn hsn bt bs
        rw [e, decide_eq_false (Nat.lt_irrefl _)] at ih
        rw [e, decide_eq_false (Nat.lt_irrefl _)] at h1
        exact hst (lessL_total s t (by omega) ih h1)
      rw [decide_eq_false hst, Bool.false_and, Bool.or_false]
      exact decide_eq_decide.2 (by omega)
/-- Numbers rise as their bytes do. -/
theorem numL_less (n m : Nat) (hn : n < 18446744073709551616) (hm : m < 18446744073709551616) : (decide ((numL n).length < (numL m).length) || (decide ((numL n).length = (numL m).length) && lessL (numL n) (numL m))) = decide (n < m) := by
  have h1 := numT_len_of 8 n hn
  have h2 := numT_len_of 8 m hm
  have r1 := numL_read n hn
  have r2 := numL_read m hm
  change (0 < n → 256 ^ (numL n).length ≤ 256 * n) ∧ n < 256 ^ (numL n).length at h1
  change (0 < m → 256 ^ (numL m).length ≤ 256 * m) ∧ m < 256 ^ (numL m).length at h2
  by_cases he : (numL n).length = (numL m).length
  · rw [lessL_read _ _ _ rfl he.symm (numL_bytes n) (numL_bytes m), r1, r2, decide_eq_true he, decide_eq_false (by omega), Bool.false_or, Bool.true_and]
  · rw [decide_eq_false he, Bool.false_and, Bool.or_false]
    refine decide_eq_decide.2 ⟨fun hlt => ?_, fun hlt => ?_⟩
    · by_cases hm0 : 0 < m
      · have h3 := h2.1 hm0
        have h4 : 256 ^ ((numL n).length + 1) ≤ 256 ^ (numL m).length := Nat.pow_le_pow_right (by decide) (by omega)
        rw [Nat.pow_succ] at h4
        omega
      · have : m = 0 := by omega
        subst this
        simp [numL, numT_zero] at hlt
    · by_cases hc : (numL n).length < (numL m).length
      · exact hc
      · have hn0 : 0 < n ∨ n = 0 := by omega
        rcases hn0 with hn0 | hn0
        · have h3 := h1.1 hn0
          have h4 : 256 ^ ((numL m).length + 1) ≤ 256 ^ (numL n).length := Nat.pow_le_pow_right (by decide) (by omega)
          rw [Nat.pow_succ] at h4
          omega
        · subst hn0
          have e0 : (numL 0).length = 0 := by rw [show numL 0 = [] from numT_zero 8]; rfl
          have e1 : (numL m).length = 0 := by omega
          omega
end Go.Proofs.YtniogaimhkcedaaDoor.sh
/-
  Texts of texts: cut one after another; a byte more or fewer is none; what is split is what is said.
-/
namespace Go.Proofs.YtniogaimhkcedaaDoor.sh
open Go Go.RowKit
set_option linter.unusedVariables false
set_option linter.unusedSimpArgs false

theorem item_prefix {l m r q : List Nat} (h : itemL l ++ r = itemL m ++ q) : l = m ∧ r = q := by
  simp only [itemL, List.cons_append, List.cons.injEq] at h
  obtain ⟨h1, h2, h3⟩ := h
  have hl : l.length = m.length := by omega
  exact List.append_inj h3 hl
theorem items_prefix : ∀ {ll mm : List (List Nat)} {r q : List Nat}, ll.length = mm.length → itemsL ll ++ r = itemsL mm ++ q → ll = mm ∧ r = q
  | [], [], r, q, _, h => ⟨rfl, by simpa [itemsL] using h⟩
  | [], m :: mm, r, q, hn, _ => by simp at hn
  | l :: ll, [], r, q, hn, _ => by simp at hn
  | l :: ll, m :: mm, r, q, hn, h => by
    rw [itemsL_cons, itemsL_cons, List.append_assoc, List.append_assoc] at h
    obtain ⟨h1, h2⟩ := item_prefix h
    obtain ⟨h3, h4⟩ := items_prefix (by simpa using hn) h2
    exact ⟨by rw [h1, h3], h4⟩
/-- Texts that were cut, and what lies behind them: the next one. -/
theorem cut_next {done ll : List (List Nat)} {rest q : List Nat} (h : itemsL ll ++ q = itemsL done ++ rest) (hn : done.length < ll.length) : ∃ l more, ll = done ++ l :: more ∧ rest = itemL l ++ (itemsL more ++ q) := by
  have h1 : itemsL (ll.take done.length) ++ (itemsL (ll.drop done.length) ++ q) = itemsL done ++ rest := by
    rw [← List.append_assoc, ← itemsL_append, List.take_append_drop]
    exact h
  obtain ⟨h2, h3⟩ := items_prefix (by rw [List.length_take]; omega) h1
  cases hd : ll.drop done.length with
  | nil =>
    have := congrArg List.length hd
    simp at this
    omega
  | cons l more =>
    refine ⟨l, more, ?_, ?_⟩
    · rw [← hd]
      conv => lhs; rw [← List.take_append_drop done.length ll, h2]
    · rw [← h3, hd, itemsL_cons, List.append_assoc]
theorem cut_stuck {done ll : List (List Nat)} {rest q : List Nat} (h : itemsL ll ++ q = itemsL done ++ rest) (hn : done.length < ll.length) : ∃ l : List Nat, rest[0]? = some (l.length / 256) ∧ rest[1]? = some (l.length % 256) ∧ l.length + 2 ≤ rest.length ∧ (rest.drop 2).take l.length = l := by
  obtain ⟨l, more, _, h2⟩ := cut_next h hn
  subst h2
  refine ⟨l, rfl, rfl, ?_, ?_⟩
  · rw [List.length_append, itemL_len]; omega
  · simp [itemL]
/-- The next text, as it is cut. -/
theorem cut_step {done : List (List Nat)} {rest : List Nat} {a b n : Nat} (h0 : rest[0]? = some a) (h1 : rest[1]? = some b) (hb : b < 256) (hn : n = 256 * a + b) (hl : n + 2 ≤ rest.length) : itemsL done ++ rest = itemsL (done ++ [(rest.drop 2).take n]) ++ rest.drop (n + 2) := by
  cases rest with
  | nil => cases h0
  | cons x r1 =>
  cases r1 with
  | nil => simp at hl
  | cons y r =>
  simp only [List.getElem?_cons_zero, List.getElem?_cons_succ, Option.some.injEq] at h0 h1
  subst h0 h1
  simp only [List.length_cons] at hl
  have hl2 : (r.take n).length = n := by rw [List.length_take]; omega
  simp only [List.drop_succ_cons, List.drop_zero]
  rw [itemsL_snoc, List.append_assoc]
  unfold itemL
  rw [hl2, hn, show (256 * x + y) / 256 = x by omega, show (256 * x + y) % 256 = y by omega, ← hn]
  simp
theorem says_more {s : List Nat} {k j c : Nat} {ll mm : List (List Nat)} (h : Says s k ll) (h2 : Says (s ++ [c]) j mm) : False := by
  have h3 := h2.1
  rw [h.1] at h3
  unfold joinL at h3
  simp only [List.cons_append, List.cons.injEq, true_and] at h3
  have h4 := (items_prefix (ll := ll) (mm := mm) (r := [c]) (q := []) h3.2.1 (by rw [List.append_nil]; exact h3.2.2)).2
  cases h4
theorem says_fewer {s : List Nat} {k j n : Nat} {ll mm : List (List Nat)} (h : Says s k ll) (hn : n + 1 = s.length) (h2 : Says (s.take n) j mm) : False := by
  have hx : s = s.take n ++ [s[n]'(by omega)] := by
    exact (List.take_of_length_le (by omega)).symm.trans (List.take_succ_eq_append_getElem (i := n) (by omega))
  rw [hx] at h
  exact says_more h2 h
instance decFits (ll : List (List Nat)) : Decidable (Fits ll) := inferInstanceAs (Decidable (_ ∧ _ ∧ _))
/-- What a text of texts says. -/
def splitL (s : List Nat) : Option (Nat × List (List Nat)) :=
  if s[0]? = some 1 then
    match s[1]?, s[2]? with
    | some k, some n => match cutL n (s.drop 3) with
      | some ll => if Fits ll then some (k, ll) else none
      | none => none
    | _, _ => none
  else none
theorem splitL_join {k : Nat} {ll : List (List Nat)} (hf : Fits ll) : splitL (joinL k ll) = some (k, ll) := by
  unfold splitL joinL
  simp [cutL_items, hf]
theorem splitL_says {s : List Nat} (hy : Bytes s) {k : Nat} {ll : List (List Nat)} : splitL s = some (k, ll) ↔ Says s k ll := by
  constructor
  · intro h
    unfold splitL at h
    by_cases h0 : s[0]? = some 1
    · rw [if_pos h0] at h
      cases s with
      | nil => cases h0
      | cons a r =>
      cases r with
      | nil => simp at h
      | cons b r =>
      cases r with
      | nil => simp at h
      | cons n r =>
      simp only [List.getElem?_cons_zero, List.getElem?_cons_succ, List.drop_succ_cons, List.drop_zero, Option.some.injEq] at h h0
      cases hc : cutL n r with
      | none => rw [hc] at h; cases h
      | some mm =>
        rw [hc] at h
        simp only at h
        by_cases hf : Fits mm
        · rw [if_pos hf] at h
          cases h
          obtain ⟨e1, e2, _⟩ := cutL_some hc (fun i x hx => hy (i + 3) x hx)
          refine ⟨?_, hf⟩
          unfold joinL
          rw [h0, e1, e2]
        · rw [if_neg hf] at h; cases h
    · rw [if_neg h0] at h; cases h
  · intro h
    rw [h.1]
    exact splitL_join h.2
theorem says_bytes {s : List Nat} (hy : Bytes s) {k : Nat} {ll : List (List Nat)} (h : Says s k ll) : k < 256 ∧ ∀ l ∈ ll, Bytes l := by
  refine ⟨hy 1 k (by rw [h.1]; rfl), ?_⟩
  have h1 : Bytes (itemsL ll) := by
    intro i x hx
    refine hy (i + 3) x ?_
    rw [h.1]
    exact hx
  exact (cutL_some (cutL_items ll) h1).2.2
end Go.Proofs.YtniogaimhkcedaaDoor.sh
/-
  The library's builder, its Clone and its HasPrefix in this program: the shelf's contracts, over one table of numbers.
-/
namespace Go.Proofs.YtniogaimhkcedaaDoor.sh
open Go Go.RowKit Go.Shelf
set_option linter.unusedVariables false
set_option linter.unusedSimpArgs false

def ren : Ren := { f := fun n => if n = 165 then 45 else if n = 166 then 47 else if n = 167 then 46 else if n = 169 then 48 else if n = 240 then 60 else if n = 241 then 61 else if n = 276 then 69 else if n = 277 then 70 else if n = 316 then 57 else if n = 99 then 67 else if n = 206 then 81 else if n = 103 then 62 else if n = 210 then 71 else if n = 231 then 72 else if n = 105 then 56 else if n = 170 then 68 else if n = 212 then 66 else if n = 263 then 79 else if n = 264 then 80 else n, t := fun n => if n = 70 then 86 else if n = 3 then 3 else if n = 0 then 0 else if n = 4 then 4 else if n = 9 then 9 else if n = 20 then 20 else if n = 72 then 88 else if n = 37 then 23 else if n = 164 then 120 else if n = 5 then 5 else if n = 75 then 91 else if n = 80 then 96 else if n = 127 then 112 else if n = 24 then 51 else if n = 46 then 93 else if n = 51 then 132 else if n = 53 then 44 else if n = 76 then 94 else if n = 109 then 116 else if n = 146 then 133 else if n = 148 then 135 else n, g := fun n => n }
theorem lay240 : Lays.n240 Tryd.prog ren := { mixed := by kernel_rfl, f240 := Tryd.func60.trans (congrArg some (by kernel_rfl)), f276 := Tryd.func69.trans (congrArg some (by kernel_rfl)), t0 := Tryd.underlying0, a0 := Tryd.isAgg0, z0 := Tryd.sizeOf0, v0 := Tryd.zeroValue0, t4 := Tryd.underlying4, a4 := Tryd.isAgg4, z4 := Tryd.sizeOf4, v4 := Tryd.zeroValue4, t9 := Tryd.underlying9, a9 := Tryd.isAgg9, z9 := Tryd.sizeOf9, v9 := Tryd.zeroValue9, t20 := Tryd.underlying20, a20 := Tryd.isAgg20, z20 := Tryd.sizeOf20, v20 := Tryd.zeroValue20, t70 := Tryd.underlying86, a70 := Tryd.isAgg86, z70 := Tryd.sizeOf86, v70 := Tryd.zeroValue86, t72 := Tryd.underlying88, a72 := Tryd.isAgg88, z72 := Tryd.sizeOf88, v72 := Tryd.zeroValue88, t164 := Tryd.underlying120, a164 := Tryd.isAgg120, z164 := Tryd.sizeOf120, v164 := Tryd.zeroValue120 }
theorem lay165 : Lays.n165 Tryd.prog ren := { mixed := by kernel_rfl, f165 := Tryd.func45.trans (congrArg some (by kernel_rfl)), f240 := Tryd.func60.trans (congrArg some (by kernel_rfl)), f241 := Tryd.func61.trans (congrArg some (by kernel_rfl)), f276 := Tryd.func69.trans (congrArg some (by kernel_rfl)), f277 := Tryd.func70.trans (congrArg some (by kernel_rfl)), t0 := Tryd.underlying0, a0 := Tryd.isAgg0, z0 := Tryd.sizeOf0, v0 := Tryd.zeroValue0, t3 := Tryd.underlying3, a3 := Tryd.isAgg3, z3 := Tryd.sizeOf3, v3 := Tryd.zeroValue3, t4 := Tryd.underlying4, a4 := Tryd.isAgg4, z4 := Tryd.sizeOf4, v4 := Tryd.zeroValue4, t9 := Tryd.underlying9, a9 := Tryd.isAgg9, z9 := Tryd.sizeOf9, v9 := Tryd.zeroValue9, t20 := Tryd.underlying20, a20 := Tryd.isAgg20, z20 := Tryd.sizeOf20, v20 := Tryd.zeroValue20, t37 := Tryd.underlying23, a37 := Tryd.isAgg23, z37 := Tryd.sizeOf23, v37 := Tryd.zeroValue23, t70 := Tryd.underlying86, a70 := Tryd.isAgg86, z70 := Tryd.sizeOf86, v70 := Tryd.zeroValue86, t72 := Tryd.underlying88, a72 := Tryd.isAgg88, z72 := Tryd.sizeOf88, v72 := Tryd.zeroValue88, t164 := Tryd.underlying120, a164 := Tryd.isAgg120, z164 := Tryd.sizeOf120, v164 := Tryd.zeroValue120 }
theorem lay166 : Lays.n166 Tryd.prog ren := { mixed := by kernel_rfl, f166 := Tryd.func47.trans (congrArg some (by kernel_rfl)), f240 := Tryd.func60.trans (congrArg some (by kernel_rfl)), f276 := Tryd.func69.trans (congrArg some (by kernel_rfl)), t0 := Tryd.underlying0, a0 := Tryd.isAgg0, z0 := Tryd.sizeOf0, v0 := Tryd.zeroValue0, t3 := Tryd.underlying3, a3 := Tryd.isAgg3, z3 := Tryd.sizeOf3, v3 := Tryd.zeroValue3, t4 := Tryd.underlying4, a4 := Tryd.isAgg4, z4 := Tryd.sizeOf4, v4 := Tryd.zeroValue4, t9 := Tryd.underlying9, a9 := Tryd.isAgg9, z9 := Tryd.sizeOf9, v9 := Tryd.zeroValue9, t20 := Tryd.underlying20, a20 := Tryd.isAgg20, z20 := Tryd.sizeOf20, v20 := Tryd.zeroValue20, t37 := Tryd.underlying23, a37 := Tryd.isAgg23, z37 := Tryd.sizeOf23, v37 := Tryd.zeroValue23, t70 := Tryd.underlying86, a70 := Tryd.isAgg86, z70 := Tryd.sizeOf86, v70 := Tryd.zeroValue86, t72 := Tryd.underlying88, a72 := Tryd.isAgg88, z72 := Tryd.sizeOf88, v72 := Tryd.zeroValue88, t75 := Tryd.underlying91, a75 := Tryd.isAgg91, z75 := Tryd.sizeOf91, v75 := Tryd.zeroValue91, t164 := Tryd.underlying120, a164 := Tryd.isAgg120, z164 := Tryd.sizeOf120, v164 := Tryd.zeroValue120 }
theorem lay167 : Lays.n167 Tryd.prog ren := { mixed := by kernel_rfl, f167 := Tryd.func46.trans (congrArg some (by kernel_rfl)), f240 := Tryd.func60.trans (congrArg some (by kernel_rfl)), f276 := Tryd.func69.trans (congrArg some (by kernel_rfl)), t0 := Tryd.underlying0, a0 := Tryd.isAgg0, z0 := Tryd.sizeOf0, v0 := Tryd.zeroValue0, t4 := Tryd.underlying4, a4 := Tryd.isAgg4, z4 := Tryd.sizeOf4, v4 := Tryd.zeroValue4, t5 := Tryd.underlying5, a5 := Tryd.isAgg5, z5 := Tryd.sizeOf5, v5 := Tryd.zeroValue5, t9 := Tryd.underlying9, a9 := Tryd.isAgg9, z9 := Tryd.sizeOf9, v9 := Tryd.zeroValue9, t20 := Tryd.underlying20, a20 := Tryd.isAgg20, z20 := Tryd.sizeOf20, v20 := Tryd.zeroValue20, t37 := Tryd.underlying23, a37 := Tryd.isAgg23, z37 := Tryd.sizeOf23, v37 := Tryd.zeroValue23, t70 := Tryd.underlying86, a70 := Tryd.isAgg86, z70 := Tryd.sizeOf86, v70 := Tryd.zeroValue86, t72 := Tryd.underlying88, a72 := Tryd.isAgg88, z72 := Tryd.sizeOf88, v72 := Tryd.zeroValue88, t75 := Tryd.underlying91, a75 := Tryd.isAgg91, z75 := Tryd.sizeOf91, v75 := Tryd.zeroValue91, t164 := Tryd.underlying120, a164 := Tryd.isAgg120, z164 := Tryd.sizeOf120, v164 := Tryd.zeroValue120 }
theorem lay169 : Lays.n169 Tryd.prog ren := { mixed := by kernel_rfl, f169 := Tryd.func48.trans (congrArg some (by kernel_rfl)), t0 := Tryd.underlying0, a0 := Tryd.isAgg0, z0 := Tryd.sizeOf0, v0 := Tryd.zeroValue0, t3 := Tryd.underlying3, a3 := Tryd.isAgg3, z3 := Tryd.sizeOf3, v3 := Tryd.zeroValue3, t9 := Tryd.underlying9, a9 := Tryd.isAgg9, z9 := Tryd.sizeOf9, v9 := Tryd.zeroValue9, t37 := Tryd.underlying23, a37 := Tryd.isAgg23, z37 := Tryd.sizeOf23, v37 := Tryd.zeroValue23, t70 := Tryd.underlying86, a70 := Tryd.isAgg86, z70 := Tryd.sizeOf86, v70 := Tryd.zeroValue86, t72 := Tryd.underlying88, a72 := Tryd.isAgg88, z72 := Tryd.sizeOf88, v72 := Tryd.zeroValue88, t127 := Tryd.underlying112, a127 := Tryd.isAgg112, z127 := Tryd.sizeOf112, v127 := Tryd.zeroValue112 }
theorem lay316 : LaysM.n316 Tryd.prog ren := { mixed := by kernel_rfl, f316 := Tryd.func57.trans (congrArg some (by kernel_rfl)), t0 := Tryd.underlying0, a0 := Tryd.isAgg0, z0 := Tryd.sizeOf0, v0 := Tryd.zeroValue0, t3 := Tryd.underlying3, a3 := Tryd.isAgg3, z3 := Tryd.sizeOf3, v3 := Tryd.zeroValue3, t4 := Tryd.underlying4, a4 := Tryd.isAgg4, z4 := Tryd.sizeOf4, v4 := Tryd.zeroValue4, t9 := Tryd.underlying9, a9 := Tryd.isAgg9, z9 := Tryd.sizeOf9, v9 := Tryd.zeroValue9, t37 := Tryd.underlying23, a37 := Tryd.isAgg23, z37 := Tryd.sizeOf23, v37 := Tryd.zeroValue23, t127 := Tryd.underlying112, a127 := Tryd.isAgg112, z127 := Tryd.sizeOf112, v127 := Tryd.zeroValue112, t5 := Tryd.underlying5, a5 := Tryd.isAgg5, z5 := Tryd.sizeOf5, v5 := Tryd.zeroValue5, i0 := by kernel_rfl, i3 := by kernel_rfl, i4 := by kernel_rfl, i5 := by kernel_rfl, i9 := by kernel_rfl, i37 := by kernel_rfl, i127 := by kernel_rfl }
theorem lay99 : Lays.n99 Tryd.prog ren := { mixed := by kernel_rfl, f99 := Tryd.func67.trans (congrArg some (by kernel_rfl)), f206 := Tryd.func81.trans (congrArg some (by kernel_rfl)), t3 := Tryd.underlying3, a3 := Tryd.isAgg3, z3 := Tryd.sizeOf3, v3 := Tryd.zeroValue3, t4 := Tryd.underlying4, a4 := Tryd.isAgg4, z4 := Tryd.sizeOf4, v4 := Tryd.zeroValue4, t9 := Tryd.underlying9, a9 := Tryd.isAgg9, z9 := Tryd.sizeOf9, v9 := Tryd.zeroValue9 }
theorem layX : Builder.Extra Tryd.prog ren := { sizeBuilder := by kernel_rfl, liesBuilder := by kernel_rfl, t5 := Tryd.underlying5, a5 := Tryd.isAgg5, z5 := Tryd.sizeOf5, v5 := Tryd.zeroValue5, infoByte := by kernel_rfl, cellsByte := by kernel_rfl, sizeByte := by kernel_rfl, neB5 := by decide }

/-- Bytes as cells. -/
def cellsL (l : List Nat) : List Value := l.map fun n : Nat => Value.int .u8 (n : Int)
theorem cellsL_len (l : List Nat) : (cellsL l).length = l.length := by simp [cellsL]
theorem cellsL_append (l m : List Nat) : cellsL (l ++ m) = cellsL l ++ cellsL m := by simp [cellsL]
theorem cellsL_bytes {l : List Nat} (h : Bytes l) : Lib.byteCells (l.map fun n => UInt8.ofNat n) = cellsL l := by
  unfold Lib.byteCells cellsL
  rw [List.map_map]
  refine List.map_congr_left fun x hx => ?_
  have := h.all x hx
  simp
  omega
theorem cellsL_str {l : List Nat} (h : Bytes l) : Lib.strCells (strOf l) = cellsL l := by
  rw [Lib.strCells_eq, sa_data]
  exact cellsL_bytes h
theorem strOf_mk (l : List Nat) : (⟨(l.map fun n => UInt8.ofNat n).toArray⟩ : ByteArray) = strOf l := str_ext (by rw [sa_data])

/-- A builder of the call's own that holds these bytes. -/
def Bld (B b : Nat) (l : List Nat) (w : World) : Prop := Lib.IsBuilder 88 5 B b (cellsL l) w
theorem bld_new (w : World) (B : Nat) (h : B ≤ w.heap.size) : Bld B w.heap.size [] (w.alloc (.cells #[.pointer none, .slice none 0 0] 88)) :=
  .inl ⟨h, .slice none 0 0, heap_alloc_new w _, World.ownsRow_nil _ _ _ _, by simp [Value.ownBlock]⟩
theorem bGrow {B n : Nat} (w : World) (hB : B ≤ w.heap.size) (hn : n ≤ 281474976710656) :
    Calls Tryd.prog 45 #[.pointer (some ⟨w.heap.size, 0, none⟩), .int .i64 (n : Int)] (w.alloc (.cells #[.pointer none, .slice none 0 0] 88)) fun e w' => e = .returned (.tuple #[]) ∧ Bld B w.heap.size [] w' ∧ Below B w w' := by
  refine (Any.Builder_Grow_fresh lay165 layX B w.heap.size n _ hB (heap_alloc_new w _) (by simp; omega) hn).mono ?_
  rintro e w' ⟨rfl, h1, h2⟩
  exact ⟨rfl, .inr h1, ((Below.refl B w).alloc hB _).trans h2⟩
theorem bByte {B b c : Nat} {l : List Nat} {w : World} (h : Bld B b l w) (hl : l.length + 1 ≤ 140737488355328) (hB : B ≤ w.heap.size) :
    Calls Tryd.prog 46 #[.pointer (some ⟨b, 0, none⟩), .int .u8 (c : Int)] w fun e w' => e = .returned .nilIface ∧ Bld B b (l ++ [c]) w' ∧ Below B w w' := by
  refine (Any.Builder_WriteByte lay167 layX B b (cellsL l) (c : Int) w h (by rw [cellsL_len]; exact hl) hB).mono ?_
  rintro e w' ⟨rfl, h1, h2⟩
  exact ⟨rfl, by unfold Bld; rw [cellsL_append]; exact .inr h1, h2⟩
theorem bStr {B b : Nat} {l m : List Nat} {w : World} (h : Bld B b l w) (hm : Bytes m) (hl : l.length + m.length ≤ 140737488355328) (hB : B ≤ w.heap.size) :
    Calls Tryd.prog 47 #[.pointer (some ⟨b, 0, none⟩), .string (strOf m)] w fun e w' => (∃ n, e = .returned (.tuple #[n, .nilIface])) ∧ Bld B b (l ++ m) w' ∧ Below B w w' := by
  refine (Any.Builder_WriteString lay166 layX B b (cellsL l) (strOf m) w h (by rw [cellsL_len, strOf_size]; exact hl) hB).mono ?_
  rintro e w' ⟨rfl, h1, h2⟩
  exact ⟨⟨_, rfl⟩, by unfold Bld; rw [cellsL_append, ← cellsL_str hm]; exact .inr h1, h2⟩
theorem bString {B b : Nat} {l : List Nat} {w : World} (h : Bld B b l w) (hl : Bytes l) (hB : B ≤ w.heap.size) :
    Calls Tryd.prog 48 #[.pointer (some ⟨b, 0, none⟩)] w fun e w' => e = .returned (.string (strOf l)) ∧ Below B w w' := by
  refine (Any.Builder_String_any lay169 layX B b (l.map fun n => UInt8.ofNat n) w (by rw [cellsL_bytes hl]; exact h) hB).mono ?_
  rintro e w' ⟨rfl, h1⟩
  exact ⟨by rw [strOf_mk], h1⟩
theorem sClone (l : List Nat) (w : World) (hl : l.length ≤ 281474976710656) :
    Calls Tryd.prog 57 #[.string (strOf l)] w fun e w' => e = .returned (.string (strOf l)) ∧ Below w.heap.size w w' :=
  Any.stringslite_Clone lay316 (strOf l) w (by rw [strOf_size]; exact hl)
theorem sHas (l m : List Nat) (w : World) :
    Calls Tryd.prog 67 #[.string (strOf l), .string (strOf m)] w fun e w' => e = .returned (.bool ((m.map fun n => UInt8.ofNat n).isPrefixOf (l.map fun n => UInt8.ofNat n))) ∧ w' = w := by
  have h := Any.strings_HasPrefix lay99 (strOf l) (strOf m) w
  rw [sa_data, sa_data] at h
  exact h
end Go.Proofs.YtniogaimhkcedaaDoor.sh
/-
  How many bytes texts have as one: codec.sizeOf; the statements' few.
-/
namespace Go.Proofs.YtniogaimhkcedaaDoor.sh
open Go Go.RowKit
set_option linter.unusedVariables false
set_option linter.unusedSimpArgs false

theorem run_nadd {o : Oper} {a : Act} {x y : Operand} {i j z : Nat} (ho : o.op = .binOp .add 3 x y 3) (hx : a.eval x = .int .i64 (i : Int)) (hy : a.eval y = .int .i64 (j : Int)) (hz : z = i + j) (hi : z < 4611686018427387904) (w : World) : (execOp a.eval o).run Tryd.prog w = .ok (.value (.int .i64 (z : Int))) w := by
  have e : ((i : Int) + (j : Int)) = (z : Int) := by omega
  unfold execOp
  simp only [ho, hx, hy]
  simp [go_sem, IntKind.wrap_i64, e]
  omega
theorem ag_str : ∀ w, (isAgg 9).run Tryd.prog w = .ok false w := Tryd.isAgg9
theorem strs_put {ll : List (List Nat)} {i : Nat} (h : i < ll.length) : ∃ l, ll[i]? = some l ∧ (strs ll)[i]? = some (.string (strOf l)) ∧ l ∈ ll := by
  obtain ⟨l, hl⟩ : ∃ l, ll[i]? = some l := ⟨_, List.getElem?_eq_getElem h⟩
  exact ⟨l, hl, strs_get hl, List.mem_of_getElem? hl⟩
theorem items_take {ll : List (List Nat)} {i : Nat} {l : List Nat} (h : ll[i]? = some l) : itemsL (ll.take (i + 1)) = itemsL (ll.take i) ++ itemL l := by
  rw [List.take_add_one, h, Option.toList_some, itemsL_snoc]
theorem items_small : ∀ (ll : List (List Nat)) (b : Nat), (∀ l ∈ ll, l.length ≤ b) → (itemsL ll).length ≤ ll.length * (b + 2)
  | [], b, _ => by simp [itemsL]
  | l :: ll, b, h => by
    rw [itemsL_cons, List.length_append, itemL_len]
    have h1 := items_small ll b fun x hx => h x (List.mem_cons_of_mem _ hx)
    have h2 := h l List.mem_cons_self
    rw [List.length_cons, Nat.add_mul]
    omega
theorem small_take {ll : List (List Nat)} {i : Nat} {l : List Nat} (h : ll[i]? = some l) (hs : ∀ x ∈ ll.take i, x.length ≤ 4000) (hl : l.length ≤ 4000) : ∀ x ∈ ll.take (i + 1), x.length ≤ 4000 := by
  intro x hx
  rw [List.take_add_one, h, Option.toList_some] at hx
  rcases List.mem_append.1 hx with hx | hx
  · exact hs x hx
  · rw [List.mem_singleton] at hx; subst hx; exact hl
theorem items_takeB {ll : List (List Nat)} {i : Nat} (hi : i ≤ 255) (hs : ∀ x ∈ ll.take i, x.length ≤ 4000) : (itemsL (ll.take i)).length ≤ 1020510 := by
  have h1 := items_small (ll.take i) 4000 hs
  have h2 : (ll.take i).length ≤ 255 := by rw [List.length_take]; omega
  have h3 := Nat.mul_le_mul_right 4002 h2
  omega

set_option maxRecDepth 100000 in
set_option maxHeartbeats 1000000 in
theorem sizeOfD {ll : List (List Nat)} {v : Value} {w : World} (hv : ValsV v w (strs ll)) (hl : ∀ l ∈ ll, l.length ≤ maxLen) :
    Calls Tryd.prog 44 #[v] w fun e w' => (∃ n : Nat, e = .returned (.tuple #[.int .i64 (n : Int), .bool (decide (Fits ll))]) ∧ (Fits ll → n = (itemsL ll).length + 3)) ∧ w' = w := by
  obtain ⟨p, c, rfl, hc⟩ := vals_form hv (strs_len ll)
  obtain ⟨n, hn⟩ : ∃ n, n = ll.length := ⟨_, rfl⟩
  rw [← hn] at hv hc ⊢
  have HN : Kept _ := ⟨hn⟩
  have HV : Kept _ := ⟨hv⟩
  have HL : Kept _ := ⟨hl⟩
  obtain ⟨F, hF⟩ : ∃ F, F = decide (Fits ll) := ⟨_, rfl⟩
  rw [← hF]
  have HF : Kept _ := ⟨hF⟩
  clear hn hv hl hF
  by_cases h255 : 255 < n
  · have h' : (255 : Int) < (n : Int) := by omega
    have hF : ¬ Fits ll := fun h => by have := h.1; have := HN.out; omega
    have HF1 : Kept (F = false) := ⟨by rw [HF.out]; exact decide_eq_false hF⟩
    have HF2 : Kept _ := ⟨hF⟩
    clear hF
    go_enter Tryd.func44, Tryd.ntmps44
    go_wp2_with fail
    go_ret2
    exact ⟨⟨0, congrArg (fun b => Ending.returned (.tuple #[.int .i64 0, .bool b])) HF1.out.symm, fun h => absurd h HF2.out⟩, rfl⟩
  · have h' : ¬ (255 : Int) < (n : Int) := by omega
    go_enter Tryd.func44, Tryd.ntmps44
    go_wp2_with fail
    go_loopg [4, 12] n (fun k s4 s12 wr => ∃ i m : Nat, i + k = n ∧ s12 = .int .i64 (i : Int) ∧ s4 = .int .i64 (m : Int) ∧ Kept (m = (itemsL (ll.take i)).length + 3 ∧ ∀ x ∈ ll.take i, x.length ≤ 4000) ∧ wr = w)
    case atStart => exact ⟨0, 3, by omega, rfl, rfl, ⟨by simp [itemsL], fun x hx => by simp at hx⟩, rfl⟩
    case round =>
      obtain ⟨i, m, hik, rfl, rfl, KM, hwr⟩ := hrel
      obtain rfl := hwr.symm
      by_cases hk0 : gk = 0
      · obtain rfl : n = i := by omega
        have hM : m = (itemsL ll).length + 3 ∧ ∀ x ∈ ll, x.length ≤ 4000 := by
          have := KM.out
          rwa [List.take_of_length_le (by rw [← HN.out]; exact Nat.le_refl _)] at this
        have KB : Kept (F = decide (m ≤ 30000)) := ⟨by
          rw [HF.out]
          refine decide_eq_decide.2 ⟨fun h => ?_, fun h => ⟨?_, hM.2, ?_⟩⟩
          · have := h.2.2; have := hM.1; omega
          · have := HN.out; omega
          · have := hM.1; omega⟩
        have KM2 : Kept _ := ⟨hM.1⟩
        clear hM KM
        go_wp2_with (first | ((with_reducible refine wv_val (d := 27) ?hd ?hw (.bool F) ?hr ?_); (case hd => rfl); (case hw => kernel_rfl); (case hr => intro w; exact run_leqI (n := 30000) rfl (by kernel_rfl) (by kernel_rfl) KB.out w); simp only [Act.put, List.setIfInBounds_toArray, List.set_cons_succ, List.set_cons_zero]))
        go_ret2
        exact ⟨⟨m, rfl, fun _ => KM2.out⟩, rfl⟩
      · have hin : i < n := by omega
        have hin' : (i : Int) < (n : Int) := by omega
        obtain ⟨l, h1, h2, h3⟩ := strs_put (show i < ll.length by rw [← HN.out]; exact hin)
        obtain ⟨A, rfl, hA, hcell⟩ := vals_at HV.out h2
        have KC : Kept _ := ⟨hcell⟩
        obtain ⟨z, hz⟩ : ∃ z, z = l.length := ⟨_, rfl⟩
        have KZ : Kept _ := ⟨hz⟩
        have KL : Kept _ := ⟨h1⟩
        have hm := items_takeB (ll := ll) (i := i) (by omega) KM.out.2
        have hmL := HL.out l h3
        rw [← hz] at hmL
        unfold maxLen at hmL
        clear h1 h2 h3 hcell hz
        by_cases h4 : 4000 < z
        · have h4' : (4000 : Int) < (z : Int) := by omega
          have hF : ¬ Fits ll := fun h => by have := h.2.1 l (List.mem_of_getElem? KL.out); have := KZ.out; omega
          have HF1 : Kept (F = false) := ⟨by rw [HF.out]; exact decide_eq_false hF⟩
          have HF2 : Kept _ := ⟨hF⟩
          clear hF
          go_wp2_with (first | ((with_reducible refine wv_val (d := 14) ?hd ?hw (.pointer (some (A.add i))) ?hr ?_); (case hd => rfl); (case hw => kernel_rfl); (case hr => intro w; exact run_idxS rfl (by kernel_rfl) (by kernel_rfl) Tryd.underlying29 hin Tryd.sizeOf9 w); simp only [Act.put, List.setIfInBounds_toArray, List.set_cons_succ, List.set_cons_zero]) | ((with_reducible refine wv_elem (d := 15) ?hd ?hw 9 ag_str (.tmp 14) ?ho (A.add i) ?hx (.string (strOf l)) ?hc ?_); (case hd => rfl); (case hw => kernel_rfl); (case ho => rfl); (case hx => kernel_rfl); (case hc => exact KC.out); simp only [Act.put, List.setIfInBounds_toArray, List.set_cons_succ, List.set_cons_zero]) | ((with_reducible refine wv_val (d := 17) ?hd ?hw (.int .i64 (z : Int)) ?hr ?_); (case hd => rfl); (case hw => kernel_rfl); (case hr => intro w; exact run_slen rfl (by kernel_rfl) KZ.out w); simp only [Act.put, List.setIfInBounds_toArray, List.set_cons_succ, List.set_cons_zero]))
          go_ret2
          exact ⟨⟨0, congrArg (fun b => Ending.returned (.tuple #[.int .i64 0, .bool b])) HF1.out.symm, fun h => absurd h HF2.out⟩, rfl⟩
        · have h4' : ¬ (4000 : Int) < (z : Int) := by omega
          obtain ⟨z2, hz2⟩ : ∃ z2, z2 = 2 + z := ⟨_, rfl⟩
          obtain ⟨m2, hm2⟩ : ∃ m2, m2 = m + z2 := ⟨_, rfl⟩
          have KZ2 : Kept _ := ⟨hz2⟩
          have KM2 : Kept _ := ⟨hm2⟩
          have hb2 : m2 < 4611686018427387904 := by have := KM.out.1; omega
          have hb3 : z2 < 4611686018427387904 := by omega
          clear hz2 hm2
          go_wp2_with (first | ((with_reducible refine wv_val (d := 14) ?hd ?hw (.pointer (some (A.add i))) ?hr ?_); (case hd => rfl); (case hw => kernel_rfl); (case hr => intro w; exact run_idxS rfl (by kernel_rfl) (by kernel_rfl) Tryd.underlying29 hin Tryd.sizeOf9 w); simp only [Act.put, List.setIfInBounds_toArray, List.set_cons_succ, List.set_cons_zero]) | ((with_reducible refine wv_elem (d := 15) ?hd ?hw 9 ag_str (.tmp 14) ?ho (A.add i) ?hx (.string (strOf l)) ?hc ?_); (case hd => rfl); (case hw => kernel_rfl); (case ho => rfl); (case hx => kernel_rfl); (case hc => exact KC.out); simp only [Act.put, List.setIfInBounds_toArray, List.set_cons_succ, List.set_cons_zero]) | ((with_reducible refine wv_val (d := 17) ?hd ?hw (.int .i64 (z : Int)) ?hr ?_); (case hd => rfl); (case hw => kernel_rfl); (case hr => intro w; exact run_slen rfl (by kernel_rfl) KZ.out w); simp only [Act.put, List.setIfInBounds_toArray, List.set_cons_succ, List.set_cons_zero]) | ((with_reducible refine wv_val (d := 21) ?hd ?hw (.int .i64 (z : Int)) ?hr ?_); (case hd => rfl); (case hw => kernel_rfl); (case hr => intro w; exact run_slen rfl (by kernel_rfl) KZ.out w); simp only [Act.put, List.setIfInBounds_toArray, List.set_cons_succ, List.set_cons_zero]) | ((with_reducible refine wv_val (d := 22) ?hd ?hw (.int .i64 (z2 : Int)) ?hr ?_); (case hd => rfl); (case hw => kernel_rfl); (case hr => intro w; exact run_addC 2 rfl (by kernel_rfl) KZ2.out hb3 w); simp only [Act.put, List.setIfInBounds_toArray, List.set_cons_succ, List.set_cons_zero]) | ((with_reducible refine wv_val (d := 23) ?hd ?hw (.int .i64 (m2 : Int)) ?hr ?_); (case hd => rfl); (case hw => kernel_rfl); (case hr => intro w; exact run_nadd rfl (by kernel_rfl) (by kernel_rfl) KM2.out hb2 w); simp only [Act.put, List.setIfInBounds_toArray, List.set_cons_succ, List.set_cons_zero]))
          go_roundg (gk - 1)
          case measure => omega
          case rel =>
            refine ⟨i + 1, m2, by omega, by simp, rfl, ⟨?_, small_take KL.out KM.out.2 (by have := KZ.out; omega)⟩, rfl⟩
            rw [items_take KL.out, List.length_append, itemL_len, ← KZ.out, KM2.out, KZ2.out, KM.out.1]
            omega

def IsBool (e : Ending) : Prop := ∃ b : Bool, e = .returned (.bool b)
end Go.Proofs.YtniogaimhkcedaaDoor.sh
