/-
  General pieces, joined: XD XE XF XH XI XJ XK XL XU XM XN XQ YA YB SHL SHN YC YD YE YF YG YH YI YJ YK YP YR XR XS SA SC BL SE.
-/
import Derived.Test.YtjkdonjcngmjeaaDoorG20
import Derived.Lib.BufferWrite
import Derived.Test.YtjkdonjcngmjeaaDoorG17
import Derived.Test.YtjkdonjcngmjeaaDoorG18
import Derived.Test.YtjkdonjcngmjeaaDoorG19
import Derived.Test.YtjkdonjcngmjeaaDoorG21
import Derived.Deep.Strs
import Derived.Test.YtjkdonjcngmjeaaDoorG01
import Derived.Lib.AppendStr
import Derived.Laws.IdiomStrings
import Derived.Shelf.Strings.Builder1
import Derived.Shelf.Strings.Builder2
import Derived.Shelf.Strconv.Clone
import Derived.Shelf.Strings.Prefix
import Derived.Shelf.LaysM
import Derived.SliceStrings
import Derived.ProofKit
import Derived.LaidMore
import Derived.OpenShut
import Derived.ChangeOld
/-
  The words' sums, and their bytes, by the program.
-/
namespace Go.Proofs.YtjkdonjcngmjeaaDoor.sh
open Go Go.RowKit
set_option linter.unusedVariables false
set_option linter.unusedSimpArgs false

end Go.Proofs.YtjkdonjcngmjeaaDoor.sh
/-
  Words of bytes, by the program.
-/
namespace Go.Proofs.YtjkdonjcngmjeaaDoor.sh
open Go Go.RowKit
set_option linter.unusedVariables false
set_option linter.unusedSimpArgs false

end Go.Proofs.YtjkdonjcngmjeaaDoor.sh
/-
  The words of a block at first, by the program.
-/
namespace Go.Proofs.YtjkdonjcngmjeaaDoor.sh
open Go Go.RowKit
set_option linter.unusedVariables false
set_option linter.unusedSimpArgs false

end Go.Proofs.YtjkdonjcngmjeaaDoor.sh
/-
  Bytes turned by one block, by the program.
-/
namespace Go.Proofs.YtjkdonjcngmjeaaDoor.sh
open Go Go.RowKit
set_option linter.unusedVariables false
set_option linter.unusedSimpArgs false

end Go.Proofs.YtjkdonjcngmjeaaDoor.sh
/-
  Bytes turned by blocks, by the program.
-/
namespace Go.Proofs.YtjkdonjcngmjeaaDoor.sh
open Go Go.RowKit
set_option linter.unusedVariables false
set_option linter.unusedSimpArgs false

theorem run_add64 {o : Oper} {a : Act} {x y : Operand} {m n z : Nat} (ho : o.op = .binOp .add 49 x y 49) (hx : a.eval x = .int .u64 (m : Int)) (hy : a.eval y = .int .u64 (n : Int)) (hz : z = m + n) (h62 : z < 4611686018427387904) (w : World) : (execOp a.eval o).run Tryd.prog w = .ok (.value (.int .u64 (z : Int))) w := by
  unfold execOp
  simp only [ho, hx, hy]
  simp [go_sem, IntKind.wrap_u64]
  omega
theorem run_subZ {o : Oper} {a : Act} {x : Operand} {i z : Nat} (c : Nat) (ho : o.op = .binOp .sub 3 x (.const (.int .i64 (c : Int))) 3) (hx : a.eval x = .int .i64 (i : Int)) (hz : i = z + c) (hi : i < 4611686018427387904) (w : World) : (execOp a.eval o).run Tryd.prog w = .ok (.value (.int .i64 (z : Int))) w := by
  have h := run_subI c ho hx (by omega) hi w
  rw [show i - c = z by omega] at h
  exact h
end Go.Proofs.YtjkdonjcngmjeaaDoor.sh
/-
  Bytes turned by blocks, by the program: where nothing is refused.
-/
namespace Go.Proofs.YtjkdonjcngmjeaaDoor.sh
open Go Go.RowKit
set_option linter.unusedVariables false
set_option linter.unusedSimpArgs false

section
variable {o : Oper} {a : Act} {x y z : Operand}
end
end Go.Proofs.YtjkdonjcngmjeaaDoor.sh
/-
  The answers that the document fixes.
-/
namespace Go.Proofs.YtjkdonjcngmjeaaDoor.sh
open Go Go.RowKit
set_option linter.unusedVariables false
set_option linter.unusedSimpArgs false

theorem run_c38 {o : Oper} {a : Act} {x : Operand} {z : Nat} (ho : o.op = .convert 3 5 x) (hx : a.eval x = .int .i64 (z : Int)) (hz : z < 256) (w : World) : (execOp a.eval o).run Tryd.prog w = .ok (.value (.int .u8 (z : Int))) w := run_conv38 ho hx (by omega) w
end Go.Proofs.YtjkdonjcngmjeaaDoor.sh
/-
  An argument that is a key, a nonce and a count.
-/
namespace Go.Proofs.YtjkdonjcngmjeaaDoor.sh
open Go Go.ChangeShapes Go.WideShapes Go.ChangeAt Go.RowKit
set_option linter.unusedVariables false
set_option linter.unusedSimpArgs false

section
variable {ops : Array Oper} {rest : List Oper} {o : Oper} {a : Act} {w : World} {Q : Exit → Act → World → Prop} {d : Nat}
/-- An array in the midst of a block is read. -/
theorem wv_partA (hd : o.dst = some d) (hw : Region.wanted o (yielded ops a.tmps) = true) (t : TypeId) (x : Operand) (ho : o.op = .load t x) (g off : Nat) (hx : a.eval x = .pointer (some ⟨g, off, none⟩)) {t' : TypeId} (cs es : Array Value) (len : Nat) (e : TypeId) (hu : Tryd.prog.underlying t = some (.array len e)) (hs : (Tryd.prog.info? t).map (·.size) = some es.size)
    (hg : Blk w g t' cs) (hp : ∀ j v, es[j]? = some v → cs[off + j]? = some v) (h : wpList Tryd.prog ops Q rest (a.put o.dst (.agg es)) w) : wpList Tryd.prog ops Q (o :: rest) a w :=
  BigFrame.wpList_want hw fun K hK => by
    unfold Oper.wp execOp
    simp only [ho, hx, Instr.loadAt, Instr.sureAddr, Sem.run_bind, Sem.run_pure, Result.andThen_ok, run_loadVar_at w g off t' t cs es (0, 0) _ hg hp hu rfl hs]
    exact hK _ _ h
end
section
variable {P : Program} {h : List Oper} {A0 A : Act} {W0 : World} {S : Nat → Option (Value → World → Prop)} {sp O : List Nat} {E : List (Nat × Nat)} {i : Nat} {o : Oper}
end
end Go.Proofs.YtjkdonjcngmjeaaDoor.sh
/-
  Regions that draw their order, where no operation takes a block over: what a slot holds may be a pair whose slice is new.
-/
namespace Go.Proofs.YtjkdonjcngmjeaaDoor.sh
open Go Go.RowKit
set_option linter.unusedVariables false
set_option linter.unusedSimpArgs false

theorem grown_empty {w w' : World} {row : Option Nat} (h : w.grownBy w' row) (hr : ∀ b, row = some b → False) : Below w.heap.size w w' := ⟨h.os, h.tape, h.output, h.size, fun k hk => h.block k hk (fun e => hr k e.symm)⟩
section
variable {P : Program} {h : List Oper} {A0 A : Act} {W0 : World} {S : Nat → Option (Value → World → Prop)} {sp O : List Nat} {E : List (Nat × Nat)} {i : Nat} {o : Oper}
end
/-- A pair of bytes and a number. -/
def PairV (r : Int) (U : List Nat) : Value → World → Prop := fun v w => ∃ u, v = .tuple #[u, .int .i64 r] ∧ BytesV u w U
theorem PairV.under {r : Int} {U : List Nat} {v : Value} {w w' : World} (h : PairV r U v w) (hb : Below w.heap.size w w') : PairV r U v w' := by
  obtain ⟨u, h1, h2⟩ := h
  exact ⟨u, h1, h2.under hb⟩
end Go.Proofs.YtjkdonjcngmjeaaDoor.sh
/-
  StreamEnd: behind the last count there is no block more; more bytes than may be are refused.
-/
namespace Go.Proofs.YtjkdonjcngmjeaaDoor.sh
open Go Go.RowKit
set_option linter.unusedVariables false
set_option linter.unusedSimpArgs false

theorem run_leqI {o : Oper} {a : Act} {x y : Operand} {m n : Nat} {b : Bool} (ho : o.op = .binOp .leq 3 x y 3) (hx : a.eval x = .int .i64 (m : Int)) (hy : a.eval y = .int .i64 (n : Int)) (hb : b = decide (m ≤ n)) (w : World) : (execOp a.eval o).run Tryd.prog w = .ok (.value (.bool b)) w := by
  unfold execOp
  simp only [ho, hx, hy]
  simp [go_sem, hb]
end Go.Proofs.YtjkdonjcngmjeaaDoor.sh
/-
  StreamBlocks: bytes are turned by blocks that are told one by one.
-/
namespace Go.Proofs.YtjkdonjcngmjeaaDoor.sh
open Go Go.RowKit
set_option linter.unusedVariables false
set_option linter.unusedSimpArgs false

end Go.Proofs.YtjkdonjcngmjeaaDoor.sh
/-
  The reference: a word turned, a word of bytes, a quarter.
-/
namespace Go.Proofs.YtjkdonjcngmjeaaDoor.sh
open Go Go.RowKit
set_option linter.unusedVariables false
set_option linter.unusedSimpArgs false

end Go.Proofs.YtjkdonjcngmjeaaDoor.sh
/-
  Poly1305 as plain numbers: words of a number, a product modulo 2^130 - 5, the tag of bytes.
-/
namespace Go.Proofs.YtjkdonjcngmjeaaDoor.sh
open Go Go.RowKit
set_option linter.unusedVariables false
set_option linter.unusedSimpArgs false

/-- The word i of a number. -/
def wd (N i : Nat) : Nat := N / 18446744073709551616 ^ i % 18446744073709551616
theorem Bytes.all {l : List Nat} (h : Bytes l) : ∀ x ∈ l, x < 256 := fun x hx => by
  obtain ⟨i, hi⟩ := List.mem_iff_getElem?.1 hx
  exact h i x hi
theorem bytes_of_all {l : List Nat} (h : ∀ x ∈ l, x < 256) : Bytes l := fun i x hx => h x (List.mem_of_getElem? hx)

theorem val_lt : ∀ (a : List Nat), (∀ x ∈ a, x < 256) → val a < 256 ^ a.length
  | [], _ => by simp [val]
  | x :: a, h => by
    have h1 := val_lt a (fun z hz => h z (by simp [hz]))
    have h2 := h x (by simp)
    simp only [val, List.length_cons, Nat.pow_succ]
    omega
theorem digs_get (N n i : Nat) (h : i < n) : (digs N n)[i]? = some (N / 256 ^ i % 256) := by simp [digs, h]
theorem val_digit : ∀ (a : List Nat), (∀ x ∈ a, x < 256) → ∀ i, i < a.length → val a / 256 ^ i % 256 = a.getD i 0
  | [], _, i, h => by simp at h
  | x :: a, ha, 0, _ => by
    have := ha x (by simp)
    simp [val]
    omega
  | x :: a, ha, i + 1, h => by
    have h0 := ha x (by simp)
    have := val_digit a (fun z hz => ha z (by simp [hz])) i (by simpa using h)
    simp only [val, Nat.pow_succ, List.getD_cons_succ]
    rw [Nat.mul_comm _ 256, ← Nat.div_div_eq_div_mul, show (x + 256 * val a) / 256 = val a by omega]
    exact this
theorem digs_val (a : List Nat) (h : ∀ x ∈ a, x < 256) : digs (val a) a.length = a := by
  apply List.ext_getElem?
  intro i
  by_cases hi : i < a.length
  · rw [digs_get _ _ _ hi, val_digit a h i hi, List.getD_eq_getElem?_getD, List.getElem?_eq_getElem hi]
    rfl
  · rw [List.getElem?_eq_none (by rw [digs_len]; omega), List.getElem?_eq_none (by omega)]
end Go.Proofs.YtjkdonjcngmjeaaDoor.sh
/-
  Sums and products of words, and the word of eight bytes, by the program.
-/
namespace Go.Proofs.YtjkdonjcngmjeaaDoor.sh
open Go Go.RowKit
set_option linter.unusedVariables false
set_option linter.unusedSimpArgs false

end Go.Proofs.YtjkdonjcngmjeaaDoor.sh
/-
  A region that draws its order, with one store among its operations that does not wait for all of them: 'x[i], c = f(..)'. Those that the store waits for read memory as it was; the others read none.
-/
namespace Go.Proofs.YtjkdonjcngmjeaaDoor.sh
open Go Go.RowKit
set_option linter.unusedVariables false
set_option linter.unusedSimpArgs false

end Go.Proofs.YtjkdonjcngmjeaaDoor.sh
/-
  A region that draws its order, in which operations may be left out by their guards; no operation takes a block over.
-/
namespace Go.Proofs.YtjkdonjcngmjeaaDoor.sh
open Go Go.RowKit
set_option linter.unusedVariables false
set_option linter.unusedSimpArgs false

end Go.Proofs.YtjkdonjcngmjeaaDoor.sh
/-
  Sums of numbers, what is left modulo p, and the bytes of a number, by the program.
-/
namespace Go.Proofs.YtjkdonjcngmjeaaDoor.sh
open Go Go.RowKit
set_option linter.unusedVariables false
set_option linter.unusedSimpArgs false

end Go.Proofs.YtjkdonjcngmjeaaDoor.sh
/-
  Products of numbers, by the program.
-/
namespace Go.Proofs.YtjkdonjcngmjeaaDoor.sh
open Go Go.RowKit
set_option linter.unusedVariables false
set_option linter.unusedSimpArgs false

end Go.Proofs.YtjkdonjcngmjeaaDoor.sh
/-
  Products modulo p, and the bytes of a number, by the program.
-/
namespace Go.Proofs.YtjkdonjcngmjeaaDoor.sh
open Go Go.RowKit
set_option linter.unusedVariables false
set_option linter.unusedSimpArgs false

end Go.Proofs.YtjkdonjcngmjeaaDoor.sh
/-
  The words of a key and of a piece of a text, by the program.
-/
namespace Go.Proofs.YtjkdonjcngmjeaaDoor.sh
open Go Go.RowKit
set_option linter.unusedVariables false
set_option linter.unusedSimpArgs false

end Go.Proofs.YtjkdonjcngmjeaaDoor.sh
/-
  The tag of bytes, by the program.
-/
namespace Go.Proofs.YtjkdonjcngmjeaaDoor.sh
open Go Go.RowKit
set_option linter.unusedVariables false
set_option linter.unusedSimpArgs false

end Go.Proofs.YtjkdonjcngmjeaaDoor.sh
/-
  Texts compared, and the difference of two tags.
-/
namespace Go.Proofs.YtjkdonjcngmjeaaDoor.sh
open Go Go.RowKit
set_option linter.unusedVariables false
set_option linter.unusedSimpArgs false

end Go.Proofs.YtjkdonjcngmjeaaDoor.sh
/-
  The answers that the document fixes for layer 6 are as they must be.
-/
namespace Go.Proofs.YtjkdonjcngmjeaaDoor.sh
open Go Go.RowKit
set_option linter.unusedVariables false
set_option linter.unusedSimpArgs false

end Go.Proofs.YtjkdonjcngmjeaaDoor.sh
/-
  TagBlocks and TagOne, walked.
-/
namespace Go.Proofs.YtjkdonjcngmjeaaDoor.sh
open Go Go.RowKit
set_option linter.unusedVariables false
set_option linter.unusedSimpArgs false

end Go.Proofs.YtjkdonjcngmjeaaDoor.sh
/-
  TagBits, walked.
-/
namespace Go.Proofs.YtjkdonjcngmjeaaDoor.sh
open Go Go.RowKit
set_option linter.unusedVariables false
set_option linter.unusedSimpArgs false

end Go.Proofs.YtjkdonjcngmjeaaDoor.sh
/-
  Slices of ints that a call owns; the reference's carry.
-/
namespace Go.Proofs.YtjkdonjcngmjeaaDoor.sh
open Go Go.RowKit
set_option linter.unusedVariables false
set_option linter.unusedSimpArgs false

/-- A slice of ints in a block of its own. -/
def OI (base g n cap : Nat) (l : List Nat) (w : World) : Prop := base ≤ g ∧ l.length = n ∧ n ≤ cap ∧ cap ≤ maxLen ∧ ∃ cur, Blk w g 3 cur ∧ cur.size = cap ∧ ∀ (i x : Nat), l[i]? = some x → cur[i]? = some (.int .i64 (x : Int))
theorem OI.len {base g n cap : Nat} {l : List Nat} {w : World} (h : OI base g n cap l w) : l.length = n := h.2.1
theorem OI.lt {base g n cap : Nat} {l : List Nat} {w : World} (h : OI base g n cap l w) : g < w.heap.size := by obtain ⟨_, _, _, _, cur, hB, _⟩ := h; exact hB.lt
theorem OI.cell {base g n cap : Nat} {l : List Nat} {w : World} (h : OI base g n cap l w) {i x : Nat} (hx : l[i]? = some x) : w.cell? ⟨g, i, none⟩ = some (.int .i64 (x : Int)) := by
  obtain ⟨_, _, _, _, cur, hB, _, hc⟩ := h
  exact hB.cell (hc i x hx)
theorem OI.under {base g n cap : Nat} {l : List Nat} {w w' : World} (h : OI base g n cap l w) (hb : Below w.heap.size w w') : OI base g n cap l w' := by
  obtain ⟨h1, h2, h3, h4, cur, hB, hs, hc⟩ := h
  exact ⟨h1, h2, h3, h4, cur, hB.under hb, hs, hc⟩
theorem OI.alloc {base g n cap : Nat} {l : List Nat} {w : World} (h : OI base g n cap l w) (o : Obj) : OI base g n cap l (w.alloc o) := by
  obtain ⟨h1, h2, h3, h4, cur, hB, hs, hc⟩ := h
  exact ⟨h1, h2, h3, h4, cur, hB.alloc o, hs, hc⟩
theorem OI.put {base g n cap k : Nat} {l : List Nat} {w w' : World} (h : OI base g n cap l w) (hp : Put w w' k) (hne : g ≠ k) : OI base g n cap l w' := by
  obtain ⟨h1, h2, h3, h4, cur, hB, hs, hc⟩ := h
  exact ⟨h1, h2, h3, h4, cur, hp.blk hB hne, hs, hc⟩
theorem OI.mono {base b' g n cap : Nat} {l : List Nat} {w : World} (h : OI base g n cap l w) (hb : b' ≤ base) : OI b' g n cap l w := ⟨Nat.le_trans hb h.1, h.2⟩
theorem OI.ints {base g n cap : Nat} {l : List Nat} {w : World} (h : OI base g n cap l w) : IntsV .i64 (.slice (some ⟨g, 0, none⟩) n cap) w l := by
  have hl := h.len
  subst hl
  refine ⟨some ⟨g, 0, none⟩, cap, rfl, h.2.2.1, fun _ => ⟨⟨g, 0, none⟩, rfl, h.lt, fun j x hx => ?_⟩⟩
  rw [addr_add, Nat.zero_add]
  exact h.cell hx
theorem OI.holds {base g n cap : Nat} {l : List Nat} {w : World} (h : OI base g n cap l w) : Holds w g l :=
  ⟨h.lt, fun j hj => h.cell (by rw [List.getD_eq_getElem?_getD, List.getElem?_eq_getElem hj]; rfl)⟩
section
variable {ops : Array Oper} {rest : List Oper} {o : Oper} {a : Act} {w : World} {Q : Exit → Act → World → Prop}
end
end Go.Proofs.YtjkdonjcngmjeaaDoor.sh
/-
  What the reference's Sum wants, as plain numbers; its single operations.
-/
namespace Go.Proofs.YtjkdonjcngmjeaaDoor.sh
open Go Go.RowKit
set_option linter.unusedVariables false
set_option linter.unusedSimpArgs false

end Go.Proofs.YtjkdonjcngmjeaaDoor.sh
/-
  The reference's block: pieces.
-/
namespace Go.Proofs.YtjkdonjcngmjeaaDoor.sh
open Go Go.RowKit
set_option linter.unusedVariables false
set_option linter.unusedSimpArgs false

end Go.Proofs.YtjkdonjcngmjeaaDoor.sh
/-
  The reference: bytes turned by blocks.
-/
namespace Go.Proofs.YtjkdonjcngmjeaaDoor.sh
open Go Go.RowKit
set_option linter.unusedVariables false
set_option linter.unusedSimpArgs false

end Go.Proofs.YtjkdonjcngmjeaaDoor.sh
/-
  Strings as lists of bytes: length, bytes, parts, joined, compared, turned into bytes.
-/
namespace Go.Proofs.YtjkdonjcngmjeaaDoor.sh
open Go Go.RowKit
set_option linter.unusedVariables false
set_option linter.unusedSimpArgs false

/-- The bytes of a string. -/
def strL (s : ByteArray) : List Nat := s.data.toList.map (·.toNat)
theorem strL_bytes (s : ByteArray) : Bytes (strL s) := bytes_of_all (fun x hx => by
  unfold strL at hx
  obtain ⟨u, _, rfl⟩ := List.mem_map.1 hx
  exact u.toNat_lt)
theorem sa_fold : ∀ (l : List Nat) (b : ByteArray), ((l.map fun n : Nat => (n : Int)).foldl (fun r n => r.push (UInt8.ofNat n.toNat)) b).data.toList = b.data.toList ++ l.map (fun n => UInt8.ofNat n)
  | [], b => by simp
  | x :: l, b => by
    rw [List.map_cons, List.foldl_cons, sa_fold l]
    simp [ByteArray.push]
theorem sa_data (l : List Nat) : (strOf l).data.toList = l.map (fun n => UInt8.ofNat n) := by
  unfold strOf
  rw [sa_fold]
  rfl
theorem str_ext {s t : ByteArray} (h : s.data.toList = t.data.toList) : s = t := by
  cases s; cases t
  simp only at h
  congr 1
  exact Array.toList_inj.1 h
theorem strOf_strL (s : ByteArray) : strOf (strL s) = s := by
  refine str_ext ?_
  rw [sa_data]
  unfold strL
  rw [List.map_map]
  conv => rhs; rw [← List.map_id s.data.toList]
  exact List.map_congr_left fun x _ => by simp
theorem strL_strOf {l : List Nat} (h : Bytes l) : strL (strOf l) = l := by
  unfold strL
  rw [sa_data, List.map_map]
  conv => rhs; rw [← List.map_id l]
  refine List.map_congr_left fun x hx => ?_
  have := h.all x hx
  simp
  omega
theorem strOf_size (l : List Nat) : (strOf l).size = l.length := by
  show (strOf l).data.size = _
  rw [← Array.length_toList, sa_data, List.length_map]
theorem strOf_append (l m : List Nat) : strOf l ++ strOf m = strOf (l ++ m) := by
  refine str_ext ?_
  rw [sa_data, List.map_append, ← sa_data, ← sa_data, ByteArray.data_append, Array.toList_append]
theorem strOf_same {l m : List Nat} (hl : Bytes l) (hm : Bytes m) (h : strOf l = strOf m) : l = m := by
  rw [← strL_strOf hl, h, strL_strOf hm]
theorem sa_beq {l m : List Nat} (hl : Bytes l) (hm : Bytes m) : ((strOf l).toList == (strOf m).toList) = decide (l = m) := by
  by_cases h : l = m
  · rw [h]; simp
  · rw [decide_eq_false h]
    refine beq_eq_false_iff_ne.2 (fun e => h (strOf_same hl hm (str_ext ?_)))
    rw [ByteArray.toList_eq, ByteArray.toList_eq] at e
    exact e
theorem run_scat {o : Oper} {a : Act} {x y : Operand} {l m k : List Nat} (ho : o.op = .binOp .add 9 x y 9) (hx : a.eval x = .string (strOf l)) (hy : a.eval y = .string (strOf m)) (hn : l.length + m.length < 4611686018427387904) (hk : k = l ++ m) (w : World) : (execOp a.eval o).run Tryd.prog w = .ok (.value (.string (strOf k))) w := by
  have h1 : ¬ (((strOf l).size + (strOf m).size : Nat) : Int) > IntKind.i64.max := by rw [strOf_size, strOf_size, show IntKind.i64.max = 9223372036854775807 from rfl]; omega
  unfold execOp
  simp only [ho, hx, hy]
  simp [go_sem, Op.stringOp, h1]
  rw [if_neg (by simpa using h1), hk, ← strOf_append]
theorem run_seq {o : Oper} {a : Act} {x y : Operand} {u : TypeId} {l m : List Nat} {b : Bool} (ho : o.op = .binOp .eql 9 x y u) (hx : a.eval x = .string (strOf l)) (hy : a.eval y = .string (strOf m)) (hl : Bytes l) (hm : Bytes m) (hb : b = decide (l = m)) (w : World) : (execOp a.eval o).run Tryd.prog w = .ok (.value (.bool b)) w := by
  have e := sa_beq hl hm
  unfold execOp
  simp only [ho, hx, hy]
  rw [hb, ← e]
  simp [go_sem]
theorem run_sneq {o : Oper} {a : Act} {x y : Operand} {u : TypeId} {l m : List Nat} {b : Bool} (ho : o.op = .binOp .neq 9 x y u) (hx : a.eval x = .string (strOf l)) (hy : a.eval y = .string (strOf m)) (hl : Bytes l) (hm : Bytes m) (hb : b = !decide (l = m)) (w : World) : (execOp a.eval o).run Tryd.prog w = .ok (.value (.bool b)) w := by
  have e := sa_beq hl hm
  unfold execOp
  simp only [ho, hx, hy]
  rw [hb, ← e]
  simp [go_sem]
theorem run_slen {o : Oper} {a : Act} {x : Operand} {l : List Nat} {n : Nat} (ho : o.op = .call { callee := .builtin .len, args := #[x], argTypes := #[9] }) (hx : a.eval x = .string (strOf l)) (hn : n = l.length) (w : World) : (execOp a.eval o).run Tryd.prog w = .ok (.value (.int .i64 (n : Int))) w := by
  unfold execOp
  simp only [ho, resolve, invoke, builtin, Sem.run_bind, Sem.run_pure, Result.andThen_ok, List.map_toArray, List.map_cons, List.map_nil, hx]
  simp [Builtin.len_, run_underlying str_u, goInt, go_sem, strOf_size, hn]
end Go.Proofs.YtjkdonjcngmjeaaDoor.sh
/-
  Slices whose elements have one cell each, whatever they are: read, owned, appended to; slices of strings.
-/
namespace Go.Proofs.YtjkdonjcngmjeaaDoor.sh
open Go Go.RowKit
set_option linter.unusedVariables false
set_option linter.unusedSimpArgs false

/-- Values, of one cell each, that a slice holds. -/
def ValsV (v : Value) (w : World) (vs : List Value) : Prop := ∃ p c, v = .slice p vs.length c ∧ vs.length ≤ c ∧ (vs ≠ [] → ∃ A, p = some A ∧ A.block < w.heap.size ∧ ∀ (j : Nat) (x : Value), vs[j]? = some x → w.cell? (A.add j) = some x)
theorem ValsV.below {v : Value} {w w' : World} {vs : List Value} {B : Nat} (h : ValsV v w vs) (hB : ∀ b, blkOf v = some b → b < B) (hb : Below B w w') : ValsV v w' vs := by
  obtain ⟨p, c, rfl, h2, h3⟩ := h
  refine ⟨p, c, rfl, h2, fun hne => ?_⟩
  obtain ⟨A, rfl, e2, e3⟩ := h3 hne
  exact ⟨A, rfl, Nat.lt_of_lt_of_le e2 hb.size, fun j x hx => by rw [hb.cell (by rw [add_block]; exact hB _ rfl)]; exact e3 j x hx⟩
theorem ValsV.under {v : Value} {w w' : World} {vs : List Value} (h : ValsV v w vs) (hb : Below w.heap.size w w') : ValsV v w' vs := by
  obtain ⟨p, c, rfl, hlc, hp⟩ := h
  refine ⟨p, c, rfl, hlc, fun hne => ?_⟩
  obtain ⟨A, rfl, hA, hc⟩ := hp hne
  exact ⟨A, rfl, Nat.lt_of_lt_of_le hA hb.size, fun j x hx => (hb.cell (by rw [add_block]; exact hA)).trans (hc j x hx)⟩
theorem vals_nil (w : World) : ValsV (.slice none 0 0) w [] := ⟨none, 0, rfl, Nat.le_refl _, fun h => absurd rfl h⟩
theorem vals_form {v : Value} {w : World} {vs : List Value} {n : Nat} (h : ValsV v w vs) (hn : vs.length = n) : ∃ p c, v = .slice p n c ∧ n ≤ c := by
  obtain ⟨p, c, rfl, h2, _⟩ := h
  exact ⟨p, c, by rw [hn], by omega⟩
theorem vals_at {p : Option Addr} {n c : Nat} {w : World} {vs : List Value} (h : ValsV (.slice p n c) w vs) {i : Nat} {x : Value} (hx : vs[i]? = some x) : ∃ A, p = some A ∧ A.block < w.heap.size ∧ w.cell? (A.add i) = some x := by
  obtain ⟨p', c', e1, _, e3⟩ := h
  cases e1
  obtain ⟨A, e4, e6, e5⟩ := e3 (by intro e; rw [e] at hx; cases hx)
  exact ⟨A, e4, e6, e5 i x hx⟩
/-- The same, in a block that the call owns. -/
def VRow (base : Nat) (e : TypeId) (vs : List Value) : Value → World → Prop := fun v w => w.ownsRow base e 1 v vs.length vs
theorem vrow_blk {base : Nat} {e : TypeId} {vs : List Value} {v : Value} {w : World} (h : VRow base e vs v w) : v.ownBlock = blkOf v := by
  rcases h.2 with ⟨rfl, _⟩ | ⟨g, cap, cur, rfl, _⟩ <;> rfl
theorem VRow.keeps {base : Nat} {e : TypeId} {vs : List Value} {v : Value} {w w' : World} {row : Option Nat} (h : VRow base e vs v w) (hg : w.grownBy w' row) (hne : blkOf v = none ∨ blkOf v ≠ row) : VRow base e vs v w' := by
  obtain ⟨h1, h2⟩ := h
  refine ⟨h1, ?_⟩
  rcases h2 with h | ⟨g, cap, cur, rfl, hb, hgt, r⟩
  · exact .inl h
  · refine .inr ⟨g, cap, cur, rfl, hb, ?_, r⟩
    have hlt : g < w.heap.size := (Array.getElem?_eq_some_iff.1 hgt).1
    rw [hg.block g hlt (fun e => by
      rcases hne with h | h
      · cases h
      · exact h e)]
    exact hgt
theorem VRow.mono {base b' : Nat} {e : TypeId} {vs : List Value} {v : Value} {w : World} (h : VRow base e vs v w) (hb : b' ≤ base) : VRow b' e vs v w := by
  obtain ⟨h1, h2⟩ := h
  refine ⟨h1, ?_⟩
  rcases h2 with h | ⟨g, cap, cur, a, b, c⟩
  · exact .inl h
  · exact .inr ⟨g, cap, cur, a, Nat.le_trans hb b, c⟩
theorem VRow.range {base : Nat} {e : TypeId} {vs : List Value} {v : Value} {w : World} (h : VRow base e vs v w) : ∀ b, blkOf v = some b → base ≤ b ∧ b < w.heap.size := fun b hb => h.lt b (by rw [vrow_blk h]; exact hb)
theorem VRow.under {base : Nat} {e : TypeId} {vs : List Value} {v : Value} {w w' : World} (h : VRow base e vs v w) (hb : Below w.heap.size w w') : VRow base e vs v w' := h.keeps (grown_under hb) (ne_none v)
theorem VRow.alloc {base : Nat} {e : TypeId} {vs : List Value} {v : Value} {w : World} (h : VRow base e vs v w) (o : Obj) : VRow base e vs v (w.alloc o) := World.ownsRow.alloc h o
theorem vrow_nil (w : World) (base : Nat) (e : TypeId) : VRow base e [] (.slice none 0 0) w := World.ownsRow_nil w base e 1
theorem vrow_lit {base : Nat} {e : TypeId} (w : World) (A : Array Value) (n : Nat) (hn : A.size = n) (hb : base ≤ w.heap.size) (hm : n ≤ maxLen) : VRow base e A.toList (.slice (some ⟨w.heap.size, 0, none⟩) n n) (w.alloc (.cells A e)) := by
  subst hn
  unfold VRow
  rw [Array.length_toList]
  refine ⟨by simp, .inr ⟨w.heap.size, A.size, A, rfl, hb, heap_new w _, Nat.le_refl _, hm, by omega, ?_⟩⟩
  rw [Nat.mul_one, List.take_of_length_le (by simp)]
theorem vrow_vals {base : Nat} {e : TypeId} {vs : List Value} {v : Value} {w : World} (h : VRow base e vs v w) : ValsV v w vs := by
  rcases h.2 with ⟨rfl, h0⟩ | ⟨g, cap, cur, rfl, hb, hg, hn, hm, hs, ht⟩
  · have : vs = [] := List.eq_nil_of_length_eq_zero h0
    subst this
    exact vals_nil w
  · refine ⟨_, cap, rfl, hn, fun _ => ⟨_, rfl, (Array.getElem?_eq_some_iff.1 hg).1, fun j x hx => ?_⟩⟩
    rw [addr_add, Nat.zero_add]
    refine cell_row hg ?_
    have hj : j < vs.length := (List.getElem?_eq_some_iff.1 hx).1
    have h3 : (cur.toList.take (vs.length * 1))[j]? = vs[j]? := by rw [ht]
    rw [List.getElem?_take_of_lt (by omega), hx, Array.getElem?_toList] at h3
    exact h3
theorem appV_run {P : Program} {t ty e : TypeId} {z : Value} {bytes : Nat} (ht : P.underlying t = some (.slice e)) (hi : (P.info? e).map (fun i => (i.zero, i.size, i.bytes)) = some (some z, 1, bytes)) (hz : z.cells.size = 1) {base : Nat} {l m : List Value} {v u : Value} {w : World} (hown : VRow base e l v w) (hx : ValsV u w m) (h1 : ∀ x ∈ m, x.oneCell' = true) (hn : l.length + m.length ≤ 1099511627776) (hby : bytes ≤ 64) (hbase : base ≤ w.heap.size) :
    ∃ v' w', (Builtin.append_ #[t, t] ty #[v, u]).run P w = .ok v' w' ∧ VRow base e (l ++ m) v' w' ∧ w.grownBy w' (blkOf v) ∧ (blkOf v' = blkOf v ∨ blkOf v' = some w.heap.size) := by
  cases hq : P.info? e with
  | none => rw [hq] at hi; cases hi
  | some i0 =>
  rw [hq] at hi
  simp only [Option.map_some, Option.some.injEq, Prod.mk.injEq] at hi
  obtain ⟨hz0, hz1, hz2⟩ := hi
  obtain ⟨p, c, rfl, h2, h3⟩ := hx
  have hbl := vrow_blk hown
  have hmax : l.length + m.length ≤ maxLen := by unfold maxLen; omega
  have hbb : (l.length + m.length) * bytes ≤ 140737488355328 := Nat.le_trans (Nat.mul_le_mul hn hby) (by decide)
  cases p with
  | none =>
    have hm0 : m = [] := by
      cases m with
      | nil => rfl
      | cons x r => obtain ⟨A, h, _⟩ := h3 (by simp); cases h
    subst hm0
    refine ⟨v, w, ?_, by rw [List.append_nil]; exact hown, ⟨rfl, rfl, rfl, Nat.le_refl _, fun _ _ _ => rfl⟩, .inl rfl⟩
    rcases hown.2 with ⟨rfl, h0⟩ | ⟨g, cap, cur, rfl, _, _, hnc, _⟩
    · simp [Builtin.append_, run_underlying ht, sizeOf, typeInfo, hq, Builtin.lenOf, Builtin.firstCells, h0]
    · simp [Builtin.append_, run_underlying ht, sizeOf, typeInfo, hq, Builtin.lenOf, Builtin.firstCells, hnc, storeCells]
  | some A =>
    obtain ⟨v', w', h4, h5, h6, _, h8⟩ := run_append_own_at (P := P) w base t ty e i0 z 1 bytes ht hq hz0 hz1 hz2 hz (by decide) v l.length l hown A m.length c m (by simp) (by
      intro j y hj
      obtain ⟨A', e1, _, e3⟩ := h3 (by intro e; rw [e] at hj; simp at hj)
      cases e1
      exact e3 j y hj) h1 hmax hbb hbase
    have hrow : VRow base e (l ++ m) v' w' := by unfold VRow; rw [List.length_append]; exact h5
    rw [vrow_blk hrow, hbl] at h8
    exact ⟨v', w', h4, hrow, by rw [← hbl]; exact h6, h8⟩
/-- 'append' in a plain region. -/
theorem wl_appV {ops : Array Oper} {rest : List Oper} {o : Oper} {a : Act} {w : World} {Q : Exit → Act → World → Prop} (hw : Region.wanted o (yielded ops a.tmps) = true) (s x : Operand) (t e : TypeId) (z : Value) (bytes : Nat) (ho : o.op = .call { callee := .builtin .append, args := #[s, x], argTypes := #[t, t] }) (ht : Tryd.prog.underlying t = some (.slice e)) (hi : (Tryd.prog.info? e).map (fun i => (i.zero, i.size, i.bytes)) = some (some z, 1, bytes)) (hz : z.cells.size = 1) (hby : bytes ≤ 64) (base : Nat) (l m : List Value) (v u : Value) (hs : a.eval s = v) (hx : a.eval x = u) (hv : VRow base e l v w) (hu : ValsV u w m) (h1 : ∀ x ∈ m, x.oneCell' = true) (hn : l.length + m.length ≤ 1099511627776) (hbase : base ≤ w.heap.size)
    (hk : ∀ v' w', VRow base e (l ++ m) v' w' → w.grownBy w' (blkOf v) → (blkOf v' = blkOf v ∨ blkOf v' = some w.heap.size) → wpList Tryd.prog ops Q rest (a.put o.dst v') w') : wpList Tryd.prog ops Q (o :: rest) a w :=
  BigFrame.wpList_want hw fun K hK => by
    obtain ⟨v', w', h4, h5, h6, h7⟩ := appV_run (ty := o.type) ht hi hz hv hu h1 hn hby hbase
    unfold Oper.wp execOp
    simp only [ho, resolve, invoke, builtin, Sem.run_bind, Sem.run_pure, Result.andThen_ok, List.map_toArray, List.map_cons, List.map_nil, hs, hx, h4]
    exact hK _ _ (hk v' w' h5 h6 h7)
/-- Strings as values. -/
def strs (ll : List (List Nat)) : List Value := ll.map fun l => .string (strOf l)
theorem strs_len (ll : List (List Nat)) : (strs ll).length = ll.length := by simp [strs]
theorem strs_get {ll : List (List Nat)} {i : Nat} {l : List Nat} (h : ll[i]? = some l) : (strs ll)[i]? = some (.string (strOf l)) := by unfold strs; rw [List.getElem?_map, h]; rfl
theorem strs_append (ll mm : List (List Nat)) : strs (ll ++ mm) = strs ll ++ strs mm := by simp [strs]
end Go.Proofs.YtjkdonjcngmjeaaDoor.sh
/-
  The library's builder, its Clone and its HasPrefix in this program: the shelf's contracts, over one table of numbers.
-/
namespace Go.Proofs.YtjkdonjcngmjeaaDoor.sh
open Go Go.RowKit Go.Shelf
set_option linter.unusedVariables false
set_option linter.unusedSimpArgs false

def ren : Ren := { f := fun n => if n = 165 then 44 else if n = 166 then 46 else if n = 167 then 45 else if n = 169 then 47 else if n = 240 then 50 else if n = 241 then 51 else if n = 276 then 55 else if n = 277 then 56 else if n = 99 then 53 else if n = 206 then 59 else if n = 105 then 49 else if n = 170 then 54 else if n = 212 then 52 else if n = 263 then 57 else if n = 264 then 58 else n, t := fun n => if n = 70 then 94 else if n = 3 then 3 else if n = 0 then 0 else if n = 4 then 4 else if n = 9 then 9 else if n = 20 then 20 else if n = 72 then 96 else if n = 37 then 32 else if n = 164 then 108 else if n = 5 then 5 else if n = 75 then 99 else if n = 80 then 67 else if n = 127 then 77 else if n = 46 then 62 else if n = 51 then 45 else if n = 53 then 49 else if n = 76 then 101 else if n = 109 then 105 else if n = 146 then 111 else if n = 148 then 113 else n, g := fun n => n }
theorem lay165 : Lays.n165 Tryd.prog ren := { mixed := by kernel_rfl, f165 := Tryd.func44.trans (congrArg some (by kernel_rfl)), f240 := Tryd.func50.trans (congrArg some (by kernel_rfl)), f241 := Tryd.func51.trans (congrArg some (by kernel_rfl)), f276 := Tryd.func55.trans (congrArg some (by kernel_rfl)), f277 := Tryd.func56.trans (congrArg some (by kernel_rfl)), t0 := Tryd.underlying0, a0 := Tryd.isAgg0, z0 := Tryd.sizeOf0, v0 := Tryd.zeroValue0, t3 := Tryd.underlying3, a3 := Tryd.isAgg3, z3 := Tryd.sizeOf3, v3 := Tryd.zeroValue3, t4 := Tryd.underlying4, a4 := Tryd.isAgg4, z4 := Tryd.sizeOf4, v4 := Tryd.zeroValue4, t9 := Tryd.underlying9, a9 := Tryd.isAgg9, z9 := Tryd.sizeOf9, v9 := Tryd.zeroValue9, t20 := Tryd.underlying20, a20 := Tryd.isAgg20, z20 := Tryd.sizeOf20, v20 := Tryd.zeroValue20, t37 := Tryd.underlying32, a37 := Tryd.isAgg32, z37 := Tryd.sizeOf32, v37 := Tryd.zeroValue32, t70 := Tryd.underlying94, a70 := Tryd.isAgg94, z70 := Tryd.sizeOf94, v70 := Tryd.zeroValue94, t72 := Tryd.underlying96, a72 := Tryd.isAgg96, z72 := Tryd.sizeOf96, v72 := Tryd.zeroValue96, t164 := Tryd.underlying108, a164 := Tryd.isAgg108, z164 := Tryd.sizeOf108, v164 := Tryd.zeroValue108 }
theorem lay166 : Lays.n166 Tryd.prog ren := { mixed := by kernel_rfl, f166 := Tryd.func46.trans (congrArg some (by kernel_rfl)), f240 := Tryd.func50.trans (congrArg some (by kernel_rfl)), f276 := Tryd.func55.trans (congrArg some (by kernel_rfl)), t0 := Tryd.underlying0, a0 := Tryd.isAgg0, z0 := Tryd.sizeOf0, v0 := Tryd.zeroValue0, t3 := Tryd.underlying3, a3 := Tryd.isAgg3, z3 := Tryd.sizeOf3, v3 := Tryd.zeroValue3, t4 := Tryd.underlying4, a4 := Tryd.isAgg4, z4 := Tryd.sizeOf4, v4 := Tryd.zeroValue4, t9 := Tryd.underlying9, a9 := Tryd.isAgg9, z9 := Tryd.sizeOf9, v9 := Tryd.zeroValue9, t20 := Tryd.underlying20, a20 := Tryd.isAgg20, z20 := Tryd.sizeOf20, v20 := Tryd.zeroValue20, t37 := Tryd.underlying32, a37 := Tryd.isAgg32, z37 := Tryd.sizeOf32, v37 := Tryd.zeroValue32, t70 := Tryd.underlying94, a70 := Tryd.isAgg94, z70 := Tryd.sizeOf94, v70 := Tryd.zeroValue94, t72 := Tryd.underlying96, a72 := Tryd.isAgg96, z72 := Tryd.sizeOf96, v72 := Tryd.zeroValue96, t75 := Tryd.underlying99, a75 := Tryd.isAgg99, z75 := Tryd.sizeOf99, v75 := Tryd.zeroValue99, t164 := Tryd.underlying108, a164 := Tryd.isAgg108, z164 := Tryd.sizeOf108, v164 := Tryd.zeroValue108 }
theorem lay167 : Lays.n167 Tryd.prog ren := { mixed := by kernel_rfl, f167 := Tryd.func45.trans (congrArg some (by kernel_rfl)), f240 := Tryd.func50.trans (congrArg some (by kernel_rfl)), f276 := Tryd.func55.trans (congrArg some (by kernel_rfl)), t0 := Tryd.underlying0, a0 := Tryd.isAgg0, z0 := Tryd.sizeOf0, v0 := Tryd.zeroValue0, t4 := Tryd.underlying4, a4 := Tryd.isAgg4, z4 := Tryd.sizeOf4, v4 := Tryd.zeroValue4, t5 := Tryd.underlying5, a5 := Tryd.isAgg5, z5 := Tryd.sizeOf5, v5 := Tryd.zeroValue5, t9 := Tryd.underlying9, a9 := Tryd.isAgg9, z9 := Tryd.sizeOf9, v9 := Tryd.zeroValue9, t20 := Tryd.underlying20, a20 := Tryd.isAgg20, z20 := Tryd.sizeOf20, v20 := Tryd.zeroValue20, t37 := Tryd.underlying32, a37 := Tryd.isAgg32, z37 := Tryd.sizeOf32, v37 := Tryd.zeroValue32, t70 := Tryd.underlying94, a70 := Tryd.isAgg94, z70 := Tryd.sizeOf94, v70 := Tryd.zeroValue94, t72 := Tryd.underlying96, a72 := Tryd.isAgg96, z72 := Tryd.sizeOf96, v72 := Tryd.zeroValue96, t75 := Tryd.underlying99, a75 := Tryd.isAgg99, z75 := Tryd.sizeOf99, v75 := Tryd.zeroValue99, t164 := Tryd.underlying108, a164 := Tryd.isAgg108, z164 := Tryd.sizeOf108, v164 := Tryd.zeroValue108 }
theorem lay169 : Lays.n169 Tryd.prog ren := { mixed := by kernel_rfl, f169 := Tryd.func47.trans (congrArg some (by kernel_rfl)), t0 := Tryd.underlying0, a0 := Tryd.isAgg0, z0 := Tryd.sizeOf0, v0 := Tryd.zeroValue0, t3 := Tryd.underlying3, a3 := Tryd.isAgg3, z3 := Tryd.sizeOf3, v3 := Tryd.zeroValue3, t9 := Tryd.underlying9, a9 := Tryd.isAgg9, z9 := Tryd.sizeOf9, v9 := Tryd.zeroValue9, t37 := Tryd.underlying32, a37 := Tryd.isAgg32, z37 := Tryd.sizeOf32, v37 := Tryd.zeroValue32, t70 := Tryd.underlying94, a70 := Tryd.isAgg94, z70 := Tryd.sizeOf94, v70 := Tryd.zeroValue94, t72 := Tryd.underlying96, a72 := Tryd.isAgg96, z72 := Tryd.sizeOf96, v72 := Tryd.zeroValue96, t127 := Tryd.underlying77, a127 := Tryd.isAgg77, z127 := Tryd.sizeOf77, v127 := Tryd.zeroValue77 }
-- 316 is not in this program
theorem layX : Builder.Extra Tryd.prog ren := { sizeBuilder := by kernel_rfl, liesBuilder := by kernel_rfl, t5 := Tryd.underlying5, a5 := Tryd.isAgg5, z5 := Tryd.sizeOf5, v5 := Tryd.zeroValue5, infoByte := by kernel_rfl, cellsByte := by kernel_rfl, sizeByte := by kernel_rfl, neB5 := by decide }

/-- Bytes as cells. -/
def cellsL (l : List Nat) : List Value := l.map fun n : Nat => Value.int .u8 (n : Int)
theorem cellsL_len (l : List Nat) : (cellsL l).length = l.length := by simp [cellsL]
theorem cellsL_append (l m : List Nat) : cellsL (l ++ m) = cellsL l ++ cellsL m := by simp [cellsL]
theorem cellsL_bytes {l : List Nat} (h : Bytes l) : Lib.byteCells (l.map fun n => UInt8.ofNat n) = cellsL l := by
  unfold Lib.byteCells cellsL
  rw [List.map_map]
  refine List.map_congr_left fun x hx => ?_
  have := h.all x hx
  simp
  omega
theorem cellsL_str {l : List Nat} (h : Bytes l) : Lib.strCells (strOf l) = cellsL l := by
  rw [Lib.strCells_eq, sa_data]
  exact cellsL_bytes h
theorem strOf_mk (l : List Nat) : (⟨(l.map fun n => UInt8.ofNat n).toArray⟩ : ByteArray) = strOf l := str_ext (by rw [sa_data])

/-- A builder of the call's own that holds these bytes. -/
def Bld (B b : Nat) (l : List Nat) (w : World) : Prop := Lib.IsBuilder 96 5 B b (cellsL l) w
theorem bGrow {B n : Nat} (w : World) (hB : B ≤ w.heap.size) (hn : n ≤ 281474976710656) :
    Calls Tryd.prog 44 #[.pointer (some ⟨w.heap.size, 0, none⟩), .int .i64 (n : Int)] (w.alloc (.cells #[.pointer none, .slice none 0 0] 96)) fun e w' => e = .returned (.tuple #[]) ∧ Bld B w.heap.size [] w' ∧ Below B w w' := by
  refine (Any.Builder_Grow_fresh lay165 layX B w.heap.size n _ hB (heap_alloc_new w _) (by simp; omega) hn).mono ?_
  rintro e w' ⟨rfl, h1, h2⟩
  exact ⟨rfl, .inr h1, ((Below.refl B w).alloc hB _).trans h2⟩
theorem bByte {B b c : Nat} {l : List Nat} {w : World} (h : Bld B b l w) (hl : l.length + 1 ≤ 140737488355328) (hB : B ≤ w.heap.size) :
    Calls Tryd.prog 45 #[.pointer (some ⟨b, 0, none⟩), .int .u8 (c : Int)] w fun e w' => e = .returned .nilIface ∧ Bld B b (l ++ [c]) w' ∧ Below B w w' := by
  refine (Any.Builder_WriteByte lay167 layX B b (cellsL l) (c : Int) w h (by rw [cellsL_len]; exact hl) hB).mono ?_
  rintro e w' ⟨rfl, h1, h2⟩
  exact ⟨rfl, by unfold Bld; rw [cellsL_append]; exact .inr h1, h2⟩
theorem bStr {B b : Nat} {l m : List Nat} {w : World} (h : Bld B b l w) (hm : Bytes m) (hl : l.length + m.length ≤ 140737488355328) (hB : B ≤ w.heap.size) :
    Calls Tryd.prog 46 #[.pointer (some ⟨b, 0, none⟩), .string (strOf m)] w fun e w' => (∃ n, e = .returned (.tuple #[n, .nilIface])) ∧ Bld B b (l ++ m) w' ∧ Below B w w' := by
  refine (Any.Builder_WriteString lay166 layX B b (cellsL l) (strOf m) w h (by rw [cellsL_len, strOf_size]; exact hl) hB).mono ?_
  rintro e w' ⟨rfl, h1, h2⟩
  exact ⟨⟨_, rfl⟩, by unfold Bld; rw [cellsL_append, ← cellsL_str hm]; exact .inr h1, h2⟩
theorem bString {B b : Nat} {l : List Nat} {w : World} (h : Bld B b l w) (hl : Bytes l) (hB : B ≤ w.heap.size) :
    Calls Tryd.prog 47 #[.pointer (some ⟨b, 0, none⟩)] w fun e w' => e = .returned (.string (strOf l)) ∧ Below B w w' := by
  refine (Any.Builder_String_any lay169 layX B b (l.map fun n => UInt8.ofNat n) w (by rw [cellsL_bytes hl]; exact h) hB).mono ?_
  rintro e w' ⟨rfl, h1⟩
  exact ⟨by rw [strOf_mk], h1⟩
end Go.Proofs.YtjkdonjcngmjeaaDoor.sh
/-
  Arguments that are strings, and slices of strings.
-/
namespace Go.Proofs.YtjkdonjcngmjeaaDoor.sh
open Go Go.ChangeShapes Go.WideShapes Go.ChangeAt Go.RowKit
set_option linter.unusedVariables false
set_option linter.unusedSimpArgs false

set_option maxRecDepth 100000 in
/-- A string among the arguments. -/
theorem open_str {H : Type} {enc : TypeId × Value → H} {W : World} {base : Nat} {sp : Nat → Bool} {held : Bool} {v : Value} {d : DataW H} {p : List MemPlace} {e : TypeId}
    (he : Tryd.prog.underlying e = some .string) (h1 : v.cells = #[v]) (h : DataW.Trod enc Tryd.prog W base sp held e v d p) : ∃ l : List Nat, v = .string (strOf l) ∧ Bytes l ∧ l.length ≤ maxLen := by
  obtain ⟨fuel, hf⟩ := h
  obtain ⟨s, e1, e2, hw⟩ := DataW.trod_string he hf
  rw [h1] at e1
  refine ⟨strL s, ?_, strL_bytes s, ?_⟩
  · rw [strOf_strL]
    simpa using e1
  · rw [show (strL s).length = s.size by rw [← strOf_size, strOf_strL]]
    exact hw
end Go.Proofs.YtjkdonjcngmjeaaDoor.sh
