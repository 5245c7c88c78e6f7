/-
  General pieces, joined: YH YI YJ YK YO YP YR XR XS SA SC.
-/
import Derived.Test.YtjkdonjcngmjeaaGreatDoorG20
import Derived.Deep.Strs
import Derived.Test.YtjkdonjcngmjeaaGreatDoorG17
import Derived.Test.YtjkdonjcngmjeaaGreatDoorG16
import Derived.Lib.AppendStr
import Derived.Test.YtjkdonjcngmjeaaGreatDoorG08
import Derived.Test.YtjkdonjcngmjeaaGreatDoorG11
import Derived.Test.YtjkdonjcngmjeaaGreatDoorG09
import Derived.Test.YtjkdonjcngmjeaaGreatDoorG10
import Derived.Test.YtjkdonjcngmjeaaGreatDoorG12
import Derived.Test.YtjkdonjcngmjeaaGreatDoorG13
import Derived.Test.YtjkdonjcngmjeaaGreatDoorG14
import Derived.Test.YtjkdonjcngmjeaaGreatDoorG15
import Derived.Test.YtjkdonjcngmjeaaGreatDoorG18
import Derived.Test.YtjkdonjcngmjeaaGreatDoorG19
import Derived.Laws.IdiomStrings
/-
  Texts compared, and the difference of two tags.
-/
namespace Go.Proofs.YtjkdonjcngmjeaaGreatDoor.sh
open Go Go.RowKit
set_option linter.unusedVariables false
set_option linter.unusedSimpArgs false

/-- What is gathered behind i bytes. -/
def orT (a b : List Nat) : Nat → Nat
  | 0 => 0
  | i + 1 => orT a b i ||| (a.getD i 0 ^^^ b.getD i 0)
theorem getD_lt {l : List Nat} (h : Bytes l) (i : Nat) : l.getD i 0 < 256 := by
  rw [List.getD_eq_getElem?_getD]
  cases hx : l[i]? with
  | none => decide
  | some x => exact h i x hx
theorem orT_lt {a b : List Nat} (ha : Bytes a) (hb : Bytes b) : ∀ i, orT a b i < 256
  | 0 => by simp [orT]
  | i + 1 => Nat.or_lt_two_pow (n := 8) (orT_lt ha hb i) (Nat.xor_lt_two_pow (n := 8) (getD_lt ha i) (getD_lt hb i))
theorem xor_zero (x y : Nat) : x ^^^ y = 0 ↔ x = y := by
  constructor
  · intro h
    have h2 : (x ^^^ y) ^^^ y = 0 ^^^ y := by rw [h]
    rw [Nat.xor_assoc, Nat.xor_self, Nat.xor_zero, Nat.zero_xor] at h2
    exact h2
  · rintro rfl; exact Nat.xor_self _
theorem orT_zero (a b : List Nat) : ∀ n, orT a b n = 0 ↔ ∀ i, i < n → a.getD i 0 = b.getD i 0
  | 0 => by simp [orT]
  | n + 1 => by
    simp only [orT, Nat.or_eq_zero_iff, xor_zero, orT_zero a b n]
    constructor
    · rintro ⟨h1, h2⟩ i hi
      by_cases h : i < n
      · exact h1 i h
      · rw [show i = n by omega]; exact h2
    · exact fun h => ⟨fun i hi => h i (by omega), h n (by omega)⟩
theorem orT_same (a b : List Nat) (h : a.length = b.length) : decide (orT a b a.length = 0) = decide (a = b) := by
  refine decide_eq_decide.2 ?_
  rw [orT_zero]
  constructor
  · intro hi
    apply List.ext_getElem?
    intro i
    by_cases h1 : i < a.length
    · have := hi i h1
      rw [List.getD_eq_getElem?_getD, List.getD_eq_getElem?_getD, List.getElem?_eq_getElem h1, List.getElem?_eq_getElem (by omega)] at this
      rw [List.getElem?_eq_getElem h1, List.getElem?_eq_getElem (by omega)]
      simpa using this
    · rw [List.getElem?_eq_none (by omega), List.getElem?_eq_none (by omega)]
  · rintro rfl i _; rfl
theorem run_orV {o : Oper} {a : Act} {x y : Operand} {m n z : Nat} (ho : o.op = .binOp .or 5 x y 5) (hx : a.eval x = .int .u8 (m : Int)) (hy : a.eval y = .int .u8 (n : Int)) (hm : m < 256) (hn : n < 256) (hz : z = m ||| n) (w : World) : (execOp a.eval o).run Tryz.prog w = .ok (.value (.int .u8 (z : Int))) w := by
  have h := u8_or_nat m n hm hn
  unfold execOp
  simp only [ho, hx, hy]
  simp [go_sem, h, hz]
theorem run_eq08 {o : Oper} {a : Act} {x : Operand} {m : Nat} (b : Bool) (ho : o.op = .binOp .eql 5 x (.const (.int .u8 0)) 5) (hx : a.eval x = .int .u8 (m : Int)) (hb : b = decide (m = 0)) (w : World) : (execOp a.eval o).run Tryz.prog w = .ok (.value (.bool b)) w := by
  have e3 : a.eval (.const (.int .u8 0)) = .int .u8 0 := rfl
  unfold execOp
  simp only [ho, hx, e3]
  rw [hb]
  simp [go_sem]
  refine decide_eq_decide.2 ?_
  omega

set_option maxRecDepth 100000 in
set_option maxHeartbeats 1000000 in
theorem EqualD (a b : List Nat) (v u : Value) (w : World) (hya : Bytes a) (hyb : Bytes b) (hv : BytesV v w a) (hu : BytesV u w b) (hlen : a.length ≤ 1000000) :
    Calls Tryz.prog 36 #[v, u] w fun e w' => e = .returned (.bool (decide (a = b))) ∧ Below w.heap.size w w' := by
  have KA : Kept _ := ⟨hya⟩
  have KB : Kept _ := ⟨hyb⟩
  obtain ⟨p, c, rfl, h1, h2⟩ := hv
  obtain ⟨q, d, rfl, h3, h4⟩ := hu
  obtain ⟨n, hn⟩ : ∃ n, n = a.length := ⟨_, rfl⟩
  obtain ⟨m, hm⟩ : ∃ n, n = b.length := ⟨_, rfl⟩
  obtain ⟨R, hR⟩ : ∃ R, R = decide (a = b) := ⟨_, rfl⟩
  rw [← hn, ← hm, ← hR]
  have CA : Kept (∀ i x : Nat, a[i]? = some x → ∃ A, p = some A ∧ w.cell? (A.add i) = some (.int .u8 (x : Int))) := ⟨fun i x hx => by
    obtain ⟨A, e1, _, e2⟩ := h2 (by intro e; rw [e] at hx; cases hx)
    exact ⟨A, e1, e2 i x hx⟩⟩
  have CB : Kept (∀ i x : Nat, b[i]? = some x → ∃ A, q = some A ∧ w.cell? (A.add i) = some (.int .u8 (x : Int))) := ⟨fun i x hx => by
    obtain ⟨A, e1, _, e2⟩ := h4 (by intro e; rw [e] at hx; cases hx)
    exact ⟨A, e1, e2 i x hx⟩⟩
  have EN : Kept _ := ⟨hn⟩
  have EM : Kept _ := ⟨hm⟩
  have nB : n ≤ 1000000 := by rw [hn]; exact hlen
  clear hlen
  by_cases hnm : n = m
  case neg =>
    have hnmi : ¬ (n : Int) = (m : Int) := by omega
    have e : R = false := by rw [hR]; exact decide_eq_false (fun e => hnm (by rw [hn, hm, e]))
    subst e
    clear hn hm hR h1 h2 h3 h4 hya hyb
    go_enter Tryz.func36, Tryz.ntmps36
    go_wp2_with fail
    go_ret
    exact ⟨rfl, Below.refl _ _⟩
  case pos =>
    subst hnm
    have ER : Kept (R = decide (orT a b n = 0)) := ⟨by rw [hR, hn, orT_same a b (by rw [← hn, ← hm])]⟩
    clear hn hm hR h1 h2 h3 h4 hya hyb
    go_enter Tryz.func36, Tryz.ntmps36
    go_wp2_with fail
    go_loopg [5, 15] n (fun k s5 s15 wr => ∃ i z : Nat, i + k = n ∧ s5 = .int .u8 (z : Int) ∧ s15 = .int .i64 (i : Int) ∧ Kept (z = orT a b i) ∧ wr = w)
    case atStart => exact ⟨0, 0, by omega, rfl, rfl, ⟨rfl⟩, rfl⟩
    case round =>
      obtain ⟨i, z, hik, rfl, rfl, Hz, hww⟩ := hrel
      obtain rfl := hww.symm
      by_cases hi : i < n
      case pos =>
        have hii : (i : Int) < (n : Int) := by omega
        obtain ⟨x, hx⟩ : ∃ x, a[i]? = some x := ⟨_, List.getElem?_eq_getElem (by have := EN.out; omega)⟩
        obtain ⟨y, hy⟩ : ∃ y, b[i]? = some y := ⟨_, List.getElem?_eq_getElem (by have := EM.out; omega)⟩
        obtain ⟨A, rfl, cA⟩ := CA.out i x hx
        obtain ⟨B, rfl, cB⟩ := CB.out i y hy
        have x8 : x < 256 := KA.out i x hx
        have y8 : y < 256 := KB.out i y hy
        have z8 : z < 256 := by rw [Hz.out]; exact orT_lt KA.out KB.out i
        obtain ⟨t, ht⟩ : ∃ t, t = x ^^^ y := ⟨_, rfl⟩
        have t8 : t < 256 := by rw [ht]; exact Nat.xor_lt_two_pow (n := 8) x8 y8
        obtain ⟨s, hs⟩ : ∃ s, s = z ||| t := ⟨_, rfl⟩
        have Hs : Kept (s = orT a b (i + 1)) := ⟨by rw [hs, ht, Hz.out]; simp only [orT, List.getD_eq_getElem?_getD, hx, hy, Option.getD_some]⟩
        have Et : Kept _ := ⟨ht⟩
        have Es : Kept _ := ⟨hs⟩
        have KcA : Kept _ := ⟨cA⟩
        have KcB : Kept _ := ⟨cB⟩
        clear ht hs hx hy cA cB Hz
        go_wp2_with (first | ((with_reducible refine wv_val (d := 18) ?hd ?hw (.pointer (some (A.add i))) ?hr ?_); (case hd => rfl); (case hw => kernel_rfl); (case hr => intro w; exact run_idxS rfl (by kernel_rfl) (by kernel_rfl) Tryz.underlying34 hi sz_u8 w); simp only [Act.put, List.setIfInBounds_toArray, List.set_cons_succ, List.set_cons_zero]) | ((with_reducible refine wv_elem (d := 19) ?hd ?hw 5 ag_u8 (.tmp 18) ?ho (A.add i) ?hx (.int .u8 (x : Int)) ?hc ?_); (case hd => rfl); (case hw => kernel_rfl); (case ho => rfl); (case hx => kernel_rfl); (case hc => exact KcA.out); simp only [Act.put, List.setIfInBounds_toArray, List.set_cons_succ, List.set_cons_zero]) | ((with_reducible refine wv_val (d := 24) ?hd ?hw (.pointer (some (B.add i))) ?hr ?_); (case hd => rfl); (case hw => kernel_rfl); (case hr => intro w; exact run_idxS rfl (by kernel_rfl) (by kernel_rfl) Tryz.underlying34 hi sz_u8 w); simp only [Act.put, List.setIfInBounds_toArray, List.set_cons_succ, List.set_cons_zero]) | ((with_reducible refine wv_elem (d := 25) ?hd ?hw 5 ag_u8 (.tmp 24) ?ho (B.add i) ?hx (.int .u8 (y : Int)) ?hc ?_); (case hd => rfl); (case hw => kernel_rfl); (case ho => rfl); (case hx => kernel_rfl); (case hc => exact KcB.out); simp only [Act.put, List.setIfInBounds_toArray, List.set_cons_succ, List.set_cons_zero]) | ((with_reducible refine wv_val (d := 26) ?hd ?hw (.int .u8 (t : Int)) ?hr ?_); (case hd => rfl); (case hw => kernel_rfl); (case hr => intro w; exact run_xorV rfl (by kernel_rfl) (by kernel_rfl) x8 y8 Et.out w); simp only [Act.put, List.setIfInBounds_toArray, List.set_cons_succ, List.set_cons_zero]) | ((with_reducible refine wv_val (d := 27) ?hd ?hw (.int .u8 (s : Int)) ?hr ?_); (case hd => rfl); (case hw => kernel_rfl); (case hr => intro w; exact run_orV rfl (by kernel_rfl) (by kernel_rfl) z8 t8 Es.out w); simp only [Act.put, List.setIfInBounds_toArray, List.set_cons_succ, List.set_cons_zero]))
        go_roundg (gk - 1)
        case measure => omega
        case rel => exact ⟨i + 1, s, by omega, rfl, by go_num, Hs, rfl⟩
      case neg =>
        have hii : ¬ (i : Int) < (n : Int) := by omega
        obtain rfl : n = i := by omega
        have Hb : Kept (R = decide (z = 0)) := ⟨by rw [ER.out, Hz.out]⟩
        clear ER Hz
        go_wp2_with (first | ((with_reducible refine wv_val (d := 30) ?hd ?hw (.bool R) ?hr ?_); (case hd => rfl); (case hw => kernel_rfl); (case hr => intro w; exact run_eq08 R rfl (by kernel_rfl) Hb.out w); simp only [Act.put, List.setIfInBounds_toArray, List.set_cons_succ, List.set_cons_zero]))
        go_ret
        exact ⟨rfl, Below.refl _ _⟩

end Go.Proofs.YtjkdonjcngmjeaaGreatDoor.sh
/-
  The answers that the document fixes for layer 6 are as they must be.
-/
namespace Go.Proofs.YtjkdonjcngmjeaaGreatDoor.sh
open Go Go.RowKit
set_option linter.unusedVariables false
set_option linter.unusedSimpArgs false

end Go.Proofs.YtjkdonjcngmjeaaGreatDoor.sh
/-
  TagBlocks and TagOne, walked.
-/
namespace Go.Proofs.YtjkdonjcngmjeaaGreatDoor.sh
open Go Go.RowKit
set_option linter.unusedVariables false
set_option linter.unusedSimpArgs false

end Go.Proofs.YtjkdonjcngmjeaaGreatDoor.sh
/-
  TagBits, walked.
-/
namespace Go.Proofs.YtjkdonjcngmjeaaGreatDoor.sh
open Go Go.RowKit
set_option linter.unusedVariables false
set_option linter.unusedSimpArgs false

end Go.Proofs.YtjkdonjcngmjeaaGreatDoor.sh
/-
  Arguments: sixteen bytes; two slices of bytes; two slices, a number of 16 bits and a byte.
-/
namespace Go.Proofs.YtjkdonjcngmjeaaGreatDoor.sh
open Go Go.ChangeShapes Go.WideShapes Go.ChangeAt Go.RowKit
set_option linter.unusedVariables false
set_option linter.unusedSimpArgs false

end Go.Proofs.YtjkdonjcngmjeaaGreatDoor.sh
/-
  Slices of ints that a call owns; the reference's carry.
-/
namespace Go.Proofs.YtjkdonjcngmjeaaGreatDoor.sh
open Go Go.RowKit
set_option linter.unusedVariables false
set_option linter.unusedSimpArgs false

/-- A slice of ints in a block of its own. -/
def OI (base g n cap : Nat) (l : List Nat) (w : World) : Prop := base ≤ g ∧ l.length = n ∧ n ≤ cap ∧ cap ≤ maxLen ∧ ∃ cur, Blk w g 3 cur ∧ cur.size = cap ∧ ∀ (i x : Nat), l[i]? = some x → cur[i]? = some (.int .i64 (x : Int))
theorem OI.len {base g n cap : Nat} {l : List Nat} {w : World} (h : OI base g n cap l w) : l.length = n := h.2.1
theorem OI.lt {base g n cap : Nat} {l : List Nat} {w : World} (h : OI base g n cap l w) : g < w.heap.size := by obtain ⟨_, _, _, _, cur, hB, _⟩ := h; exact hB.lt
theorem OI.cell {base g n cap : Nat} {l : List Nat} {w : World} (h : OI base g n cap l w) {i x : Nat} (hx : l[i]? = some x) : w.cell? ⟨g, i, none⟩ = some (.int .i64 (x : Int)) := by
  obtain ⟨_, _, _, _, cur, hB, _, hc⟩ := h
  exact hB.cell (hc i x hx)
theorem OI.under {base g n cap : Nat} {l : List Nat} {w w' : World} (h : OI base g n cap l w) (hb : Below w.heap.size w w') : OI base g n cap l w' := by
  obtain ⟨h1, h2, h3, h4, cur, hB, hs, hc⟩ := h
  exact ⟨h1, h2, h3, h4, cur, hB.under hb, hs, hc⟩
theorem OI.alloc {base g n cap : Nat} {l : List Nat} {w : World} (h : OI base g n cap l w) (o : Obj) : OI base g n cap l (w.alloc o) := by
  obtain ⟨h1, h2, h3, h4, cur, hB, hs, hc⟩ := h
  exact ⟨h1, h2, h3, h4, cur, hB.alloc o, hs, hc⟩
theorem OI.put {base g n cap k : Nat} {l : List Nat} {w w' : World} (h : OI base g n cap l w) (hp : Put w w' k) (hne : g ≠ k) : OI base g n cap l w' := by
  obtain ⟨h1, h2, h3, h4, cur, hB, hs, hc⟩ := h
  exact ⟨h1, h2, h3, h4, cur, hp.blk hB hne, hs, hc⟩
theorem OI.mono {base b' g n cap : Nat} {l : List Nat} {w : World} (h : OI base g n cap l w) (hb : b' ≤ base) : OI b' g n cap l w := ⟨Nat.le_trans hb h.1, h.2⟩
theorem OI.ints {base g n cap : Nat} {l : List Nat} {w : World} (h : OI base g n cap l w) : IntsV .i64 (.slice (some ⟨g, 0, none⟩) n cap) w l := by
  have hl := h.len
  subst hl
  refine ⟨some ⟨g, 0, none⟩, cap, rfl, h.2.2.1, fun _ => ⟨⟨g, 0, none⟩, rfl, h.lt, fun j x hx => ?_⟩⟩
  rw [addr_add, Nat.zero_add]
  exact h.cell hx
theorem OI.holds {base g n cap : Nat} {l : List Nat} {w : World} (h : OI base g n cap l w) : Holds w g l :=
  ⟨h.lt, fun j hj => h.cell (by rw [List.getD_eq_getElem?_getD, List.getElem?_eq_getElem hj]; rfl)⟩
section
variable {ops : Array Oper} {rest : List Oper} {o : Oper} {a : Act} {w : World} {Q : Exit → Act → World → Prop}
end
end Go.Proofs.YtjkdonjcngmjeaaGreatDoor.sh
/-
  What the reference's Sum wants, as plain numbers; its single operations.
-/
namespace Go.Proofs.YtjkdonjcngmjeaaGreatDoor.sh
open Go Go.RowKit
set_option linter.unusedVariables false
set_option linter.unusedSimpArgs false

end Go.Proofs.YtjkdonjcngmjeaaGreatDoor.sh
/-
  The reference's block: pieces.
-/
namespace Go.Proofs.YtjkdonjcngmjeaaGreatDoor.sh
open Go Go.RowKit
set_option linter.unusedVariables false
set_option linter.unusedSimpArgs false

theorem app_below {w0 w w' : World} {v : Value} {B : Nat} {e : TypeId} {k : IntKind} {l : List Nat} (h : Below B w0 w) (hB : B ≤ w.heap.size) (hr : Row B e k l v w) (hg : w.grownBy w' (blkOf v)) : Below B w0 w' := h.trans (grown_mono hg hB (fun b hb => (hr.range b hb).1))
theorem run_addN {o : Oper} {a : Act} {x y : Operand} {i j z : Nat} (ho : o.op = .binOp .add 3 x y 3) (hx : a.eval x = .int .i64 (i : Int)) (hy : a.eval y = .int .i64 (j : Int)) (hz : z = i + j) (hi : z < 4611686018427387904) (w : World) : (execOp a.eval o).run Tryz.prog w = .ok (.value (.int .i64 (z : Int))) w := by
  subst hz
  exact run_addV ho hx hy hi w
end Go.Proofs.YtjkdonjcngmjeaaGreatDoor.sh
/-
  The reference: bytes turned by blocks.
-/
namespace Go.Proofs.YtjkdonjcngmjeaaGreatDoor.sh
open Go Go.RowKit
set_option linter.unusedVariables false
set_option linter.unusedSimpArgs false

end Go.Proofs.YtjkdonjcngmjeaaGreatDoor.sh
/-
  Strings as lists of bytes: length, bytes, parts, joined, compared, turned into bytes.
-/
namespace Go.Proofs.YtjkdonjcngmjeaaGreatDoor.sh
open Go Go.RowKit
set_option linter.unusedVariables false
set_option linter.unusedSimpArgs false

/-- The bytes of a string. -/
def strL (s : ByteArray) : List Nat := s.data.toList.map (·.toNat)
theorem strL_bytes (s : ByteArray) : Bytes (strL s) := bytes_of_all (fun x hx => by
  unfold strL at hx
  obtain ⟨u, _, rfl⟩ := List.mem_map.1 hx
  exact u.toNat_lt)
theorem sa_fold : ∀ (l : List Nat) (b : ByteArray), ((l.map fun n : Nat => (n : Int)).foldl (fun r n => r.push (UInt8.ofNat n.toNat)) b).data.toList = b.data.toList ++ l.map (fun n => UInt8.ofNat n)
  | [], b => by simp
  | x :: l, b => by
    rw [List.map_cons, List.foldl_cons, sa_fold l]
    simp [ByteArray.push]
theorem sa_data (l : List Nat) : (strOf l).data.toList = l.map (fun n => UInt8.ofNat n) := by
  unfold strOf
  rw [sa_fold]
  rfl
theorem str_ext {s t : ByteArray} (h : s.data.toList = t.data.toList) : s = t := by
  cases s; cases t
  simp only at h
  congr 1
  exact Array.toList_inj.1 h
theorem strOf_strL (s : ByteArray) : strOf (strL s) = s := by
  refine str_ext ?_
  rw [sa_data]
  unfold strL
  rw [List.map_map]
  conv => rhs; rw [← List.map_id s.data.toList]
  exact List.map_congr_left fun x _ => by simp
theorem strL_strOf {l : List Nat} (h : Bytes l) : strL (strOf l) = l := by
  unfold strL
  rw [sa_data, List.map_map]
  conv => rhs; rw [← List.map_id l]
  refine List.map_congr_left fun x hx => ?_
  have := h.all x hx
  simp
  omega
theorem strOf_size (l : List Nat) : (strOf l).size = l.length := by
  show (strOf l).data.size = _
  rw [← Array.length_toList, sa_data, List.length_map]
theorem strOf_append (l m : List Nat) : strOf l ++ strOf m = strOf (l ++ m) := by
  refine str_ext ?_
  rw [sa_data, List.map_append, ← sa_data, ← sa_data, ByteArray.data_append, Array.toList_append]
theorem strOf_extract (l : List Nat) (a b : Nat) : (strOf l).extract a b = strOf ((l.take b).drop a) := by
  refine str_ext ?_
  rw [sa_data, ByteArray.data_extract, Array.toList_extract, sa_data, List.extract_eq_take_drop, ← List.map_drop, ← List.map_take, List.drop_take]
theorem strOf_get (l : List Nat) (i : Nat) : (strOf l)[i]? = (l[i]?).map (fun n => UInt8.ofNat n) := by
  rw [← List.getElem?_map, ← sa_data, Array.getElem?_toList]
  rfl
theorem strOf_same {l m : List Nat} (hl : Bytes l) (hm : Bytes m) (h : strOf l = strOf m) : l = m := by
  rw [← strL_strOf hl, h, strL_strOf hm]
theorem sa_beq {l m : List Nat} (hl : Bytes l) (hm : Bytes m) : ((strOf l).toList == (strOf m).toList) = decide (l = m) := by
  by_cases h : l = m
  · rw [h]; simp
  · rw [decide_eq_false h]
    refine beq_eq_false_iff_ne.2 (fun e => h (strOf_same hl hm (str_ext ?_)))
    rw [ByteArray.toList_eq, ByteArray.toList_eq] at e
    exact e
/-- One text is less than another one. -/
def lessL : List Nat → List Nat → Bool
  | _, [] => false
  | [], _ :: _ => true
  | a :: x, b :: y => decide (a < b) || (decide (a = b) && lessL x y)
theorem less_map : ∀ (l m : List Nat), (∀ x ∈ l, x < 256) → (∀ x ∈ m, x < 256) → Op.bytesLess (l.map fun n => UInt8.ofNat n) (m.map fun n => UInt8.ofNat n) = lessL l m
  | [], [], _, _ => rfl
  | _ :: _, [], _, _ => rfl
  | [], _ :: _, _, _ => rfl
  | a :: x, b :: y, hl, hm => by
    have ha := hl a List.mem_cons_self
    have hb := hm b List.mem_cons_self
    have ih := less_map x y (fun z hz => hl z (List.mem_cons_of_mem _ hz)) (fun z hz => hm z (List.mem_cons_of_mem _ hz))
    simp only [List.map_cons, Op.bytesLess, lessL, ih]
    have e1 : decide (UInt8.ofNat a < UInt8.ofNat b) = decide (a < b) := decide_eq_decide.2 (by rw [UInt8.lt_iff_toNat_lt]; simp; omega)
    have e2 : (UInt8.ofNat a == UInt8.ofNat b) = decide (a = b) := by
      by_cases h : a = b
      · subst h; simp
      · rw [decide_eq_false h]
        refine beq_eq_false_iff_ne.2 (fun e => h ?_)
        have := congrArg UInt8.toNat e
        simp at this
        omega
    rw [e1, e2]
theorem sa_less {l m : List Nat} (hl : Bytes l) (hm : Bytes m) : Op.bytesLess (strOf l).toList (strOf m).toList = lessL l m := by
  rw [ByteArray.toList_eq, ByteArray.toList_eq, sa_data, sa_data]
  exact less_map l m hl.all hm.all

theorem run_sidx {o : Oper} {a : Act} {x y : Operand} {l : List Nat} {i z : Nat} (ho : o.op = .index 9 x y) (hx : a.eval x = .string (strOf l)) (hy : a.eval y = .int .i64 (i : Int)) (hl : Bytes l) (hz : l[i]? = some z) (w : World) : (execOp a.eval o).run Tryz.prog w = .ok (.value (.int .u8 (z : Int))) w := by
  have hz8 := hl i z hz
  have h1 : (strOf l)[i]? = some (UInt8.ofNat z) := by rw [strOf_get, hz]; rfl
  have h2 : ((UInt8.ofNat z).toNat : Int) = (z : Int) := by simp; omega
  unfold execOp
  simp only [ho, hx, hy]
  simp [asIntOf, run_underlying str_u, go_sem, Instr.index, h1, h2]
  omega
theorem run_scutF {o : Oper} {a : Act} {x y : Operand} {l m : List Nat} {i : Nat} (ho : o.op = .slice 9 x (some y) none none) (hx : a.eval x = .string (strOf l)) (hy : a.eval y = .int .i64 (i : Int)) (hi : i ≤ l.length) (hm : m = l.drop i) (w : World) : (execOp a.eval o).run Tryz.prog w = .ok (.value (.string (strOf m))) w := by
  have h3 : i ≤ (strOf l).size := by rw [strOf_size]; exact hi
  have h2 : ((i : Int) ≤ ((strOf l).size : Int)) := by omega
  unfold execOp
  simp only [ho, hx, hy, Option.map_none, Option.map_some, Instr.sliceAt, Instr.slice, Instr.sliceBounds, Sem.run_bind, run_underlying str_u, Result.andThen_ok]
  simp [Instr.sliceBound, asIntOf, go_sem, h2, h3]
  rw [hm, strOf_size, strOf_extract, List.take_length]
theorem run_scutT {o : Oper} {a : Act} {x z : Operand} {l m : List Nat} {j : Nat} (ho : o.op = .slice 9 x none (some z) none) (hx : a.eval x = .string (strOf l)) (hz : a.eval z = .int .i64 (j : Int)) (hj : j ≤ l.length) (hm : m = l.take j) (w : World) : (execOp a.eval o).run Tryz.prog w = .ok (.value (.string (strOf m))) w := by
  have h3 : j ≤ (strOf l).size := by rw [strOf_size]; exact hj
  have h2 : ((j : Int) ≤ ((strOf l).size : Int)) := by omega
  unfold execOp
  simp only [ho, hx, hz, Option.map_none, Option.map_some, Instr.sliceAt, Instr.slice, Instr.sliceBounds, Sem.run_bind, run_underlying str_u, Result.andThen_ok]
  simp [Instr.sliceBound, asIntOf, go_sem, h2, h3]
  rw [hm, strOf_extract, List.drop_zero]
theorem run_scat {o : Oper} {a : Act} {x y : Operand} {l m k : List Nat} (ho : o.op = .binOp .add 9 x y 9) (hx : a.eval x = .string (strOf l)) (hy : a.eval y = .string (strOf m)) (hn : l.length + m.length < 4611686018427387904) (hk : k = l ++ m) (w : World) : (execOp a.eval o).run Tryz.prog w = .ok (.value (.string (strOf k))) w := by
  have h1 : ¬ (((strOf l).size + (strOf m).size : Nat) : Int) > IntKind.i64.max := by rw [strOf_size, strOf_size, show IntKind.i64.max = 9223372036854775807 from rfl]; omega
  unfold execOp
  simp only [ho, hx, hy]
  simp [go_sem, Op.stringOp, h1]
  rw [if_neg (by simpa using h1), hk, ← strOf_append]
theorem run_seq {o : Oper} {a : Act} {x y : Operand} {u : TypeId} {l m : List Nat} {b : Bool} (ho : o.op = .binOp .eql 9 x y u) (hx : a.eval x = .string (strOf l)) (hy : a.eval y = .string (strOf m)) (hl : Bytes l) (hm : Bytes m) (hb : b = decide (l = m)) (w : World) : (execOp a.eval o).run Tryz.prog w = .ok (.value (.bool b)) w := by
  have e := sa_beq hl hm
  unfold execOp
  simp only [ho, hx, hy]
  rw [hb, ← e]
  simp [go_sem]
theorem run_sneq {o : Oper} {a : Act} {x y : Operand} {u : TypeId} {l m : List Nat} {b : Bool} (ho : o.op = .binOp .neq 9 x y u) (hx : a.eval x = .string (strOf l)) (hy : a.eval y = .string (strOf m)) (hl : Bytes l) (hm : Bytes m) (hb : b = !decide (l = m)) (w : World) : (execOp a.eval o).run Tryz.prog w = .ok (.value (.bool b)) w := by
  have e := sa_beq hl hm
  unfold execOp
  simp only [ho, hx, hy]
  rw [hb, ← e]
  simp [go_sem]
theorem run_slen {o : Oper} {a : Act} {x : Operand} {l : List Nat} {n : Nat} (ho : o.op = .call { callee := .builtin .len, args := #[x], argTypes := #[9] }) (hx : a.eval x = .string (strOf l)) (hn : n = l.length) (w : World) : (execOp a.eval o).run Tryz.prog w = .ok (.value (.int .i64 (n : Int))) w := by
  unfold execOp
  simp only [ho, resolve, invoke, builtin, Sem.run_bind, Sem.run_pure, Result.andThen_ok, List.map_toArray, List.map_cons, List.map_nil, hx]
  simp [Builtin.len_, run_underlying str_u, goInt, go_sem, strOf_size, hn]
end Go.Proofs.YtjkdonjcngmjeaaGreatDoor.sh
/-
  Slices whose elements have one cell each, whatever they are: read, owned, appended to; slices of strings.
-/
namespace Go.Proofs.YtjkdonjcngmjeaaGreatDoor.sh
open Go Go.RowKit
set_option linter.unusedVariables false
set_option linter.unusedSimpArgs false

/-- Values, of one cell each, that a slice holds. -/
def ValsV (v : Value) (w : World) (vs : List Value) : Prop := ∃ p c, v = .slice p vs.length c ∧ vs.length ≤ c ∧ (vs ≠ [] → ∃ A, p = some A ∧ A.block < w.heap.size ∧ ∀ (j : Nat) (x : Value), vs[j]? = some x → w.cell? (A.add j) = some x)
theorem ValsV.below {v : Value} {w w' : World} {vs : List Value} {B : Nat} (h : ValsV v w vs) (hB : ∀ b, blkOf v = some b → b < B) (hb : Below B w w') : ValsV v w' vs := by
  obtain ⟨p, c, rfl, h2, h3⟩ := h
  refine ⟨p, c, rfl, h2, fun hne => ?_⟩
  obtain ⟨A, rfl, e2, e3⟩ := h3 hne
  exact ⟨A, rfl, Nat.lt_of_lt_of_le e2 hb.size, fun j x hx => by rw [hb.cell (by rw [add_block]; exact hB _ rfl)]; exact e3 j x hx⟩
theorem ValsV.under {v : Value} {w w' : World} {vs : List Value} (h : ValsV v w vs) (hb : Below w.heap.size w w') : ValsV v w' vs := by
  obtain ⟨p, c, rfl, hlc, hp⟩ := h
  refine ⟨p, c, rfl, hlc, fun hne => ?_⟩
  obtain ⟨A, rfl, hA, hc⟩ := hp hne
  exact ⟨A, rfl, Nat.lt_of_lt_of_le hA hb.size, fun j x hx => (hb.cell (by rw [add_block]; exact hA)).trans (hc j x hx)⟩
theorem vals_nil (w : World) : ValsV (.slice none 0 0) w [] := ⟨none, 0, rfl, Nat.le_refl _, fun h => absurd rfl h⟩
theorem vals_form {v : Value} {w : World} {vs : List Value} {n : Nat} (h : ValsV v w vs) (hn : vs.length = n) : ∃ p c, v = .slice p n c ∧ n ≤ c := by
  obtain ⟨p, c, rfl, h2, _⟩ := h
  exact ⟨p, c, by rw [hn], by omega⟩
theorem vals_at {p : Option Addr} {n c : Nat} {w : World} {vs : List Value} (h : ValsV (.slice p n c) w vs) {i : Nat} {x : Value} (hx : vs[i]? = some x) : ∃ A, p = some A ∧ A.block < w.heap.size ∧ w.cell? (A.add i) = some x := by
  obtain ⟨p', c', e1, _, e3⟩ := h
  cases e1
  obtain ⟨A, e4, e6, e5⟩ := e3 (by intro e; rw [e] at hx; cases hx)
  exact ⟨A, e4, e6, e5 i x hx⟩
/-- The same, in a block that the call owns. -/
def VRow (base : Nat) (e : TypeId) (vs : List Value) : Value → World → Prop := fun v w => w.ownsRow base e 1 v vs.length vs
theorem vrow_blk {base : Nat} {e : TypeId} {vs : List Value} {v : Value} {w : World} (h : VRow base e vs v w) : v.ownBlock = blkOf v := by
  rcases h.2 with ⟨rfl, _⟩ | ⟨g, cap, cur, rfl, _⟩ <;> rfl
theorem VRow.keeps {base : Nat} {e : TypeId} {vs : List Value} {v : Value} {w w' : World} {row : Option Nat} (h : VRow base e vs v w) (hg : w.grownBy w' row) (hne : blkOf v = none ∨ blkOf v ≠ row) : VRow base e vs v w' := by
  obtain ⟨h1, h2⟩ := h
  refine ⟨h1, ?_⟩
  rcases h2 with h | ⟨g, cap, cur, rfl, hb, hgt, r⟩
  · exact .inl h
  · refine .inr ⟨g, cap, cur, rfl, hb, ?_, r⟩
    have hlt : g < w.heap.size := (Array.getElem?_eq_some_iff.1 hgt).1
    rw [hg.block g hlt (fun e => by
      rcases hne with h | h
      · cases h
      · exact h e)]
    exact hgt
theorem VRow.mono {base b' : Nat} {e : TypeId} {vs : List Value} {v : Value} {w : World} (h : VRow base e vs v w) (hb : b' ≤ base) : VRow b' e vs v w := by
  obtain ⟨h1, h2⟩ := h
  refine ⟨h1, ?_⟩
  rcases h2 with h | ⟨g, cap, cur, a, b, c⟩
  · exact .inl h
  · exact .inr ⟨g, cap, cur, a, Nat.le_trans hb b, c⟩
theorem VRow.range {base : Nat} {e : TypeId} {vs : List Value} {v : Value} {w : World} (h : VRow base e vs v w) : ∀ b, blkOf v = some b → base ≤ b ∧ b < w.heap.size := fun b hb => h.lt b (by rw [vrow_blk h]; exact hb)
theorem VRow.under {base : Nat} {e : TypeId} {vs : List Value} {v : Value} {w w' : World} (h : VRow base e vs v w) (hb : Below w.heap.size w w') : VRow base e vs v w' := h.keeps (grown_under hb) (ne_none v)
theorem VRow.alloc {base : Nat} {e : TypeId} {vs : List Value} {v : Value} {w : World} (h : VRow base e vs v w) (o : Obj) : VRow base e vs v (w.alloc o) := World.ownsRow.alloc h o
theorem vrow_nil (w : World) (base : Nat) (e : TypeId) : VRow base e [] (.slice none 0 0) w := World.ownsRow_nil w base e 1
theorem vrow_lit {base : Nat} {e : TypeId} (w : World) (A : Array Value) (n : Nat) (hn : A.size = n) (hb : base ≤ w.heap.size) (hm : n ≤ maxLen) : VRow base e A.toList (.slice (some ⟨w.heap.size, 0, none⟩) n n) (w.alloc (.cells A e)) := by
  subst hn
  unfold VRow
  rw [Array.length_toList]
  refine ⟨by simp, .inr ⟨w.heap.size, A.size, A, rfl, hb, heap_new w _, Nat.le_refl _, hm, by omega, ?_⟩⟩
  rw [Nat.mul_one, List.take_of_length_le (by simp)]
theorem vrow_vals {base : Nat} {e : TypeId} {vs : List Value} {v : Value} {w : World} (h : VRow base e vs v w) : ValsV v w vs := by
  rcases h.2 with ⟨rfl, h0⟩ | ⟨g, cap, cur, rfl, hb, hg, hn, hm, hs, ht⟩
  · have : vs = [] := List.eq_nil_of_length_eq_zero h0
    subst this
    exact vals_nil w
  · refine ⟨_, cap, rfl, hn, fun _ => ⟨_, rfl, (Array.getElem?_eq_some_iff.1 hg).1, fun j x hx => ?_⟩⟩
    rw [addr_add, Nat.zero_add]
    refine cell_row hg ?_
    have hj : j < vs.length := (List.getElem?_eq_some_iff.1 hx).1
    have h3 : (cur.toList.take (vs.length * 1))[j]? = vs[j]? := by rw [ht]
    rw [List.getElem?_take_of_lt (by omega), hx, Array.getElem?_toList] at h3
    exact h3
theorem appV_run {P : Program} {t ty e : TypeId} {z : Value} {bytes : Nat} (ht : P.underlying t = some (.slice e)) (hi : (P.info? e).map (fun i => (i.zero, i.size, i.bytes)) = some (some z, 1, bytes)) (hz : z.cells.size = 1) {base : Nat} {l m : List Value} {v u : Value} {w : World} (hown : VRow base e l v w) (hx : ValsV u w m) (h1 : ∀ x ∈ m, x.oneCell' = true) (hn : l.length + m.length ≤ 1099511627776) (hby : bytes ≤ 64) (hbase : base ≤ w.heap.size) :
    ∃ v' w', (Builtin.append_ #[t, t] ty #[v, u]).run P w = .ok v' w' ∧ VRow base e (l ++ m) v' w' ∧ w.grownBy w' (blkOf v) ∧ (blkOf v' = blkOf v ∨ blkOf v' = some w.heap.size) := by
  cases hq : P.info? e with
  | none => rw [hq] at hi; cases hi
  | some i0 =>
  rw [hq] at hi
  simp only [Option.map_some, Option.some.injEq, Prod.mk.injEq] at hi
  obtain ⟨hz0, hz1, hz2⟩ := hi
  obtain ⟨p, c, rfl, h2, h3⟩ := hx
  have hbl := vrow_blk hown
  have hmax : l.length + m.length ≤ maxLen := by unfold maxLen; omega
  have hbb : (l.length + m.length) * bytes ≤ 140737488355328 := Nat.le_trans (Nat.mul_le_mul hn hby) (by decide)
  cases p with
  | none =>
    have hm0 : m = [] := by
      cases m with
      | nil => rfl
      | cons x r => obtain ⟨A, h, _⟩ := h3 (by simp); cases h
    subst hm0
    refine ⟨v, w, ?_, by rw [List.append_nil]; exact hown, ⟨rfl, rfl, rfl, Nat.le_refl _, fun _ _ _ => rfl⟩, .inl rfl⟩
    rcases hown.2 with ⟨rfl, h0⟩ | ⟨g, cap, cur, rfl, _, _, hnc, _⟩
    · simp [Builtin.append_, run_underlying ht, sizeOf, typeInfo, hq, Builtin.lenOf, Builtin.firstCells, h0]
    · simp [Builtin.append_, run_underlying ht, sizeOf, typeInfo, hq, Builtin.lenOf, Builtin.firstCells, hnc, storeCells]
  | some A =>
    obtain ⟨v', w', h4, h5, h6, _, h8⟩ := run_append_own_at (P := P) w base t ty e i0 z 1 bytes ht hq hz0 hz1 hz2 hz (by decide) v l.length l hown A m.length c m (by simp) (by
      intro j y hj
      obtain ⟨A', e1, _, e3⟩ := h3 (by intro e; rw [e] at hj; simp at hj)
      cases e1
      exact e3 j y hj) h1 hmax hbb hbase
    have hrow : VRow base e (l ++ m) v' w' := by unfold VRow; rw [List.length_append]; exact h5
    rw [vrow_blk hrow, hbl] at h8
    exact ⟨v', w', h4, hrow, by rw [← hbl]; exact h6, h8⟩
/-- 'append' in a plain region. -/
theorem wl_appV {ops : Array Oper} {rest : List Oper} {o : Oper} {a : Act} {w : World} {Q : Exit → Act → World → Prop} (hw : Region.wanted o (yielded ops a.tmps) = true) (s x : Operand) (t e : TypeId) (z : Value) (bytes : Nat) (ho : o.op = .call { callee := .builtin .append, args := #[s, x], argTypes := #[t, t] }) (ht : Tryz.prog.underlying t = some (.slice e)) (hi : (Tryz.prog.info? e).map (fun i => (i.zero, i.size, i.bytes)) = some (some z, 1, bytes)) (hz : z.cells.size = 1) (hby : bytes ≤ 64) (base : Nat) (l m : List Value) (v u : Value) (hs : a.eval s = v) (hx : a.eval x = u) (hv : VRow base e l v w) (hu : ValsV u w m) (h1 : ∀ x ∈ m, x.oneCell' = true) (hn : l.length + m.length ≤ 1099511627776) (hbase : base ≤ w.heap.size)
    (hk : ∀ v' w', VRow base e (l ++ m) v' w' → w.grownBy w' (blkOf v) → (blkOf v' = blkOf v ∨ blkOf v' = some w.heap.size) → wpList Tryz.prog ops Q rest (a.put o.dst v') w') : wpList Tryz.prog ops Q (o :: rest) a w :=
  BigFrame.wpList_want hw fun K hK => by
    obtain ⟨v', w', h4, h5, h6, h7⟩ := appV_run (ty := o.type) ht hi hz hv hu h1 hn hby hbase
    unfold Oper.wp execOp
    simp only [ho, resolve, invoke, builtin, Sem.run_bind, Sem.run_pure, Result.andThen_ok, List.map_toArray, List.map_cons, List.map_nil, hs, hx, h4]
    exact hK _ _ (hk v' w' h5 h6 h7)
/-- Strings as values. -/
def strs (ll : List (List Nat)) : List Value := ll.map fun l => .string (strOf l)
theorem strs_len (ll : List (List Nat)) : (strs ll).length = ll.length := by simp [strs]
theorem strs_get {ll : List (List Nat)} {i : Nat} {l : List Nat} (h : ll[i]? = some l) : (strs ll)[i]? = some (.string (strOf l)) := by unfold strs; rw [List.getElem?_map, h]; rfl
theorem strs_append (ll mm : List (List Nat)) : strs (ll ++ mm) = strs ll ++ strs mm := by simp [strs]
end Go.Proofs.YtjkdonjcngmjeaaGreatDoor.sh
