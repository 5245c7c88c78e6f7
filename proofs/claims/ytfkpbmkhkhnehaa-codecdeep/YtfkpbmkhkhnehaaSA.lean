/-
  Strings as lists of bytes: length, bytes, parts, joined, compared, turned into bytes.
-/
import Derived.Test.YtfkpbmkhkhnehaaBase
import Derived.Laws.IdiomStrings
namespace Go.Proofs.Ytfkpbmkhkhnehaa.sh
open Go Go.RowKit
set_option linter.unusedVariables false
set_option linter.unusedSimpArgs false

/-- The bytes of a string. -/
def strL (s : ByteArray) : List Nat := s.data.toList.map (·.toNat)
theorem strL_bytes (s : ByteArray) : Bytes (strL s) := bytes_of_all (fun x hx => by
  unfold strL at hx
  obtain ⟨u, _, rfl⟩ := List.mem_map.1 hx
  exact u.toNat_lt)
theorem sa_fold : ∀ (l : List Nat) (b : ByteArray), ((l.map fun n : Nat => (n : Int)).foldl (fun r n => r.push (UInt8.ofNat n.toNat)) b).data.toList = b.data.toList ++ l.map (fun n => UInt8.ofNat n)
  | [], b => by simp
  | x :: l, b => by
    rw [List.map_cons, List.foldl_cons, sa_fold l]
    simp [ByteArray.push]
theorem sa_data (l : List Nat) : (strOf l).data.toList = l.map (fun n => UInt8.ofNat n) := by
  unfold strOf
  rw [sa_fold]
  rfl
theorem str_ext {s t : ByteArray} (h : s.data.toList = t.data.toList) : s = t := by
  cases s; cases t
  simp only at h
  congr 1
  exact Array.toList_inj.1 h
theorem strOf_strL (s : ByteArray) : strOf (strL s) = s := by
  refine str_ext ?_
  rw [sa_data]
  unfold strL
  rw [List.map_map]
  conv => rhs; rw [← List.map_id s.data.toList]
  exact List.map_congr_left fun x _ => by simp
theorem strL_strOf {l : List Nat} (h : Bytes l) : strL (strOf l) = l := by
  unfold strL
  rw [sa_data, List.map_map]
  conv => rhs; rw [← List.map_id l]
  refine List.map_congr_left fun x hx => ?_
  have := h.all x hx
  simp
  omega
theorem strOf_size (l : List Nat) : (strOf l).size = l.length := by
  show (strOf l).data.size = _
  rw [← Array.length_toList, sa_data, List.length_map]
theorem strOf_append (l m : List Nat) : strOf l ++ strOf m = strOf (l ++ m) := by
  refine str_ext ?_
  rw [sa_data, List.map_append, ← sa_data, ← sa_data, ByteArray.data_append, Array.toList_append]
theorem strOf_extract (l : List Nat) (a b : Nat) : (strOf l).extract a b = strOf ((l.take b).drop a) := by
  refine str_ext ?_
  rw [sa_data, ByteArray.data_extract, Array.toList_extract, sa_data, List.extract_eq_take_drop, ← List.map_drop, ← List.map_take, List.drop_take]
theorem strOf_get (l : List Nat) (i : Nat) : (strOf l)[i]? = (l[i]?).map (fun n => UInt8.ofNat n) := by
  rw [← List.getElem?_map, ← sa_data, Array.getElem?_toList]
  rfl
theorem strOf_same {l m : List Nat} (hl : Bytes l) (hm : Bytes m) (h : strOf l = strOf m) : l = m := by
  rw [← strL_strOf hl, h, strL_strOf hm]
theorem sa_beq {l m : List Nat} (hl : Bytes l) (hm : Bytes m) : ((strOf l).toList == (strOf m).toList) = decide (l = m) := by
  by_cases h : l = m
  · rw [h]; simp
  · rw [decide_eq_false h]
    refine beq_eq_false_iff_ne.2 (fun e => h (strOf_same hl hm (str_ext ?_)))
    rw [ByteArray.toList_eq, ByteArray.toList_eq] at e
    exact e
/-- One text is less than another one. -/
def lessL : List Nat → List Nat → Bool
  | _, [] => false
  | [], _ :: _ => true
  | a :: x, b :: y => decide (a < b) || (decide (a = b) && lessL x y)
theorem less_map : ∀ (l m : List Nat), (∀ x ∈ l, x < 256) → (∀ x ∈ m, x < 256) → Op.bytesLess (l.map fun n => UInt8.ofNat n) (m.map fun n => UInt8.ofNat n) = lessL l m
  | [], [], _, _ => rfl
  | _ :: _, [], _, _ => rfl
  | [], _ :: _, _, _ => rfl
  | a :: x, b :: y, hl, hm => by
    have ha := hl a List.mem_cons_self
    have hb := hm b List.mem_cons_self
    have ih := less_map x y (fun z hz => hl z (List.mem_cons_of_mem _ hz)) (fun z hz => hm z (List.mem_cons_of_mem _ hz))
    simp only [List.map_cons, Op.bytesLess, lessL, ih]
    have e1 : decide (UInt8.ofNat a < UInt8.ofNat b) = decide (a < b) := decide_eq_decide.2 (by rw [UInt8.lt_iff_toNat_lt]; simp; omega)
    have e2 : (UInt8.ofNat a == UInt8.ofNat b) = decide (a = b) := by
      by_cases h : a = b
      · subst h; simp
      · rw [decide_eq_false h]
        refine beq_eq_false_iff_ne.2 (fun e => h ?_)
        have := congrArg UInt8.toNat e
        simp at this
        omega
    rw [e1, e2]
theorem sa_less {l m : List Nat} (hl : Bytes l) (hm : Bytes m) : Op.bytesLess (strOf l).toList (strOf m).toList = lessL l m := by
  rw [ByteArray.toList_eq, ByteArray.toList_eq, sa_data, sa_data]
  exact less_map l m hl.all hm.all

theorem run_sidx {o : Oper} {a : Act} {x y : Operand} {l : List Nat} {i z : Nat} (ho : o.op = .index 9 x y) (hx : a.eval x = .string (strOf l)) (hy : a.eval y = .int .i64 (i : Int)) (hl : Bytes l) (hz : l[i]? = some z) (w : World) : (execOp a.eval o).run Try.prog w = .ok (.value (.int .u8 (z : Int))) w := by
  have hz8 := hl i z hz
  have h1 : (strOf l)[i]? = some (UInt8.ofNat z) := by rw [strOf_get, hz]; rfl
  have h2 : ((UInt8.ofNat z).toNat : Int) = (z : Int) := by simp; omega
  unfold execOp
  simp only [ho, hx, hy]
  simp [asIntOf, run_underlying str_u, go_sem, Instr.index, h1, h2]
  omega
theorem run_scut {o : Oper} {a : Act} {x y z : Operand} {l m : List Nat} {i j : Nat} (ho : o.op = .slice 9 x (some y) (some z) none) (hx : a.eval x = .string (strOf l)) (hy : a.eval y = .int .i64 (i : Int)) (hz : a.eval z = .int .i64 (j : Int)) (hij : i ≤ j) (hj : j ≤ l.length) (hm : m = (l.take j).drop i) (w : World) : (execOp a.eval o).run Try.prog w = .ok (.value (.string (strOf m))) w := by
  have h2 : ((j : Int) ≤ ((strOf l).size : Int)) := by rw [strOf_size]; omega
  have h1 : ((i : Int) ≤ (j : Int)) := by omega
  have h3 : j ≤ (strOf l).size := by rw [strOf_size]; exact hj
  unfold execOp
  simp only [ho, hx, hy, hz, Option.map_none, Option.map_some, Instr.sliceAt, Instr.slice, Instr.sliceBounds, Sem.run_bind, run_underlying str_u, Result.andThen_ok]
  simp [Instr.sliceBound, asIntOf, go_sem, h1, h2, h3, hij]
  rw [hm, ← strOf_extract]
theorem run_scutF {o : Oper} {a : Act} {x y : Operand} {l m : List Nat} {i : Nat} (ho : o.op = .slice 9 x (some y) none none) (hx : a.eval x = .string (strOf l)) (hy : a.eval y = .int .i64 (i : Int)) (hi : i ≤ l.length) (hm : m = l.drop i) (w : World) : (execOp a.eval o).run Try.prog w = .ok (.value (.string (strOf m))) w := by
  have h3 : i ≤ (strOf l).size := by rw [strOf_size]; exact hi
  have h2 : ((i : Int) ≤ ((strOf l).size : Int)) := by omega
  unfold execOp
  simp only [ho, hx, hy, Option.map_none, Option.map_some, Instr.sliceAt, Instr.slice, Instr.sliceBounds, Sem.run_bind, run_underlying str_u, Result.andThen_ok]
  simp [Instr.sliceBound, asIntOf, go_sem, h2, h3]
  rw [hm, strOf_size, strOf_extract, List.take_length]
theorem run_scutT {o : Oper} {a : Act} {x z : Operand} {l m : List Nat} {j : Nat} (ho : o.op = .slice 9 x none (some z) none) (hx : a.eval x = .string (strOf l)) (hz : a.eval z = .int .i64 (j : Int)) (hj : j ≤ l.length) (hm : m = l.take j) (w : World) : (execOp a.eval o).run Try.prog w = .ok (.value (.string (strOf m))) w := by
  have h3 : j ≤ (strOf l).size := by rw [strOf_size]; exact hj
  have h2 : ((j : Int) ≤ ((strOf l).size : Int)) := by omega
  unfold execOp
  simp only [ho, hx, hz, Option.map_none, Option.map_some, Instr.sliceAt, Instr.slice, Instr.sliceBounds, Sem.run_bind, run_underlying str_u, Result.andThen_ok]
  simp [Instr.sliceBound, asIntOf, go_sem, h2, h3]
  rw [hm, strOf_extract, List.drop_zero]
theorem run_scat {o : Oper} {a : Act} {x y : Operand} {l m k : List Nat} (ho : o.op = .binOp .add 9 x y 9) (hx : a.eval x = .string (strOf l)) (hy : a.eval y = .string (strOf m)) (hn : l.length + m.length < 4611686018427387904) (hk : k = l ++ m) (w : World) : (execOp a.eval o).run Try.prog w = .ok (.value (.string (strOf k))) w := by
  have h1 : ¬ (((strOf l).size + (strOf m).size : Nat) : Int) > IntKind.i64.max := by rw [strOf_size, strOf_size, show IntKind.i64.max = 9223372036854775807 from rfl]; omega
  unfold execOp
  simp only [ho, hx, hy]
  simp [go_sem, Op.stringOp, h1]
  rw [if_neg (by simpa using h1), hk, ← strOf_append]
theorem run_seq {o : Oper} {a : Act} {x y : Operand} {u : TypeId} {l m : List Nat} {b : Bool} (ho : o.op = .binOp .eql 9 x y u) (hx : a.eval x = .string (strOf l)) (hy : a.eval y = .string (strOf m)) (hl : Bytes l) (hm : Bytes m) (hb : b = decide (l = m)) (w : World) : (execOp a.eval o).run Try.prog w = .ok (.value (.bool b)) w := by
  have e := sa_beq hl hm
  unfold execOp
  simp only [ho, hx, hy]
  rw [hb, ← e]
  simp [go_sem]
theorem run_sneq {o : Oper} {a : Act} {x y : Operand} {u : TypeId} {l m : List Nat} {b : Bool} (ho : o.op = .binOp .neq 9 x y u) (hx : a.eval x = .string (strOf l)) (hy : a.eval y = .string (strOf m)) (hl : Bytes l) (hm : Bytes m) (hb : b = !decide (l = m)) (w : World) : (execOp a.eval o).run Try.prog w = .ok (.value (.bool b)) w := by
  have e := sa_beq hl hm
  unfold execOp
  simp only [ho, hx, hy]
  rw [hb, ← e]
  simp [go_sem]
theorem run_sless {o : Oper} {a : Act} {x y : Operand} {u : TypeId} {l m : List Nat} {b : Bool} (ho : o.op = .binOp .lss 9 x y u) (hx : a.eval x = .string (strOf l)) (hy : a.eval y = .string (strOf m)) (hl : Bytes l) (hm : Bytes m) (hb : b = lessL l m) (w : World) : (execOp a.eval o).run Try.prog w = .ok (.value (.bool b)) w := by
  have e := sa_less hl hm
  unfold execOp
  simp only [ho, hx, hy]
  rw [hb, ← e]
  simp [go_sem]
theorem run_slen {o : Oper} {a : Act} {x : Operand} {l : List Nat} {n : Nat} (ho : o.op = .call { callee := .builtin .len, args := #[x], argTypes := #[9] }) (hx : a.eval x = .string (strOf l)) (hn : n = l.length) (w : World) : (execOp a.eval o).run Try.prog w = .ok (.value (.int .i64 (n : Int))) w := by
  unfold execOp
  simp only [ho, resolve, invoke, builtin, Sem.run_bind, Sem.run_pure, Result.andThen_ok, List.map_toArray, List.map_cons, List.map_nil, hx]
  simp [Builtin.len_, run_underlying str_u, goInt, go_sem, strOf_size, hn]
/-- Bytes of a string: a slice in a block of its own. -/
theorem conv_sb (l : List Nat) (hl : Bytes l) (w : World) : ∃ v w', (convert 9 46 (.string (strOf l))).run Try.prog w = .ok v w' ∧ BytesV v w' l ∧ Below w.heap.size w w' ∧ blkOf v = some w.heap.size := by
  have h := run_bytes_of_string (P := Try.prog) w 9 46 5 (strOf l) str_u Try.underlying46 Try.underlying5
  refine ⟨_, _, h, ⟨_, _, by rw [strOf_size], ?_, fun hne => ⟨_, rfl, ?_, fun j x hx => ?_⟩⟩, ((Below.refl w.heap.size w).drew.alloc (Nat.le_refl _) _), rfl⟩
  · have := grownCap_ge w (strOf l).size 0 5
    rw [strOf_size] at this
    first | exact this | (rw [strOf_size]; exact this)
  · show w.heap.size < (w.heap.push _).size
    simp
  · have hj : j < l.length := (List.getElem?_eq_some_iff.1 hx).1
    have hx8 := hl j x hx
    rw [addr_add, Nat.zero_add]
    refine (show World.cell? _ ⟨w.heap.size, j, none⟩ = _ from ?_)
    have hg : (w.drew.alloc (.cells (bytesRow (strOf l) (grownCap w (strOf l).size 0 5)) 5 ((bytesRow (strOf l) (grownCap w (strOf l).size 0 5)).size, (bytesRow (strOf l) (grownCap w (strOf l).size 0 5)).size + 1))).heap[w.heap.size]? = some (.cells (bytesRow (strOf l) (grownCap w (strOf l).size 0 5)) 5 ((bytesRow (strOf l) (grownCap w (strOf l).size 0 5)).size, (bytesRow (strOf l) (grownCap w (strOf l).size 0 5)).size + 1)) := by
      show (w.heap.push _)[w.heap.size]? = _
      simp
    have hc : (bytesRow (strOf l) (grownCap w (strOf l).size 0 5))[j]? = some (.int .u8 (x : Int)) := by
      unfold bytesRow
      rw [Array.getElem?_append_left (by rw [Array.size_map]; show j < (strOf l).size; rw [strOf_size]; exact hj), Array.getElem?_map]
      have h2 : (strOf l).data[j]? = some (UInt8.ofNat x) := by rw [← Array.getElem?_toList, sa_data, List.getElem?_map, hx]; rfl
      rw [h2]
      simp
      omega
    unfold World.cell?
    rw [hg]
    exact hc
end Go.Proofs.Ytfkpbmkhkhnehaa.sh
