/-
  Strings made of bytes, and compared; small sums.
-/
import Derived.Test.YthnkipicehppmaaDoorSHS
import Derived.Laws.BytesString
namespace Go.Proofs.YthnkipicehppmaaDoor.sh
open Go Go.RowKit
set_option linter.unusedVariables false
set_option linter.unusedSimpArgs false

/-- The string of bytes. -/
def strOf (l : List Nat) : ByteArray := (l.map fun n : Nat => (n : Int)).foldl (fun r n => r.push (UInt8.ofNat n.toNat)) ByteArray.empty
theorem ints_map (l : List Nat) : ((l.map fun n : Nat => (n : Int)).map (Value.int .u8)).toArray = ints .u8 l := by simp [ints]
theorem str_u : Tryd.prog.underlying 9 = some .string := by kernel_rfl
theorem conv_str {v : Value} {w : World} {l : List Nat} (h : IntsV .u8 v w l) : (convert 22 9 v).run Tryd.prog w = .ok (.string (strOf l)) w := by
  obtain ⟨p, c, rfl, h2, h3⟩ := h
  rw [run_convert_bytes_string (P := Tryd.prog) w 22 9 5 p l.length c Tryd.underlying22 Tryd.underlying5 str_u]
  cases p with
  | none =>
    have : l = [] := by
      cases l with
      | nil => rfl
      | cons x r => obtain ⟨A, h, _⟩ := h3 (by simp); cases h
    subst this
    rfl
  | some A =>
    refine run_bytesToString w A l.length c (l.map fun n : Nat => (n : Int)) ?_
    rw [ints_map]
    have hf := run_loadCells_list (P := Tryd.prog) w A (ints .u8 l).toList (by
      intro j y hj
      rw [Array.getElem?_toList] at hj
      have hjl : j < l.length := by have := (Array.getElem?_eq_some_iff.1 hj).1; rwa [ints_size] at this
      obtain ⟨A', e1, _, e3⟩ := h3 (by intro e; rw [e] at hjl; simp at hjl)
      cases e1
      rw [e3 j l[j] (List.getElem?_eq_getElem hjl), ← hj, ints_get (List.getElem?_eq_getElem hjl)])
    rw [ints_toList, Array.toArray_toList] at hf
    exact hf
theorem run_str {o : Oper} {a : Act} {x : Operand} {v : Value} {w : World} {l : List Nat} (ho : o.op = .convert 22 9 x) (hx : a.eval x = v) (h : IntsV .u8 v w l) : (execOp a.eval o).run Tryd.prog w = .ok (.value (.string (strOf l))) w := by
  unfold execOp
  simp only [ho, hx]
  simp [conv_str h]
theorem run_eql_str {o : Oper} {a : Act} {x y : Operand} {u : TypeId} {s : ByteArray} (ho : o.op = .binOp .eql 9 x y u) (hx : a.eval x = .string s) (hy : a.eval y = .string s) (w : World) : (execOp a.eval o).run Tryd.prog w = .ok (.value (.bool true)) w := by
  unfold execOp
  simp only [ho, hx, hy]
  simp [go_sem]
theorem run_neq_str {o : Oper} {a : Act} {x y : Operand} {u : TypeId} {s : ByteArray} (ho : o.op = .binOp .neq 9 x y u) (hx : a.eval x = .string s) (hy : a.eval y = .string s) (w : World) : (execOp a.eval o).run Tryd.prog w = .ok (.value (.bool false)) w := by
  unfold execOp
  simp only [ho, hx, hy]
  simp [go_sem]
section
variable {h : List Oper} {A0 A : Act} {W0 : World} {S : Nat → Option (Value → World → Prop)} {sp O : List Nat} {E : List (Nat × Nat)} {i : Nat} {o : Oper}
/-- Bytes made into a string, in a region that draws its order. -/
theorem ow_str (hA : Full h A0 A S sp) (hw : Wants h A0 A S O E W0.heap.size i o) (d : Nat) (v : Value) (hdet : detE h sp E i o = true) (hsel : notSel o = true) (hd : o.dst = some d) (hds : sp.contains d = false) (hO : O.contains d = false) (hv : A.tmps[d]? = some v) (x : Operand) (ho : o.op = .convert 22 9 x) (u : Value) (hx : A.eval x = u) (l : List Nat) (hl : ∀ w, Below W0.heap.size W0 w → IntsV .u8 u w l) (hvS : v = .string (strOf l)) : OwnOk Tryd.prog h A0 W0 (relR A S) O E i o :=
  ow_q hA hdet hsel hw d v hd hds hO hv fun w hb => by
    unfold Oper.quietAt
    rw [run_str ho hx (hl w hb)]
    exact ⟨rfl, hvS.symm⟩
end
/-- Bytes made into a string, in a plain region. -/
theorem wv_str {ops : Array Oper} {rest : List Oper} {o : Oper} {a : Act} {w : World} {Q : Exit → Act → World → Prop} {d : Nat} (hd : o.dst = some d) (hw : Region.wanted o (yielded ops a.tmps) = true) (x : Operand) (ho : o.op = .convert 22 9 x) (u : Value) (hx : a.eval x = u) (l : List Nat) (hl : IntsV .u8 u w l) (h : wpList Tryd.prog ops Q rest (a.put o.dst (.string (strOf l))) w) : wpList Tryd.prog ops Q (o :: rest) a w :=
  BigFrame.wpList_want hw fun K hK => by
    unfold Oper.wp
    rw [run_str ho hx hl]
    exact hK _ _ h
/-- So many times a number. -/
theorem run_mulC {o : Oper} {a : Act} {x : Operand} {i z : Nat} (c : Nat) (ho : o.op = .binOp .mul 3 (.const (.int .i64 (c : Int))) x 3) (hx : a.eval x = .int .i64 (i : Int)) (hz : z = c * i) (h62 : z < 4611686018427387904) (w : World) : (execOp a.eval o).run Tryd.prog w = .ok (.value (.int .i64 (z : Int))) w := by
  have e3 : a.eval (.const (.int .i64 (c : Int))) = .int .i64 (c : Int) := rfl
  have e4 : ((c : Int) * (i : Int)) = (z : Int) := by rw [hz]; simp
  unfold execOp
  simp only [ho, hx, e3]
  simp [go_sem, e4, IntKind.wrap_i64, wrap64]
  omega
theorem run_mulV {o : Oper} {a : Act} {x : Operand} {i z : Nat} (c : Nat) (ho : o.op = .binOp .mul 3 x (.const (.int .i64 (c : Int))) 3) (hx : a.eval x = .int .i64 (i : Int)) (hz : z = i * c) (h62 : z < 4611686018427387904) (w : World) : (execOp a.eval o).run Tryd.prog w = .ok (.value (.int .i64 (z : Int))) w := by
  have e3 : a.eval (.const (.int .i64 (c : Int))) = .int .i64 (c : Int) := rfl
  have e4 : ((i : Int) * (c : Int)) = (z : Int) := by rw [hz]; simp
  unfold execOp
  simp only [ho, hx, e3]
  simp [go_sem, e4, IntKind.wrap_i64, wrap64]
  omega
theorem run_addC {o : Oper} {a : Act} {x : Operand} {i z : Nat} (c : Nat) (ho : o.op = .binOp .add 3 (.const (.int .i64 (c : Int))) x 3) (hx : a.eval x = .int .i64 (i : Int)) (hz : z = c + i) (h62 : z < 4611686018427387904) (w : World) : (execOp a.eval o).run Tryd.prog w = .ok (.value (.int .i64 (z : Int))) w := by
  have e3 : a.eval (.const (.int .i64 (c : Int))) = .int .i64 (c : Int) := rfl
  unfold execOp
  simp only [ho, hx, e3]
  simp [go_sem, IntKind.wrap_i64, wrap64]
  omega
theorem run_subC {o : Oper} {a : Act} {x : Operand} {i z : Nat} (c : Nat) (ho : o.op = .binOp .sub 3 (.const (.int .i64 (c : Int))) x 3) (hx : a.eval x = .int .i64 (i : Int)) (hz : z = c - i) (hle : i ≤ c) (h62 : c < 4611686018427387904) (w : World) : (execOp a.eval o).run Tryd.prog w = .ok (.value (.int .i64 (z : Int))) w := by
  have e3 : a.eval (.const (.int .i64 (c : Int))) = .int .i64 (c : Int) := rfl
  unfold execOp
  simp only [ho, hx, e3]
  simp [go_sem, IntKind.wrap_i64, wrap64]
  omega
theorem run_remV {o : Oper} {a : Act} {x y : Operand} {m n z : Nat} (ho : o.op = .binOp .rem 3 x y 3) (hx : a.eval x = .int .i64 (m : Int)) (hy : a.eval y = .int .i64 (n : Int)) (hn : 0 < n) (hz : z = m % n) (hm : m < 4611686018427387904) (w : World) : (execOp a.eval o).run Tryd.prog w = .ok (.value (.int .i64 (z : Int))) w := by
  have h1 : ((n : Int) = 0) = False := by simp; omega
  have h2 : Int.tmod (m : Int) (n : Int) = (z : Int) := by rw [hz]; rfl
  have h3 : m % n ≤ m := Nat.mod_le _ _
  unfold execOp
  simp only [ho, hx, hy]
  simp [go_sem, h1, h2, IntKind.wrap_i64, wrap64]
  omega
theorem run_conv83 {o : Oper} {a : Act} {x : Operand} {z : Nat} (ho : o.op = .convert 5 3 x) (hx : a.eval x = .int .u8 (z : Int)) (hz : z < 256) (w : World) : (execOp a.eval o).run Tryd.prog w = .ok (.value (.int .i64 (z : Int))) w := by
  unfold execOp
  simp only [ho, hx]
  simp [go_sem, IntKind.wrap_i64, wrap64]
  omega
theorem run_conv38 {o : Oper} {a : Act} {x : Operand} {m z : Nat} (ho : o.op = .convert 3 5 x) (hx : a.eval x = .int .i64 (m : Int)) (hz : z = m % 256) (w : World) : (execOp a.eval o).run Tryd.prog w = .ok (.value (.int .u8 (z : Int))) w := by
  unfold execOp
  simp only [ho, hx]
  simp [go_sem, IntKind.wrap_u8', hz]
end Go.Proofs.YthnkipicehppmaaDoor.sh
