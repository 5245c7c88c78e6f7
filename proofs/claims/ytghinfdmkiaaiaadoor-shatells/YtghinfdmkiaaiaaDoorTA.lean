/-
  The reference of layer 3: numbers as digits of base 65536; single operations on uint64.
-/
import Derived.Test.YtghinfdmkiaaiaaDoorSOa
namespace Go.Proofs.YtghinfdmkiaaiaaDoor.sh
open Go Go.RowKit
set_option linter.unusedVariables false
set_option linter.unusedSimpArgs false

/-- The number of digits of base 65536. -/
def val : List Nat → Nat
  | [] => 0
  | x :: r => x + 65536 * val r
theorem val_append : ∀ (l m : List Nat), val (l ++ m) = val l + 65536 ^ l.length * val m
  | [], m => by simp [val]
  | x :: r, m => by
    rw [List.cons_append, val, val_append r m, val, List.length_cons, Nat.pow_succ, Nat.mul_add, ← Nat.mul_assoc, Nat.mul_comm 65536 (65536 ^ r.length)]
    omega
theorem val_one (x : Nat) : val [x] = x := by simp [val]
theorem val_snoc (l : List Nat) (x : Nat) : val (l ++ [x]) = val l + x * 65536 ^ l.length := by rw [val_append, val_one, Nat.mul_comm]
/-- All below 65536. -/
def Dig (l : List Nat) : Prop := ∀ (i x : Nat), l[i]? = some x → x < 65536
theorem Dig.snoc {l : List Nat} (h : Dig l) {x : Nat} (hx : x < 65536) : Dig (l ++ [x]) := fun i y hy => by
  rw [List.getElem?_append] at hy
  split at hy
  · exact h i y hy
  · have := List.mem_of_getElem? hy
    simp at this
    omega
theorem Dig.cons {l : List Nat} (h : Dig l) {x : Nat} (hx : x < 65536) : Dig (x :: l) := fun i y hy => by
  cases i with
  | zero => simp at hy; omega
  | succ i => exact h i y (by simpa using hy)
theorem dig_nil : Dig [] := fun i x hx => by simp at hx
theorem val_take (l : List Nat) (i x : Nat) (h : l[i]? = some x) : val (l.take (i + 1)) = val (l.take i) + x * 65536 ^ i := by
  have hi : i < l.length := (List.getElem?_eq_some_iff.1 h).1
  rw [List.take_add_one, h, Option.toList_some, val_snoc, List.length_take, Nat.min_eq_left (Nat.le_of_lt hi)]
theorem val_take_all (l : List Nat) (i : Nat) (h : l.length ≤ i) : val (l.take (i + 1)) = val (l.take i) := by rw [List.take_of_length_le h, List.take_of_length_le (by omega)]
theorem carry (V s B : Nat) : V + s % 65536 * B + s / 65536 * (B * 65536) = V + s * B := by
  have h := Nat.mod_add_div s 65536
  have h2 : s * B = s % 65536 * B + 65536 * (s / 65536) * B := by rw [← Nat.add_mul, h]
  rw [h2, Nat.mul_comm B 65536, ← Nat.mul_assoc, Nat.mul_comm (s / 65536) 65536]
  omega

section
variable {o : Oper} {a : Act} {x y : Operand}
theorem run_add64 {m n z : Nat} (ho : o.op = .binOp .add 30 x y 30) (hx : a.eval x = .int .u64 (m : Int)) (hy : a.eval y = .int .u64 (n : Int)) (hz : z = m + n) (h : z < 18446744073709551616) (w : World) : (execOp a.eval o).run Tryd.prog w = .ok (.value (.int .u64 (z : Int))) w := by
  unfold execOp
  simp only [ho, hx, hy]
  simp [go_sem, IntKind.wrap_u64]
  omega
theorem run_mul64 {m n z : Nat} (ho : o.op = .binOp .mul 30 x y 30) (hx : a.eval x = .int .u64 (m : Int)) (hy : a.eval y = .int .u64 (n : Int)) (hz : z = m * n) (h : z < 18446744073709551616) (w : World) : (execOp a.eval o).run Tryd.prog w = .ok (.value (.int .u64 (z : Int))) w := by
  have e : (m : Int) * (n : Int) = (z : Int) := by rw [hz, Int.natCast_mul]
  unfold execOp
  simp only [ho, hx, hy]
  simp [go_sem, IntKind.wrap_u64, e]
  omega
theorem run_rem64 {m n z : Nat} (ho : o.op = .binOp .rem 30 x y 30) (hx : a.eval x = .int .u64 (m : Int)) (hy : a.eval y = .int .u64 (n : Int)) (hn : 0 < n) (hm : m < 18446744073709551616) (hz : z = m % n) (w : World) : (execOp a.eval o).run Tryd.prog w = .ok (.value (.int .u64 (z : Int))) w := by
  have h0 : ¬ ((n : Int) = 0) := by omega
  have hle : m % n ≤ m := Nat.mod_le _ _
  have e : (m : Int) % (n : Int) = (z : Int) := by rw [hz, Int.natCast_emod]
  have e2 : (m : Int).tmod (n : Int) = (z : Int) := by rw [Int.tmod_eq_emod_of_nonneg (by omega)]; exact e
  unfold execOp
  simp only [ho, hx, hy]
  simp [go_sem, IntKind.wrap_u64, e, e2, h0]
  omega
theorem run_quo64 {m n z : Nat} (ho : o.op = .binOp .quo 30 x y 30) (hx : a.eval x = .int .u64 (m : Int)) (hy : a.eval y = .int .u64 (n : Int)) (hn : 0 < n) (hm : m < 18446744073709551616) (hz : z = m / n) (w : World) : (execOp a.eval o).run Tryd.prog w = .ok (.value (.int .u64 (z : Int))) w := by
  have h0 : ¬ ((n : Int) = 0) := by omega
  have hle : m / n ≤ m := Nat.div_le_self _ _
  have e : (m : Int) / (n : Int) = (z : Int) := by rw [hz, Int.natCast_ediv]
  have e2 : (m : Int).tdiv (n : Int) = (z : Int) := by rw [Int.tdiv_eq_ediv_of_nonneg (by omega)]; exact e
  unfold execOp
  simp only [ho, hx, hy]
  simp [go_sem, IntKind.wrap_u64, e, e2, h0]
  have hz' : z ≤ m := by rw [hz]; exact hle
  rw [if_neg (show ¬ n = 0 by omega), Int.emod_eq_of_lt (by omega) (by omega)]
end
theorem one_ints {k : IntKind} {e : TypeId} (w : World) (x : Nat) : IntsV k (.slice (some ⟨w.heap.size, 0, none⟩) 1 1) (w.alloc (.cells #[.int k (x : Int)] e)) [x] :=
  ⟨_, _, rfl, Nat.le_refl _, fun _ => ⟨_, rfl, by simp, fun j y hy => by
    rcases j with _ | j
    · simp at hy
      subst hy
      rw [addr_add]
      exact cell_row (heap_new w _) rfl
    · simp at hy⟩⟩
/-- The frame behind an append of one: onto a slice that the call owns. -/
theorem IntsV.cell {k : IntKind} {p : Option Addr} {l c : Nat} {w : World} {xs : List Nat} (h : IntsV k (.slice p l c) w xs) {i x : Nat} (hx : xs[i]? = some x) : ∃ A, p = some A ∧ A.block < w.heap.size ∧ w.cell? (A.add i) = some (.int k (x : Int)) := by
  obtain ⟨p', c', e, _, h3⟩ := h
  cases e
  obtain ⟨A, rfl, h4, h5⟩ := h3 (by intro e; rw [e] at hx; simp at hx)
  exact ⟨A, rfl, h4, h5 i x hx⟩
theorem IntsV.under {k : IntKind} {v : Value} {w w' : World} {l : List Nat} (h : IntsV k v w l) (hb : Below w.heap.size w w') : IntsV k v w' l := by
  obtain ⟨p, c, rfl, h2, h3⟩ := h
  refine ⟨p, c, rfl, h2, fun hne => ?_⟩
  obtain ⟨A, rfl, e2, e3⟩ := h3 hne
  exact ⟨A, rfl, Nat.lt_of_lt_of_le e2 hb.size, fun j x hx => by rw [hb.cell (by rw [add_block]; exact e2)]; exact e3 j x hx⟩
theorem Row.dig {base : Nat} {e : TypeId} {k : IntKind} {l : List Nat} {v : Value} {w : World} (h : Row base e k l v w) : ∃ p c, v = .slice p l.length c := by
  rcases h.2 with ⟨rfl, h0⟩ | ⟨g, cap, cur, rfl, _⟩
  · exact ⟨none, 0, by rw [h0]⟩
  · exact ⟨_, _, rfl⟩
end Go.Proofs.YtghinfdmkiaaiaaDoor.sh
