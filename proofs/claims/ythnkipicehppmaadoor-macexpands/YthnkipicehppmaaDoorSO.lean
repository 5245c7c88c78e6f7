/-
  Single operations on words, ints and addresses: what they come to.
-/
import Derived.Test.YthnkipicehppmaaDoorSetB
namespace Go.Proofs.YthnkipicehppmaaDoor.sh
open Go Go.RowKit
set_option linter.unusedVariables false
set_option linter.unusedSimpArgs false

section
variable {o : Oper} {a : Act} {x y : Operand}
theorem run_add32 {m n z : Nat} (ho : o.op = .binOp .add 47 x y 47) (hx : a.eval x = .int .u32 (m : Int)) (hy : a.eval y = .int .u32 (n : Int)) (hz : z = (m + n) % 4294967296) (w : World) : (execOp a.eval o).run Tryd.prog w = .ok (.value (.int .u32 (z : Int))) w := by
  unfold execOp
  simp only [ho, hx, hy]
  simp [go_sem, IntKind.wrap_u32']
  omega
theorem run_xor32 {m n z : Nat} (ho : o.op = .binOp .xor 47 x y 47) (hx : a.eval x = .int .u32 (m : Int)) (hy : a.eval y = .int .u32 (n : Int)) (hm : m < 4294967296) (hn : n < 4294967296) (hz : z = m ^^^ n) (w : World) : (execOp a.eval o).run Tryd.prog w = .ok (.value (.int .u32 (z : Int))) w := by
  have h := u32_xor_nat m n hm hn
  unfold execOp
  simp only [ho, hx, hy]
  simp [go_sem, h, hz]
theorem run_shr32 {n z : Nat} (c : Nat) {u : TypeId} (ho : o.op = .binOp .shr 47 x (.const (.int .u64 (c : Int))) u) (hx : a.eval x = .int .u32 (n : Int)) (hc : c < 32) (hz : z = n / 2 ^ c) (w : World) : (execOp a.eval o).run Tryd.prog w = .ok (.value (.int .u32 (z : Int))) w := by
  have e : ((n : Int) / 2 ^ c) = ((n / 2 ^ c : Nat) : Int) := by rw [Int.natCast_ediv, Int.natCast_pow]; rfl
  have e2 : min c 32 = c := by omega
  have e3 : a.eval (.const (.int .u64 (c : Int))) = .int .u64 (c : Int) := rfl
  unfold execOp
  simp only [ho, hx, e3]
  rw [hz, ← e]
  clear hz e
  simp [go_sem, Op.shift, IntKind.bits, e2]
theorem run_subI {i : Nat} (c : Nat) (ho : o.op = .binOp .sub 3 x (.const (.int .i64 (c : Int))) 3) (hx : a.eval x = .int .i64 (i : Int)) (hle : c ≤ i) (hi : i < 4611686018427387904) (w : World) : (execOp a.eval o).run Tryd.prog w = .ok (.value (.int .i64 ((i - c : Nat) : Int))) w := by
  have e3 : a.eval (.const (.int .i64 (c : Int))) = .int .i64 (c : Int) := rfl
  unfold execOp
  simp only [ho, hx, e3]
  simp [go_sem, IntKind.wrap_i64, wrap64]
  omega
theorem run_idx {i g len : Nat} {t e : TypeId} (ho : o.op = .indexAddr t x y) (hx : a.eval x = .pointer (some ⟨g, 0, none⟩)) (hy : a.eval y = .int .i64 (i : Int)) (ht : Tryd.prog.underlying t = some (.array len e)) (hi : i < len) (sz : ∀ w, (sizeOf e).run Tryd.prog w = .ok 1 w) (w : World) : (execOp a.eval o).run Tryd.prog w = .ok (.value (.pointer (some ⟨g, i, none⟩))) w := by
  have h1 : ((i : Int) < (len : Int)) := by omega
  unfold execOp
  simp only [ho, hx, hy, Instr.indexAt]
  simp [asIntOf, run_underlying ht, h1, sz, go_sem, Addr.add]
  rw [if_pos hi]
  by_cases h0 : i = 0 <;> simp [h0]
end
end Go.Proofs.YthnkipicehppmaaDoor.sh
