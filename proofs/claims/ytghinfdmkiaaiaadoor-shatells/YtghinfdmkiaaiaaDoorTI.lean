/-
  The reference's turn and shift.
-/
import Derived.Test.YtghinfdmkiaaiaaDoorTH
namespace Go.Proofs.YtghinfdmkiaaiaaDoor.sh
open Go Go.RowKit
set_option linter.unusedVariables false
set_option linter.unusedSimpArgs false


section
variable {o : Oper} {a : Act} {x y : Operand}
theorem run_quo32 {m n z : Nat} (ho : o.op = .binOp .quo 26 x y 26) (hx : a.eval x = .int .u32 (m : Int)) (hy : a.eval y = .int .u32 (n : Int)) (hn : 0 < n) (hm : m < 4294967296) (hz : z = m / n) (w : World) : (execOp a.eval o).run Tryd.prog w = .ok (.value (.int .u32 (z : Int))) w := by
  have h0 : ¬ ((n : Int) = 0) := by omega
  have hle : m / n ≤ m := Nat.div_le_self _ _
  have e2 : (m : Int).tdiv (n : Int) = (z : Int) := by rw [Int.tdiv_eq_ediv_of_nonneg (by omega), hz, Int.natCast_ediv]
  have e : (m : Int) / (n : Int) = (z : Int) := by rw [hz, Int.natCast_ediv]
  unfold execOp
  simp only [ho, hx, hy]
  simp [go_sem, IntKind.wrap_u32', e, e2, h0]
  have hz' : z ≤ m := by rw [hz]; exact hle
  rw [if_neg (show ¬ n = 0 by omega), Int.emod_eq_of_lt (by omega) (by omega)]

theorem run_rem32 {m n z : Nat} (ho : o.op = .binOp .rem 26 x y 26) (hx : a.eval x = .int .u32 (m : Int)) (hy : a.eval y = .int .u32 (n : Int)) (hn : 0 < n) (hm : m < 4294967296) (hz : z = m % n) (w : World) : (execOp a.eval o).run Tryd.prog w = .ok (.value (.int .u32 (z : Int))) w := by
  have h0 : ¬ ((n : Int) = 0) := by omega
  have hle : m % n ≤ m := Nat.mod_le _ _
  have e : (m : Int) % (n : Int) = (z : Int) := by rw [hz, Int.natCast_emod]
  have e2 : (m : Int).tmod (n : Int) = (z : Int) := by rw [Int.tmod_eq_emod_of_nonneg (by omega)]; exact e
  unfold execOp
  simp only [ho, hx, hy]
  simp [go_sem, IntKind.wrap_u32', e, e2, h0]
  omega

theorem run_mul32 {m n z : Nat} (ho : o.op = .binOp .mul 26 x y 26) (hx : a.eval x = .int .u32 (m : Int)) (hy : a.eval y = .int .u32 (n : Int))  (hz : z = m * n % 4294967296) (w : World) : (execOp a.eval o).run Tryd.prog w = .ok (.value (.int .u32 (z : Int))) w := by
  unfold execOp
  simp only [ho, hx, hy]
  simp [go_sem, IntKind.wrap_u32']
  rw [hz, Int.natCast_emod, Int.natCast_mul]
  rfl

end
theorem rot_eq (x m : Nat) (hx : x < 4294967296) (hm : m ≤ 31) : rotr x m = x / 2 ^ m + x % 2 ^ m * 2 ^ (32 - m) := by
  have e : 4294967296 = 2 ^ m * 2 ^ (32 - m) := by rw [← Nat.pow_add, show m + (32 - m) = 32 from by omega]
  have hlt : x / 2 ^ m < 2 ^ (32 - m) := Nat.div_lt_of_lt_mul (by rw [← e]; exact hx)
  unfold rotr
  rw [e, Nat.mul_mod_mul_right, Nat.mul_comm (x % 2 ^ m), ← Nat.two_pow_add_eq_or_of_lt hlt]
  omega
theorem rot_step (x m : Nat) (hx : x < 4294967296) (hm : m < 31) : rotr x (m + 1) = rotr x m / 2 + rotr x m % 2 * 2147483648 := by
  rw [rot_eq x m hx (by omega), rot_eq x (m + 1) hx (by omega)]
  have e1 : 2 ^ (32 - m) = 2 * 2 ^ (31 - m) := by rw [show 32 - m = (31 - m) + 1 from by omega, Nat.pow_succ, Nat.mul_comm]
  have e2 : 32 - (m + 1) = 31 - m := by omega
  have e3 : 2 ^ m * 2 ^ (31 - m) = 2147483648 := by rw [← Nat.pow_add, show m + (31 - m) = 31 from by omega]
  rw [e1, e2, Nat.pow_succ, ← Nat.div_div_eq_div_mul, Nat.mod_mul, ← e3]
  generalize x / 2 ^ m = y
  generalize x % 2 ^ m = z
  generalize 2 ^ (31 - m) = B
  generalize 2 ^ m = A
  have f1 : z * (2 * B) = 2 * (z * B) := by rw [Nat.mul_left_comm]
  rw [f1, Nat.add_mul_div_left _ _ (by decide), Nat.add_mul_mod_self_left, Nat.add_mul, ← Nat.add_assoc, Nat.mul_right_comm A, Nat.mul_comm (y % 2) (A * B)]
theorem rot_zero (x : Nat) (hx : x < 4294967296) : rotr x 0 = x := by rw [rot_eq x 0 hx (by omega), Nat.pow_zero, Nat.div_one, Nat.mod_one, Nat.zero_mul, Nat.add_zero]
set_option maxHeartbeats 1000000 in
theorem turn_any (x n : Nat) (w : World) (hx : x < 4294967296) (hn : n ≤ 31) :
    Calls Tryd.prog 24 #[.int .u32 (x : Int), .int .i64 (n : Int)] w fun e w' => e = .returned (.int .u32 ((rotr x n : Nat) : Int)) ∧ w' = w := by
  go_enter Tryd.func24, Tryd.ntmps24
  go_wp2_with fail
  go_loopg [0, 5] n (fun m s0 s5 wr => ∃ i y : Nat, i + m = n ∧ s0 = .int .u32 (y : Int) ∧ s5 = .int .i64 (i : Int) ∧ Kept (y = rotr x i) ∧ wr = w)
  case atStart => exact ⟨0, x, by omega, rfl, rfl, ⟨(rot_zero x hx).symm⟩, rfl⟩
  case round =>
    obtain ⟨i, y, hik, rfl, rfl, KY, hwr⟩ := hrel
    obtain rfl := hwr.symm
    have y32 : y < 4294967296 := by rw [KY.out]; exact rotr_lt x i hx
    by_cases hi : i < n
    case pos =>
      have hi' : (i : Int) < (n : Int) := by omega
      obtain ⟨a, ha⟩ : ∃ a, a = y / 2 := ⟨_, rfl⟩
      obtain ⟨b, hb⟩ : ∃ b, b = y % 2 := ⟨_, rfl⟩
      obtain ⟨c, hc⟩ : ∃ c, c = b * 2147483648 % 4294967296 := ⟨_, rfl⟩
      obtain ⟨d, hd⟩ : ∃ d, d = (a + c) % 4294967296 := ⟨_, rfl⟩
      have Ea : Kept _ := ⟨ha⟩
      have Eb : Kept _ := ⟨hb⟩
      have Ec : Kept _ := ⟨hc⟩
      have Ed : Kept _ := ⟨hd⟩
      have KD : Kept (d = rotr x (i + 1)) := ⟨by rw [rot_step x i hx (by omega), ← KY.out, hd, hc, ha, hb]; omega⟩
      clear ha hb hc hd
      go_wp2_with (first | ((with_reducible refine wv_val (d := 12) ?hd ?hw (.int .u32 (a : Int)) ?hr ?_); (case hd => rfl); (case hw => kernel_rfl); (case hr => intro w; exact run_quo32 rfl (by kernel_rfl) (by kernel_rfl) (by decide) y32 Ea.out w); simp only [Act.put, List.setIfInBounds_toArray, List.set_cons_succ, List.set_cons_zero]) | ((with_reducible refine wv_val (d := 14) ?hd ?hw (.int .u32 (b : Int)) ?hr ?_); (case hd => rfl); (case hw => kernel_rfl); (case hr => intro w; exact run_rem32 rfl (by kernel_rfl) (by kernel_rfl) (by decide) y32 Eb.out w); simp only [Act.put, List.setIfInBounds_toArray, List.set_cons_succ, List.set_cons_zero]) | ((with_reducible refine wv_val (d := 15) ?hd ?hw (.int .u32 (c : Int)) ?hr ?_); (case hd => rfl); (case hw => kernel_rfl); (case hr => intro w; exact run_mul32 (n := 2147483648) rfl (by kernel_rfl) (by kernel_rfl) Ec.out w); simp only [Act.put, List.setIfInBounds_toArray, List.set_cons_succ, List.set_cons_zero]) | ((with_reducible refine wv_val (d := 16) ?hd ?hw (.int .u32 (d : Int)) ?hr ?_); (case hd => rfl); (case hw => kernel_rfl); (case hr => intro w; exact run_add32 rfl (by kernel_rfl) (by kernel_rfl) Ed.out w); simp only [Act.put, List.setIfInBounds_toArray, List.set_cons_succ, List.set_cons_zero]))
      go_roundg (gk - 1)
      case measure => omega
      case rel => exact ⟨i + 1, d, by omega, rfl, by rfl, KD, rfl⟩
    obtain rfl : n = i := by omega
    have hi' : ¬ (n : Int) < (n : Int) := by omega
    go_wp2_with fail
    go_ret
    exact ⟨by rw [← KY.out]; rfl, rfl⟩
set_option maxHeartbeats 1000000 in
theorem shift_any (x n : Nat) (w : World) (hx : x < 4294967296) (hn : n ≤ 31) :
    Calls Tryd.prog 29 #[.int .u32 (x : Int), .int .i64 (n : Int)] w fun e w' => e = .returned (.int .u32 ((x / 2 ^ n : Nat) : Int)) ∧ w' = w := by
  obtain ⟨z, hz⟩ : ∃ z, z = x / 2 ^ n := ⟨_, rfl⟩
  rw [← hz]
  have EZ : Kept _ := ⟨hz⟩
  clear hz
  go_enter Tryd.func29, Tryd.ntmps29
  go_wp2_with fail
  go_loopg [0, 5] n (fun m s0 s5 wr => ∃ i y : Nat, i + m = n ∧ s0 = .int .u32 (y : Int) ∧ s5 = .int .i64 (i : Int) ∧ Kept (y = x / 2 ^ i) ∧ wr = w)
  case atStart => exact ⟨0, x, by omega, rfl, rfl, ⟨by rw [Nat.pow_zero, Nat.div_one]⟩, rfl⟩
  case round =>
    obtain ⟨i, y, hik, rfl, rfl, KY, hwr⟩ := hrel
    obtain rfl := hwr.symm
    have y32 : y < 4294967296 := by rw [KY.out]; exact Nat.lt_of_le_of_lt (Nat.div_le_self _ _) hx
    by_cases hi : i < n
    case pos =>
      have hi' : (i : Int) < (n : Int) := by omega
      obtain ⟨a, ha⟩ : ∃ a, a = y / 2 := ⟨_, rfl⟩
      have Ea : Kept _ := ⟨ha⟩
      have KD : Kept (a = x / 2 ^ (i + 1)) := ⟨by rw [ha, KY.out, Nat.pow_succ, Nat.div_div_eq_div_mul]⟩
      clear ha
      go_wp2_with (first | ((with_reducible refine wv_val (d := 12) ?hd ?hw (.int .u32 (a : Int)) ?hr ?_); (case hd => rfl); (case hw => kernel_rfl); (case hr => intro w; exact run_quo32 rfl (by kernel_rfl) (by kernel_rfl) (by decide) y32 Ea.out w); simp only [Act.put, List.setIfInBounds_toArray, List.set_cons_succ, List.set_cons_zero]))
      go_roundg (gk - 1)
      case measure => omega
      case rel => exact ⟨i + 1, a, by omega, rfl, by rfl, KD, rfl⟩
    obtain rfl : n = i := by omega
    have hi' : ¬ (n : Int) < (n : Int) := by omega
    go_wp2_with fail
    go_ret
    exact ⟨by rw [EZ.out, ← KY.out]; rfl, rfl⟩
end Go.Proofs.YtghinfdmkiaaiaaDoor.sh
