/-
  General pieces, joined: YD YE YF YG YH YI YJ YK YO YP YR.
-/
import Derived.Test.YtpamcmhfimnfbaaBaseD
import Derived.Deep.Strs
/-
  Products of numbers, by the program.
-/
namespace Go.Proofs.Ytpamcmhfimnfbaa.sh
open Go Go.RowKit
set_option linter.unusedVariables false
set_option linter.unusedSimpArgs false

theorem step_at (X Y U M : Value) (x y u m : Nat) (w : World) (hX : X = .int .u64 (x : Int)) (hY : Y = .int .u64 (y : Int)) (hU : U = .int .u64 (u : Int)) (hM : M = .int .u64 (m : Int)) (hx : x < 18446744073709551616) (hy : y < 18446744073709551616) (hu : u < 18446744073709551616) (hm : m < 18446744073709551616) :
    Calls Try.prog 52 #[X, Y, U, M] w fun e w' => ∃ lo hi : Nat, e = .returned (.tuple #[.int .u64 (lo : Int), .int .u64 (hi : Int)]) ∧ w' = w ∧
      Kept (lo < 18446744073709551616 ∧ hi < 18446744073709551616 ∧ lo + 18446744073709551616 * hi = x + y * u + m) := by
  subst hX hY hU hM
  refine (stepD x y u m hx hy hu hm w).mono ?_
  rintro e w' ⟨rfl, rfl⟩
  have hP : y * u ≤ 18446744073709551615 * 18446744073709551615 := Nat.mul_le_mul (by omega) (by omega)
  refine ⟨_, _, rfl, rfl, ⟨?_⟩⟩
  generalize y * u = P at *
  omega
theorem wide_arith (n0 n1 n2 r0 r1 l00 u00 l01 u01 l02 u02 l10 u10 l11 u11 l12 u12 : Nat) (h2 : n2 < 8) (hn0 : n0 < 18446744073709551616) (hn1 : n1 < 18446744073709551616) (hr0 : r0 < 1152921504606846976) (hr1 : r1 < 1152921504606846976)
    (H00 : l00 < 18446744073709551616 ∧ u00 < 18446744073709551616 ∧ l00 + 18446744073709551616 * u00 = 0 + n0 * r0 + 0) (H01 : l01 < 18446744073709551616 ∧ u01 < 18446744073709551616 ∧ l01 + 18446744073709551616 * u01 = 0 + n1 * r0 + u00) (H02 : l02 < 18446744073709551616 ∧ u02 < 18446744073709551616 ∧ l02 + 18446744073709551616 * u02 = 0 + n2 * r0 + u01)
    (H10 : l10 < 18446744073709551616 ∧ u10 < 18446744073709551616 ∧ l10 + 18446744073709551616 * u10 = l01 + n0 * r1 + 0) (H11 : l11 < 18446744073709551616 ∧ u11 < 18446744073709551616 ∧ l11 + 18446744073709551616 * u11 = l02 + n1 * r1 + u10) (H12 : l12 < 18446744073709551616 ∧ u12 < 18446744073709551616 ∧ l12 + 18446744073709551616 * u12 = 0 + n2 * r1 + u11) :
    l00 + 18446744073709551616 * l10 + 340282366920938463463374607431768211456 * l11 + 6277101735386680763835789423207666416102355444464034512896 * l12 = (n0 + 18446744073709551616 * n1 + 340282366920938463463374607431768211456 * n2) * (r0 + 18446744073709551616 * r1) := by
  have e : (n0 + 18446744073709551616 * n1 + 340282366920938463463374607431768211456 * n2) * (r0 + 18446744073709551616 * r1) = n0 * r0 + 18446744073709551616 * (n1 * r0) + 340282366920938463463374607431768211456 * (n2 * r0) + 18446744073709551616 * (n0 * r1) + 340282366920938463463374607431768211456 * (n1 * r1) + 6277101735386680763835789423207666416102355444464034512896 * (n2 * r1) := by grind
  rw [e]
  have b00 : n0 * r0 ≤ 18446744073709551615 * 1152921504606846975 := Nat.mul_le_mul (by omega) (by omega)
  have b10 : n1 * r0 ≤ 18446744073709551615 * 1152921504606846975 := Nat.mul_le_mul (by omega) (by omega)
  have b20 : n2 * r0 ≤ 7 * 1152921504606846975 := Nat.mul_le_mul (by omega) (by omega)
  have b01 : n0 * r1 ≤ 18446744073709551615 * 1152921504606846975 := Nat.mul_le_mul (by omega) (by omega)
  have b11 : n1 * r1 ≤ 18446744073709551615 * 1152921504606846975 := Nat.mul_le_mul (by omega) (by omega)
  have b21 : n2 * r1 ≤ 7 * 1152921504606846975 := Nat.mul_le_mul (by omega) (by omega)
  clear e
  generalize n0 * r0 = p00 at *
  generalize n1 * r0 = p10 at *
  generalize n2 * r0 = p20 at *
  generalize n0 * r1 = p01 at *
  generalize n1 * r1 = p11 at *
  generalize n2 * r1 = p21 at *
  have c0 : u00 < 1152921504606846976 := by omega
  have c1 : u01 < 1152921504606846976 := by omega
  have c2 : u02 = 0 := by omega
  have c3 : u10 ≤ 1152921504606846976 := by omega
  have c4 : u11 ≤ 1152921504606846977 := by omega
  have c5 : u12 = 0 := by omega
  omega

set_option maxHeartbeats 4000000 in
theorem wide_any (n0 n1 n2 r0 r1 : Nat) (w : World) (hn0 : n0 < 18446744073709551616) (hn1 : n1 < 18446744073709551616) (h2 : n2 < 8) (hr0 : r0 < 1152921504606846976) (hr1 : r1 < 1152921504606846976) :
    Calls Try.prog 51 #[.agg #[.int .u64 (n0 : Int), .int .u64 (n1 : Int), .int .u64 (n2 : Int)], .agg #[.int .u64 (r0 : Int), .int .u64 (r1 : Int)]] w
      fun e w' => ∃ z0 z1 z2 z3 : Nat, e = .returned (.agg #[.int .u64 (z0 : Int), .int .u64 (z1 : Int), .int .u64 (z2 : Int), .int .u64 (z3 : Int)]) ∧ Below w.heap.size w w' ∧
        Kept (z0 < 18446744073709551616 ∧ z1 < 18446744073709551616 ∧ z2 < 18446744073709551616 ∧ z3 < 18446744073709551616 ∧ z0 + 18446744073709551616 * z1 + 340282366920938463463374607431768211456 * z2 + 6277101735386680763835789423207666416102355444464034512896 * z3 = (n0 + 18446744073709551616 * n1 + 340282366920938463463374607431768211456 * n2) * (r0 + 18446744073709551616 * r1)) := by
  have Bn0 : Kept _ := ⟨hn0⟩
  have Bn1 : Kept _ := ⟨hn1⟩
  have Bn2 : Kept (n2 < 18446744073709551616) := ⟨by omega⟩
  have Br0 : Kept (r0 < 18446744073709551616) := ⟨by omega⟩
  have Br1 : Kept (r1 < 18446744073709551616) := ⟨by omega⟩
  have BB : Kept _ := ⟨And.intro h2 (And.intro hr0 hr1)⟩
  clear hn0 hn1 h2 hr0 hr1
  have ixn0 : ∀ w, (Instr.index 67 (.agg #[.int .u64 (n0 : Int), .int .u64 (n1 : Int), .int .u64 (n2 : Int)]) (.int .i64 0)).run Try.prog w = .ok (.int .u64 (n0 : Int)) w := fun _ => by kernel_rfl
  have ixn1 : ∀ w, (Instr.index 67 (.agg #[.int .u64 (n0 : Int), .int .u64 (n1 : Int), .int .u64 (n2 : Int)]) (.int .i64 1)).run Try.prog w = .ok (.int .u64 (n1 : Int)) w := fun _ => by kernel_rfl
  have ixn2 : ∀ w, (Instr.index 67 (.agg #[.int .u64 (n0 : Int), .int .u64 (n1 : Int), .int .u64 (n2 : Int)]) (.int .i64 2)).run Try.prog w = .ok (.int .u64 (n2 : Int)) w := fun _ => by kernel_rfl
  have ixr0 : ∀ w, (Instr.index 64 (.agg #[.int .u64 (r0 : Int), .int .u64 (r1 : Int)]) (.int .i64 0)).run Try.prog w = .ok (.int .u64 (r0 : Int)) w := fun _ => by kernel_rfl
  have ixr1 : ∀ w, (Instr.index 64 (.agg #[.int .u64 (r0 : Int), .int .u64 (r1 : Int)]) (.int .i64 1)).run Try.prog w = .ok (.int .u64 (r1 : Int)) w := fun _ => by kernel_rfl
  go_enter Try.func51, Try.ntmps51
  go_wp2_with fail
  refine wp_loop_rounds 3 ?_
  rw [rounds_succ]
  go_wp2_with fail
  refine wp_loop_rounds 4 ?_
  rw [rounds_succ]
  go_wp2_with fail
  refine (step_at _ _ _ _ 0 n0 r0 0 _ rfl rfl rfl rfl (by omega) Bn0.out Br0.out (by omega)).mono ?_
  rintro e w_ ⟨l00, u00, rfl, rfl, H00⟩
  have Bl00 : Kept _ := ⟨H00.out.1⟩
  have Bu00 : Kept _ := ⟨H00.out.2.1⟩
  go_wp2_with fail
  rw [rounds_succ]
  go_wp2_with fail
  refine (step_at _ _ _ _ 0 n1 r0 u00 _ rfl rfl rfl rfl (by omega) Bn1.out Br0.out Bu00.out).mono ?_
  rintro e w_ ⟨l01, u01, rfl, rfl, H01⟩
  have Bl01 : Kept _ := ⟨H01.out.1⟩
  have Bu01 : Kept _ := ⟨H01.out.2.1⟩
  go_wp2_with fail
  rw [rounds_succ]
  go_wp2_with fail
  refine (step_at _ _ _ _ 0 n2 r0 u01 _ rfl rfl rfl rfl (by omega) Bn2.out Br0.out Bu01.out).mono ?_
  rintro e w_ ⟨l02, u02, rfl, rfl, H02⟩
  have Bl02 : Kept _ := ⟨H02.out.1⟩
  have Bu02 : Kept _ := ⟨H02.out.2.1⟩
  go_wp2_with fail
  rw [rounds_succ]
  go_wp2_with fail
  rw [rounds_succ]
  go_wp2_with fail
  refine wp_loop_rounds 4 ?_
  rw [rounds_succ]
  go_wp2_with fail
  refine (step_at _ _ _ _ l01 n0 r1 0 _ rfl rfl rfl rfl Bl01.out Bn0.out Br1.out (by omega)).mono ?_
  rintro e w_ ⟨l10, u10, rfl, rfl, H10⟩
  have Bl10 : Kept _ := ⟨H10.out.1⟩
  have Bu10 : Kept _ := ⟨H10.out.2.1⟩
  go_wp2_with fail
  rw [rounds_succ]
  go_wp2_with fail
  refine (step_at _ _ _ _ l02 n1 r1 u10 _ rfl rfl rfl rfl Bl02.out Bn1.out Br1.out Bu10.out).mono ?_
  rintro e w_ ⟨l11, u11, rfl, rfl, H11⟩
  have Bl11 : Kept _ := ⟨H11.out.1⟩
  have Bu11 : Kept _ := ⟨H11.out.2.1⟩
  go_wp2_with fail
  rw [rounds_succ]
  go_wp2_with fail
  refine (step_at _ _ _ _ 0 n2 r1 u11 _ rfl rfl rfl rfl (by omega) Bn2.out Br1.out Bu11.out).mono ?_
  rintro e w_ ⟨l12, u12, rfl, rfl, H12⟩
  have Bl12 : Kept _ := ⟨H12.out.1⟩
  have Bu12 : Kept _ := ⟨H12.out.2.1⟩
  go_wp2_with fail
  rw [rounds_succ]
  go_wp2_with fail
  rw [rounds_succ]
  go_wp2
  refine bodyPost_ret (v := .agg #[.int .u64 (l00 : Int), .int .u64 (l10 : Int), .int .u64 (l11 : Int), .int .u64 (l12 : Int)]) (by simp [results, Try.results51, go_sem]) rfl ⟨l00, l10, l11, l12, rfl, ?_, ⟨H00.out.1, H10.out.1, H11.out.1, H12.out.1, wide_arith _ _ _ _ _ _ _ _ _ _ _ _ _ _ _ _ _ BB.out.1 Bn0.out Bn1.out BB.out.2.1 BB.out.2.2 H00.out H01.out H02.out H10.out H11.out H12.out⟩⟩
  repeat (first | with_reducible exact Below.refl _ _ | with_reducible assumption | with_reducible refine Below.drew ?_ | (with_reducible refine Below.alloc ?_ ?hB _; (case hB => first | omega | (simp <;> omega))) | (with_reducible refine Below.setCell ?_ ?hB _; (case hB => first | omega | (simp <;> omega))))
theorem r_parts (r : Nat) (h : r < 21267647932558653966460912964485513216) : wd r 1 < 1152921504606846976 ∧ wd r 0 + 18446744073709551616 * wd r 1 = r := by
  rw [wd0, wd1]
  omega
theorem wideD (N r : Nat) (w : World) (hN : N < 2722258935367507707706996859454145691648) (hr : r < 21267647932558653966460912964485513216) (hr0 : wd r 0 < 1152921504606846976) :
    Calls Try.prog 51 #[.agg (ints .u64 (nw N)), .agg (ints .u64 (nw2 r))] w fun e w' => e = .returned (.agg (ints .u64 (nw4 (N * r)))) ∧ Below w.heap.size w w' := by
  have hp := r_parts r hr
  have hs := nw_sum N (by omega)
  refine (wide_any (wd N 0) (wd N 1) (wd N 2) (wd r 0) (wd r 1) w (wd_lt _ _) (wd_lt _ _) (by omega) hr0 hp.1).mono ?_
  rintro e w' ⟨z0, z1, z2, z3, rfl, hb, H⟩
  refine ⟨?_, hb⟩
  obtain ⟨h0, h1, h2, h3, h4⟩ := H.out
  rw [hs, hp.2] at h4
  rw [nw4_of z0 z1 z2 z3 (N * r) h0 h1 h2 h3 h4]
  rfl
end Go.Proofs.Ytpamcmhfimnfbaa.sh
/-
  Products modulo p, and the bytes of a number, by the program.
-/
namespace Go.Proofs.Ytpamcmhfimnfbaa.sh
open Go Go.RowKit
set_option linter.unusedVariables false
set_option linter.unusedSimpArgs false

theorem run_build3 {o : Oper} {a : Act} {x y z : Operand} {p q r : Nat} (ho : o.op = .build 67 #[(0, x), (1, y), (2, z)]) (hx : a.eval x = .int .u64 (p : Int)) (hy : a.eval y = .int .u64 (q : Int)) (hz : a.eval z = .int .u64 (r : Int)) (w : World) : (execOp a.eval o).run Try.prog w = .ok (.value (.agg (ints .u64 [p, q, r]))) w := by
  have hb : (Instr.build 67 #[(0, .int .u64 (p : Int)), (1, .int .u64 (q : Int)), (2, .int .u64 (r : Int))]).run Try.prog w = .ok (.agg (ints .u64 [p, q, r])) w := by kernel_rfl
  unfold execOp
  simp only [ho, List.map_toArray, List.map_cons, List.map_nil, hx, hy, hz]
  simp [hb]
theorem run_build32 {o : Oper} {a : Act} {x y : Operand} {p q : Nat} (ho : o.op = .build 67 #[(0, x), (1, y)]) (hx : a.eval x = .int .u64 (p : Int)) (hy : a.eval y = .int .u64 (q : Int)) (w : World) : (execOp a.eval o).run Try.prog w = .ok (.value (.agg (ints .u64 [p, q, 0]))) w := by
  have hb : (Instr.build 67 #[(0, .int .u64 (p : Int)), (1, .int .u64 (q : Int))]).run Try.prog w = .ok (.agg (ints .u64 [p, q, 0])) w := by kernel_rfl
  unfold execOp
  simp only [ho, List.map_toArray, List.map_cons, List.map_nil, hx, hy]
  simp [hb]
theorem run_build2 {o : Oper} {a : Act} {x y : Operand} {p q : Nat} (ho : o.op = .build 64 #[(0, x), (1, y)]) (hx : a.eval x = .int .u64 (p : Int)) (hy : a.eval y = .int .u64 (q : Int)) (w : World) : (execOp a.eval o).run Try.prog w = .ok (.value (.agg (ints .u64 [p, q]))) w := by
  have hb : (Instr.build 64 #[(0, .int .u64 (p : Int)), (1, .int .u64 (q : Int))]).run Try.prog w = .ok (.agg (ints .u64 [p, q])) w := by kernel_rfl
  unfold execOp
  simp only [ho, List.map_toArray, List.map_cons, List.map_nil, hx, hy]
  simp [hb]
theorem run_shl62 {o : Oper} {a : Act} {x : Operand} {m z : Nat} (ho : o.op = .binOp .shl 23 x (.const (.int .u64 62)) 90) (hx : a.eval x = .int .u64 (m : Int)) (hz : z = m % 4 * 4611686018427387904) (w : World) : (execOp a.eval o).run Try.prog w = .ok (.value (.int .u64 (z : Int))) w := by
  have e3 : a.eval (.const (.int .u64 62)) = .int .u64 62 := rfl
  unfold execOp
  simp only [ho, hx, e3]
  rw [hz]
  simp [go_sem, Op.shift, IntKind.bits, IntKind.wrap_u64]
  omega
theorem run_or62 {o : Oper} {a : Act} {x y : Operand} {m n z : Nat} (ho : o.op = .binOp .or 23 x y 23) (hx : a.eval x = .int .u64 (m : Int)) (hy : a.eval y = .int .u64 ((n * 4611686018427387904 : Nat) : Int)) (hm : m < 4611686018427387904) (hn : n < 4) (hz : z = m + n * 4611686018427387904) (w : World) : (execOp a.eval o).run Try.prog w = .ok (.value (.int .u64 (z : Int))) w := by
  have h := or_shift 62 m n hm (by omega)
  unfold execOp
  simp only [ho, hx, hy]
  rw [hz]
  rw [show (2 : Nat) ^ 62 = 4611686018427387904 by decide] at h
  simp [go_sem]
  simpa using h

theorem a2_info : (Try.prog.info? 64).map (·.size) = some 2 := by kernel_rfl
theorem a4_info : (Try.prog.info? 88).map (·.size) = some 4 := by kernel_rfl
set_option maxRecDepth 100000 in
set_option maxHeartbeats 2000000 in
theorem timesD (N r : Nat) (w : World) (hN : N < 2722258935367507707706996859454145691648) (hr : r < 21267647932558653966460912964485513216) (hr0 : wd r 0 < 1152921504606846976) :
    Calls Try.prog 37 #[.agg (ints .u64 (nw N)), .agg (ints .u64 (nw2 r))] w fun e w' => e = .returned (.agg (ints .u64 (nw (timesN N r)))) ∧ Below w.heap.size w w' := by
  have CW : Kept (∀ w', Calls Try.prog 51 #[.agg (ints .u64 (nw N)), .agg (ints .u64 (nw2 r))] w' fun e w2 => e = .returned (.agg (ints .u64 (nw4 (N * r)))) ∧ Below w'.heap.size w' w2) := ⟨fun w' => wideD N r w' hN hr hr0⟩
  obtain ⟨P, hP⟩ : ∃ P, P = N * r := ⟨_, rfl⟩
  have PL : P < 57896044618658097711785492504343953926634992332820282019728792003956564819968 := by rw [hP]; exact prod_lt N r hN hr
  obtain ⟨p0, hp0⟩ : ∃ p, p = wd P 0 := ⟨_, rfl⟩
  obtain ⟨p1, hp1⟩ : ∃ p, p = wd P 1 := ⟨_, rfl⟩
  obtain ⟨p2, hp2⟩ : ∃ p, p = wd P 2 := ⟨_, rfl⟩
  obtain ⟨p3, hp3⟩ : ∃ p, p = wd P 3 := ⟨_, rfl⟩
  obtain ⟨q2, hq2⟩ : ∃ q, q = p2 % 4 := ⟨_, rfl⟩
  obtain ⟨s2, hs2⟩ : ∃ q, q = p2 / 4 := ⟨_, rfl⟩
  obtain ⟨t3, ht3⟩ : ∃ q, q = p3 % 4 := ⟨_, rfl⟩
  obtain ⟨s3, hs3⟩ : ∃ q, q = p3 / 4 := ⟨_, rfl⟩
  obtain ⟨h0, hh0⟩ : ∃ q, q = s2 + t3 * 4611686018427387904 := ⟨_, rfl⟩
  obtain ⟨X, hX⟩ : ∃ X, X = P % 1361129467683753853853498429727072845824 := ⟨_, rfl⟩
  obtain ⟨Y, hY⟩ : ∃ Y, Y = P / 1361129467683753853853498429727072845824 := ⟨_, rfl⟩
  obtain ⟨LO, hLO⟩ : ∃ l, l = [p0, p1, q2] := ⟨_, rfl⟩
  obtain ⟨HI, hHI⟩ : ∃ l, l = [h0, s3, 0] := ⟨_, rfl⟩
  have EX : Kept (nw X = LO) := ⟨by rw [hX, times_low, hLO, hq2, hp0, hp1, hp2]⟩
  have EY : Kept (nw Y = HI) := ⟨by rw [hY, times_high P (by omega), hHI, hh0, hs2, ht3, hs3, hp2, hp3]⟩
  obtain ⟨L, hL⟩ : ∃ L, L = nw (timesN N r) := ⟨_, rfl⟩
  have EL : Kept (L = nw (X + Y * 5)) := ⟨by rw [hL, hX, hY, hP]; unfold timesN; rw [Nat.mul_comm 5]⟩
  rw [← hL]
  rw [← hP] at CW
  obtain ⟨NL, hNL⟩ : ∃ l, l = nw N := ⟨_, rfl⟩
  obtain ⟨RL, hRL⟩ : ∃ l, l = nw2 r := ⟨_, rfl⟩
  obtain ⟨PW, hPW⟩ : ∃ l, l = nw4 P := ⟨_, rfl⟩
  rw [← hNL, ← hRL] at CW ⊢
  rw [← hPW] at CW
  have LN : Kept (NL.length = 3) := ⟨by rw [hNL]; rfl⟩
  have LR : Kept (RL.length = 2) := ⟨by rw [hRL]; rfl⟩
  have LP : Kept (PW.length = 4) := ⟨by rw [hPW]; rfl⟩
  have LL : Kept (L.length = 3) := ⟨by rw [hL]; rfl⟩
  have LLO : Kept (LO.length = 3) := ⟨by rw [hLO]; rfl⟩
  have LHI : Kept (HI.length = 3) := ⟨by rw [hHI]; rfl⟩
  have HL : Kept (L.length = LO.length) := ⟨by rw [LL.out, LLO.out]⟩
  have G0 : Kept ((ints .u64 PW)[0]? = some (.int .u64 (p0 : Int))) := ⟨ints_get (by rw [hPW, hp0]; rfl)⟩
  have G1 : Kept ((ints .u64 PW)[1]? = some (.int .u64 (p1 : Int))) := ⟨ints_get (by rw [hPW, hp1]; rfl)⟩
  have G2 : Kept ((ints .u64 PW)[2]? = some (.int .u64 (p2 : Int))) := ⟨ints_get (by rw [hPW, hp2]; rfl)⟩
  have G3 : Kept ((ints .u64 PW)[3]? = some (.int .u64 (p3 : Int))) := ⟨ints_get (by rw [hPW, hp3]; rfl)⟩
  have B2 : Kept (p2 < 18446744073709551616) := ⟨by rw [hp2]; exact wd_lt _ _⟩
  have B3 : Kept (p3 < 18446744073709551616) := ⟨by rw [hp3]; exact wd_lt _ _⟩
  have Bs2 : Kept (s2 < 4611686018427387904) := ⟨by have := B2.out; omega⟩
  have Bt3 : Kept (t3 < 4) := ⟨by omega⟩
  have E1 : Kept _ := ⟨hq2⟩
  have E2 : Kept _ := ⟨hs2⟩
  have E3 : Kept (t3 * 4611686018427387904 = p3 % 4 * 4611686018427387904) := ⟨by rw [ht3]⟩
  have E4 : Kept _ := ⟨hs3⟩
  have E5 : Kept _ := ⟨hh0⟩
  have ELO : Kept ([p0, p1, q2] = LO) := ⟨hLO.symm⟩
  have EHI : Kept ([h0, s3, 0] = HI) := ⟨hHI.symm⟩
  obtain ⟨ZZ, hZZ⟩ : ∃ ZZ : Array Value, ZZ = #[.int .u64 0, .int .u64 0, .int .u64 0] := ⟨_, rfl⟩
  have LZ : Kept (ZZ.size = 3) := ⟨by rw [hZZ]; rfl⟩
  have A0 : Blk (((w.alloc (.cells (ints .u64 NL) 67)).alloc (.cells (ints .u64 RL) 64)).alloc (.cells #[.int .u64 0, .int .u64 0, .int .u64 0] 67)) w.heap.size 67 (ints .u64 NL) := ((blk_new w _ _).alloc _).alloc _
  have A1 : Blk (((w.alloc (.cells (ints .u64 NL) 67)).alloc (.cells (ints .u64 RL) 64)).alloc (.cells #[.int .u64 0, .int .u64 0, .int .u64 0] 67)) (w.heap.size + 1) 64 (ints .u64 RL) := (blk_top _ _ _ _ (by simp)).alloc _
  have AZ : Blk (((w.alloc (.cells (ints .u64 NL) 67)).alloc (.cells (ints .u64 RL) 64)).alloc (.cells #[.int .u64 0, .int .u64 0, .int .u64 0] 67)) (w.heap.size + 2) 67 ZZ := by rw [hZZ]; exact blk_top _ _ _ _ (by simp)
  have Q0 : Below w.heap.size w (((w.alloc (.cells (ints .u64 NL) 67)).alloc (.cells (ints .u64 RL) 64)).alloc (.cells #[.int .u64 0, .int .u64 0, .int .u64 0] 67)) := (((Below.refl _ _).alloc (Nat.le_refl _) _).alloc (by simp) _).alloc (by simp; omega) _
  clear hN hr hr0 hP PL hp0 hp1 hp2 hp3 hq2 hs2 ht3 hs3 hh0 hX hY hLO hHI hL hNL hRL hPW hZZ
  go_enter Try.func37, Try.ntmps37
  go_wp2_with (first | ((with_reducible refine wv_row (d := 10) ?hd ?hw 67 (.tmp 2) ?ho (w.heap.size) ?hx (t' := 67) (ints .u64 NL) _ _ Try.underlying67 ?hs ?hg ?_); (case hd => rfl); (case hw => kernel_rfl); (case ho => rfl); (case hx => kernel_rfl); (case hs => rw [ints_size, LN.out]; exact nt_info); (case hg => exact A0); simp only [Act.put, List.setIfInBounds_toArray, List.set_cons_succ, List.set_cons_zero]) | ((with_reducible refine wv_row (d := 11) ?hd ?hw 64 (.tmp 3) ?ho (w.heap.size + 1) ?hx (t' := 64) (ints .u64 RL) _ _ Try.underlying64 ?hs ?hg ?_); (case hd => rfl); (case hw => kernel_rfl); (case ho => rfl); (case hx => kernel_rfl); (case hs => rw [ints_size, LR.out]; exact a2_info); (case hg => exact A1); simp only [Act.put, List.setIfInBounds_toArray, List.set_cons_succ, List.set_cons_zero]))
  refine (CW.out _).mono ?_
  rintro e w1 ⟨rfl, hb1⟩
  have BZ := AZ.under hb1
  have Q1 := Q0.trans (hb1.mono Q0.size)
  have hl1 : w.heap.size + 2 < w1.heap.size := BZ.lt
  clear A0 A1 AZ Q0 hb1 CW
  go_wp2_with (first | (refine wl_store rfl 88 (.tmp 5) (.tmp 12) rfl w1.heap.size (ints .u64 PW) rfl rfl _ (blk_new w1 _ _) (by rw [ints_size, LP.out]; exact a4_info) (by rw [ints_size, LP.out]; rfl) (ints_one _ _) ?_))
  intro w2 A5 P2
  have CZ := P2.blk (BZ.alloc _) (by omega)
  have Q2 := (Q1.alloc Q1.size _).trans (P2.below (by omega))
  generalize hg5 : w1.heap.size = g5 at *
  have hl2 : g5 < w2.heap.size := A5.lt
  have KA : Kept _ := ⟨A5⟩
  clear BZ Q1 P2 hg5
  go_wp2_with (first | ((with_reducible refine wv_elem (d := 14) ?hd ?hw 23 ag_u64 (.tmp 13) ?ho (⟨g5, 0, none⟩) ?hx (.int .u64 (p0 : Int)) ?hc ?_); (case hd => rfl); (case hw => kernel_rfl); (case ho => rfl); (case hx => kernel_rfl); (case hc => exact KA.out.cell G0.out); simp only [Act.put, List.setIfInBounds_toArray, List.set_cons_succ, List.set_cons_zero]) | ((with_reducible refine wv_elem (d := 16) ?hd ?hw 23 ag_u64 (.tmp 15) ?ho (⟨g5, 1, none⟩) ?hx (.int .u64 (p1 : Int)) ?hc ?_); (case hd => rfl); (case hw => kernel_rfl); (case ho => rfl); (case hx => kernel_rfl); (case hc => exact KA.out.cell G1.out); simp only [Act.put, List.setIfInBounds_toArray, List.set_cons_succ, List.set_cons_zero]) | ((with_reducible refine wv_elem (d := 18) ?hd ?hw 23 ag_u64 (.tmp 17) ?ho (⟨g5, 2, none⟩) ?hx (.int .u64 (p2 : Int)) ?hc ?_); (case hd => rfl); (case hw => kernel_rfl); (case ho => rfl); (case hx => kernel_rfl); (case hc => exact KA.out.cell G2.out); simp only [Act.put, List.setIfInBounds_toArray, List.set_cons_succ, List.set_cons_zero]) | ((with_reducible refine wv_val (d := 19) ?hd ?hw (.int .u64 (q2 : Int)) ?hr ?_); (case hd => rfl); (case hw => kernel_rfl); (case hr => intro w; exact run_and3 rfl (by kernel_rfl) B2.out E1.out w); simp only [Act.put, List.setIfInBounds_toArray, List.set_cons_succ, List.set_cons_zero]) | ((with_reducible refine wv_val (d := 20) ?hd ?hw (.agg (ints .u64 [p0, p1, q2])) ?hr ?_); (case hd => rfl); (case hw => kernel_rfl); (case hr => intro w; exact run_build3 rfl (by kernel_rfl) (by kernel_rfl) (by kernel_rfl) w); simp only [Act.put, List.setIfInBounds_toArray, List.set_cons_succ, List.set_cons_zero]) | (refine wl_store rfl 67 (.tmp 6) (.tmp 20) rfl w2.heap.size (ints .u64 [p0, p1, q2]) rfl rfl _ (blk_new w2 _ _) (by rw [ints_size]; exact nt_info) (by rw [ints_size]; rfl) (ints_one _ _) ?_))
  intro w3 A6 P3
  rw [ELO.out] at A6
  have A5' := P3.blk (A5.alloc _) (by omega)
  have DZ := P3.blk (CZ.alloc _) (by omega)
  have Q3 := (Q2.alloc Q2.size _).trans (P3.below (by omega))
  generalize hg6 : w2.heap.size = g6 at *
  have hl3 : g6 < w3.heap.size := A6.lt
  clear A5 CZ Q2 P3 KA hg6
  have KA : Kept _ := ⟨A5'⟩
  go_wp2_with (first | ((with_reducible refine wv_elem (d := 22) ?hd ?hw 23 ag_u64 (.tmp 21) ?ho (⟨g5, 2, none⟩) ?hx (.int .u64 (p2 : Int)) ?hc ?_); (case hd => rfl); (case hw => kernel_rfl); (case ho => rfl); (case hx => kernel_rfl); (case hc => exact KA.out.cell G2.out); simp only [Act.put, List.setIfInBounds_toArray, List.set_cons_succ, List.set_cons_zero]) | ((with_reducible refine wv_val (d := 23) ?hd ?hw (.int .u64 (s2 : Int)) ?hr ?_); (case hd => rfl); (case hw => kernel_rfl); (case hr => intro w; exact run_shr2 rfl (by kernel_rfl) B2.out E2.out w); simp only [Act.put, List.setIfInBounds_toArray, List.set_cons_succ, List.set_cons_zero]) | ((with_reducible refine wv_elem (d := 25) ?hd ?hw 23 ag_u64 (.tmp 24) ?ho (⟨g5, 3, none⟩) ?hx (.int .u64 (p3 : Int)) ?hc ?_); (case hd => rfl); (case hw => kernel_rfl); (case ho => rfl); (case hx => kernel_rfl); (case hc => exact KA.out.cell G3.out); simp only [Act.put, List.setIfInBounds_toArray, List.set_cons_succ, List.set_cons_zero]) | ((with_reducible refine wv_val (d := 26) ?hd ?hw (.int .u64 ((t3 * 4611686018427387904 : Nat) : Int)) ?hr ?_); (case hd => rfl); (case hw => kernel_rfl); (case hr => intro w; exact run_shl62 rfl (by kernel_rfl) E3.out w); simp only [Act.put, List.setIfInBounds_toArray, List.set_cons_succ, List.set_cons_zero]) | ((with_reducible refine wv_val (d := 27) ?hd ?hw (.int .u64 (h0 : Int)) ?hr ?_); (case hd => rfl); (case hw => kernel_rfl); (case hr => intro w; exact run_or62 rfl (by kernel_rfl) (by kernel_rfl) Bs2.out Bt3.out E5.out w); simp only [Act.put, List.setIfInBounds_toArray, List.set_cons_succ, List.set_cons_zero]) | ((with_reducible refine wv_elem (d := 29) ?hd ?hw 23 ag_u64 (.tmp 28) ?ho (⟨g5, 3, none⟩) ?hx (.int .u64 (p3 : Int)) ?hc ?_); (case hd => rfl); (case hw => kernel_rfl); (case ho => rfl); (case hx => kernel_rfl); (case hc => exact KA.out.cell G3.out); simp only [Act.put, List.setIfInBounds_toArray, List.set_cons_succ, List.set_cons_zero]) | ((with_reducible refine wv_val (d := 30) ?hd ?hw (.int .u64 (s3 : Int)) ?hr ?_); (case hd => rfl); (case hw => kernel_rfl); (case hr => intro w; exact run_shr2 rfl (by kernel_rfl) B3.out E4.out w); simp only [Act.put, List.setIfInBounds_toArray, List.set_cons_succ, List.set_cons_zero]) | ((with_reducible refine wv_val (d := 31) ?hd ?hw (.agg (ints .u64 [h0, s3, 0])) ?hr ?_); (case hd => rfl); (case hw => kernel_rfl); (case hr => intro w; exact run_build32 rfl (by kernel_rfl) (by kernel_rfl) w); simp only [Act.put, List.setIfInBounds_toArray, List.set_cons_succ, List.set_cons_zero]) | (refine wl_store rfl 67 (.tmp 7) (.tmp 31) rfl w3.heap.size (ints .u64 [h0, s3, 0]) rfl rfl _ (blk_new w3 _ _) (by rw [ints_size]; exact nt_info) (by rw [ints_size]; rfl) (ints_one _ _) ?_))
  intro w4 A7 P4
  rw [EHI.out] at A7
  have A6' := P4.blk (A6.alloc _) (by omega)
  have EZ := P4.blk (DZ.alloc _) (by omega)
  have Q4 := (Q3.alloc Q3.size _).trans (P4.below (by omega))
  generalize hg7 : w3.heap.size = g7 at *
  have hl4 : g7 < w4.heap.size := A7.lt
  clear A5' A6 DZ Q3 P4 KA hg7 G0 G1 G2 G3 B2 B3 Bs2 Bt3 E1 E2 E3 E4 E5 ELO EHI
  go_wp2_with fail
  go_loopg [8, 32] 3 (fun k s8 s32 wr => ∃ i c : Nat, i + k = 3 ∧ s8 = .int .u64 (c : Int) ∧ s32 = .int .i64 (i : Int) ∧ Kept (c = cy X Y 5 i) ∧ Below w.heap.size w wr ∧ Blk wr g6 67 (ints .u64 (mix L LO i)) ∧ Blk wr g7 67 (ints .u64 HI) ∧ Blk wr (w.heap.size + 2) 67 ZZ)
  case atStart => exact ⟨0, 0, by omega, rfl, rfl, ⟨(cy_zero _ _ _).symm⟩, Q4, by rw [mix_zero]; exact A6', A7, EZ⟩
  case round =>
    obtain ⟨i, c, hik, rfl, rfl, HC, HB, A0, A1, A2⟩ := hrel
    clear Q4 A6' A7 EZ
    by_cases hk0 : gk = 0
    · obtain rfl : i = 3 := by omega
      have e : mix L LO 3 = L := by rw [← LLO.out]; exact mix_all L LO HL.out
      rw [e] at A0
      clear A1 e HC
      go_wp2_with (first | (refine wl_load rfl 67 (.tmp 6) rfl _ rfl (ints .u64 L) 3 23 Try.underlying67 (by rw [ints_size, LL.out]; exact nt_info) A0 ?_) | (refine wl_store rfl 67 (.tmp 4) (.tmp 49) rfl _ (ints .u64 L) rfl rfl _ A2 (by rw [ints_size, LL.out]; exact nt_info) (by rw [ints_size, LL.out, LZ.out]) (ints_one _ _) ?_))
      intro w3 A3 P3
      go_wp2
      exact bodyPost_ret (v := .agg (ints .u64 L)) (results_cell_row Try.results37 _ _ _ 67 (ints .u64 L) (0, 0) _ rfl A3 Try.underlying67 rfl (by rw [ints_size, LL.out]; exact nt_info)) rfl ⟨rfl, HB.trans (P3.below (by omega))⟩
    · have hil : i < 3 := by omega
      have hlt : ((i : Int) < 3) := by omega
      obtain ⟨x, hx⟩ : ∃ x, x = wd X i := ⟨_, rfl⟩
      obtain ⟨y, hy⟩ : ∃ y, y = wd Y i := ⟨_, rfl⟩
      obtain ⟨lo, hlo⟩ : ∃ z, z = (x + y * 5 + c) % 18446744073709551616 := ⟨_, rfl⟩
      obtain ⟨hi, hhi⟩ : ∃ z, z = (x + y * 5 + c) / 18446744073709551616 := ⟨_, rfl⟩
      have gx : Kept ((ints .u64 (mix L LO i))[i]? = some (.int .u64 (x : Int))) := ⟨ints_get (by rw [mix_get L LO i HL.out (by rw [LLO.out]; exact hil), ← EX.out, hx]; exact nw_get X i hil)⟩
      have gy : Kept ((ints .u64 HI)[i]? = some (.int .u64 (y : Int))) := ⟨ints_get (by rw [← EY.out, hy]; exact nw_get Y i hil)⟩
      have hs := cy_step X Y 5 i
      have hwl := wd_lt (X + Y * 5) i
      rw [← hx, ← hy, ← HC.out] at hs
      have gz : Kept (L[i]? = some lo) := ⟨by
        rw [EL.out, nw_get _ i hil, hlo]
        congr 1
        omega⟩
      have hc2 : Kept (hi = cy X Y 5 (i + 1)) := ⟨by rw [hhi]; omega⟩
      have CS : Kept (∀ w', Below wr.heap.size wr w' → Calls Try.prog 52 [.int .u64 (x : Int), .int .u64 (y : Int), .int .u64 5, .int .u64 (c : Int)].toArray w' fun e w2 => e = .returned (.tuple #[.int .u64 (lo : Int), .int .u64 (hi : Int)]) ∧ Below w'.heap.size w' w2) := ⟨fun w' _ => by
        refine (stepD x y 5 c (by rw [hx]; exact wd_lt _ _) (by rw [hy]; exact wd_lt _ _) (by decide) (by rw [HC.out]; exact cy_lt _ _ _ _ (by decide)) w').mono ?_
        rintro e w2 ⟨rfl, rfl⟩
        exact ⟨by rw [hlo, hhi], Below.refl _ _⟩⟩
      clear hlo hhi hx hy hs hwl HC
      go_wp2_with fail
      refine region_late wr 14 13 [(36, .int .i64 (i : Int)), (37, .int .i64 (i : Int)), (38, .pointer (some ⟨g6, i, none⟩)), (39, .int .u64 (x : Int)), (40, .int .i64 (i : Int)), (41, .pointer (some ⟨g7, i, none⟩)), (42, .int .u64 (y : Int)), (43, .int .u64 (c : Int)), (44, .tuple #[.int .u64 (lo : Int), .int .u64 (hi : Int)]), (35, .tuple #[.int .u64 (lo : Int), .int .u64 (hi : Int)]), (45, .int .u64 (lo : Int)), (46, .int .u64 (hi : Int)), (47, .pointer (some ⟨g6, i, none⟩))] (fun wt => Blk wt g6 67 (ints .u64 (mix L LO (i + 1))) ∧ Blk wt g7 67 (ints .u64 HI) ∧ Blk wt (w.heap.size + 2) 67 ZZ ∧ Below w.heap.size w wt) rfl (by kernel_rfl) (by kernel_rfl) (by kernel_rfl) (by kernel_rfl) (by kernel_rfl) (by kernel_rfl) (by kernel_rfl) _ rfl rfl (Below.refl _ _) ?hC (fun hA => ⟨.inr (.inl ⟨by kernel_rfl, ow_val hA (wants_none rfl) 36 (.int .i64 (i : Int)) (by kernel_rfl) rfl rfl rfl rfl (by kernel_rfl) (fun w => by kernel_rfl)⟩), .inr (.inl ⟨by kernel_rfl, ow_val hA (wants_none rfl) 37 (.int .i64 (i : Int)) (by kernel_rfl) rfl rfl rfl rfl (by kernel_rfl) (fun w => by kernel_rfl)⟩), .inr (.inl ⟨by kernel_rfl, ow_val hA (wants_none rfl) 38 (.pointer (some ⟨g6, i, none⟩)) (by kernel_rfl) rfl rfl rfl rfl (by kernel_rfl) (fun w => run_idx rfl (by kernel_rfl) (by kernel_rfl) Try.underlying67 hil sz_u64 w)⟩), .inr (.inl ⟨by kernel_rfl, ow_elem hA (wants_none rfl) 39 (.int .u64 (x : Int)) (by kernel_rfl) rfl rfl rfl rfl (by kernel_rfl) 23 ag_u64 (.tmp 38) rfl (⟨g6, i, none⟩) (by kernel_rfl) (fun w1 hb => (A0.under hb).cell gx.out)⟩), .inr (.inl ⟨by kernel_rfl, ow_val hA (wants_none rfl) 40 (.int .i64 (i : Int)) (by kernel_rfl) rfl rfl rfl rfl (by kernel_rfl) (fun w => by kernel_rfl)⟩), .inr (.inl ⟨by kernel_rfl, ow_val hA (wants_none rfl) 41 (.pointer (some ⟨g7, i, none⟩)) (by kernel_rfl) rfl rfl rfl rfl (by kernel_rfl) (fun w => run_idx rfl (by kernel_rfl) (by kernel_rfl) Try.underlying67 hil sz_u64 w)⟩), .inr (.inl ⟨by kernel_rfl, ow_elem hA (wants_none rfl) 42 (.int .u64 (y : Int)) (by kernel_rfl) rfl rfl rfl rfl (by kernel_rfl) 23 ag_u64 (.tmp 41) rfl (⟨g7, i, none⟩) (by kernel_rfl) (fun w1 hb => (A1.under hb).cell gy.out)⟩), .inr (.inl ⟨by kernel_rfl, ow_val hA (wants_none rfl) 43 (.int .u64 (c : Int)) (by kernel_rfl) rfl rfl rfl rfl (by kernel_rfl) (fun w => by kernel_rfl)⟩), .inr (.inl ⟨by kernel_rfl, ow_calld hA (wants_none rfl) 44 (.tuple #[.int .u64 (lo : Int), .int .u64 (hi : Int)]) (by kernel_rfl) rfl rfl rfl rfl (by kernel_rfl) 52 Try.f52 _ [.tmp 39, .tmp 42, .const (.int .u64 5), .tmp 43] _ [.int .u64 (x : Int), .int .u64 (y : Int), .int .u64 5, .int .u64 (c : Int)] rfl (by kernel_rfl) Try.func52 (by kernel_rfl) rfl (CS.out)⟩), .inr (.inl ⟨by kernel_rfl, ow_val hA (wants_none rfl) 35 (.tuple #[.int .u64 (lo : Int), .int .u64 (hi : Int)]) (by kernel_rfl) rfl rfl rfl rfl (by kernel_rfl) (fun w => by kernel_rfl)⟩), .inr (.inl ⟨by kernel_rfl, ow_val hA (wants_none rfl) 45 (.int .u64 (lo : Int)) (by kernel_rfl) rfl rfl rfl rfl (by kernel_rfl) (fun w => by kernel_rfl)⟩), .inr (.inr (fun W1 => ow_val hA (wants_none rfl) 46 (.int .u64 (hi : Int)) (by kernel_rfl) rfl rfl rfl rfl (by kernel_rfl) (fun w => by kernel_rfl))), .inr (.inl ⟨by kernel_rfl, ow_val hA (wants_none rfl) 47 (.pointer (some ⟨g6, i, none⟩)) (by kernel_rfl) rfl rfl rfl rfl (by kernel_rfl) (fun w => run_idx rfl (by kernel_rfl) (by kernel_rfl) Try.underlying67 hil sz_u64 w)⟩), .inl rfl, trivial⟩) ?hst ?_
      case hC => exact fun u u' ⟨h1, h2, h3, h4⟩ hb => ⟨h1.under hb, h2.under hb, h3.under hb, h4.trans (hb.mono h4.size)⟩
      case hst =>
        intro hA
        refine late_store hA rfl rfl 23 sz_u64 47 45 rfl (by kernel_rfl) (by kernel_rfl) g6 i .u64 (lo : Int) (by kernel_rfl) (by kernel_rfl) 67 (ints .u64 (mix L LO i)) (fun u hb => A0.under hb) (by rw [ints_size, mix_len L LO i HL.out, LLO.out]; exact hil) ?_
        intro u u' hb hB hP
        rw [ints_set, mix_set L LO i lo HL.out gz.out] at hB
        exact ⟨hB, hP.blk (A1.under hb) (by omega), hP.blk (A2.under hb) (by omega), (HB.trans (hb.mono HB.size)).trans (hP.below (by omega))⟩
      rintro wt ⟨A4, A14, A24, HB4⟩
      simp only [putR, List.foldl_cons, List.foldl_nil, List.map_cons, List.map_nil, Act.put, List.setIfInBounds_toArray, List.set_cons_succ, List.set_cons_zero]
      clear A0 A1 A2 HB gx gy gz CS
      go_wp2_with fail
      go_roundg (gk - 1)
      case measure => omega
      case rel => exact ⟨i + 1, hi, by omega, rfl, by simp, hc2, HB4, A4, A14, A24⟩

theorem wd_digit (N i : Nat) : wd N (i / 8) / 2 ^ (i % 8 * 8) % 256 = N / 256 ^ i % 256 := by
  unfold wd
  have e1 : (18446744073709551616 : Nat) = 256 ^ 8 := by decide
  have e2 : 256 ^ i = 256 ^ (8 * (i / 8)) * 256 ^ (i % 8) := by rw [← Nat.pow_add]; congr 1; omega
  have h8 : i % 8 < 8 := Nat.mod_lt _ (by decide)
  rw [e2, ← Nat.div_div_eq_div_mul, e1, ← Nat.pow_mul, pow256]
  generalize N / 256 ^ (8 * (i / 8)) = Y
  generalize i % 8 = r at *
  have e3 : (256 : Nat) ^ 8 = 256 ^ r * 256 ^ (8 - r) := by rw [← Nat.pow_add]; congr 1; omega
  rw [e3, Nat.mod_mul_right_div_self]
  have e4 : 256 ^ (8 - r) = 256 * 256 ^ (7 - r) := by rw [← Nat.pow_succ']; congr 1; omega
  rw [e4]
  exact Nat.mod_mod_of_dvd _ ⟨_, rfl⟩
theorem z16b_eq : (#[.int .u8 0, .int .u8 0, .int .u8 0, .int .u8 0, .int .u8 0, .int .u8 0, .int .u8 0, .int .u8 0, .int .u8 0, .int .u8 0, .int .u8 0, .int .u8 0, .int .u8 0, .int .u8 0, .int .u8 0, .int .u8 0] : Array Value) = ints .u8 (List.replicate 16 0) := by kernel_rfl
set_option maxRecDepth 100000 in
set_option maxHeartbeats 1000000 in
theorem bytesD (N : Nat) (w : World) :
    Calls Try.prog 40 #[.agg (ints .u64 (nw N))] w fun e w' => e = .returned (.agg (ints .u8 (digs N 16))) ∧ Below w.heap.size w w' := by
  obtain ⟨L, hL⟩ : ∃ L, L = digs N 16 := ⟨_, rfl⟩
  obtain ⟨s, hs⟩ : ∃ s, s = nw N := ⟨_, rfl⟩
  rw [← hL, ← hs]
  have EL : Kept _ := ⟨hL⟩
  have ES : Kept _ := ⟨hs⟩
  have HL : Kept (L.length = 16) := ⟨by rw [hL]; exact digs_len _ _⟩
  obtain ⟨Z0, hZ⟩ : ∃ Z0, Z0 = List.replicate 16 0 := ⟨_, rfl⟩
  have HL2 : Kept (L.length = Z0.length) := ⟨by rw [HL.out, hZ]; rfl⟩
  have HZ : Kept (Z0.length = 16) := ⟨by rw [hZ]; rfl⟩
  have EI : Kept ((#[.int .u8 0, .int .u8 0, .int .u8 0, .int .u8 0, .int .u8 0, .int .u8 0, .int .u8 0, .int .u8 0, .int .u8 0, .int .u8 0, .int .u8 0, .int .u8 0, .int .u8 0, .int .u8 0, .int .u8 0, .int .u8 0] : Array Value) = ints .u8 Z0) := ⟨by rw [hZ]; exact z16b_eq⟩
  clear hZ hL hs
  go_enter Try.func40, Try.ntmps40
  go_wp2_with fail
  generalize hW : ((w.alloc (.cells (ints .u64 s) 67)).alloc (.cells #[.int .u8 0, .int .u8 0, .int .u8 0, .int .u8 0, .int .u8 0, .int .u8 0, .int .u8 0, .int .u8 0, .int .u8 0, .int .u8 0, .int .u8 0, .int .u8 0, .int .u8 0, .int .u8 0, .int .u8 0, .int .u8 0] 43)).alloc (.cells #[.int .u8 0, .int .u8 0, .int .u8 0, .int .u8 0, .int .u8 0, .int .u8 0, .int .u8 0, .int .u8 0, .int .u8 0, .int .u8 0, .int .u8 0, .int .u8 0, .int .u8 0, .int .u8 0, .int .u8 0, .int .u8 0] 43) = W
  have B0 : Blk W w.heap.size 67 (ints .u64 s) := by subst hW; exact ((blk_new w _ _).alloc _).alloc _
  have B1 : Blk W (w.heap.size + 1) 43 (ints .u8 Z0) := by subst hW; rw [← EI.out]; exact (blk_top _ _ _ _ (by simp)).alloc _
  have B2 : Blk W (w.heap.size + 2) 43 (ints .u8 (mix L Z0 0)) := by subst hW; rw [mix_zero, ← EI.out]; exact blk_top _ _ _ _ (by simp)
  have QB : Below w.heap.size w W := by subst hW; exact (((Below.refl _ _).alloc (Nat.le_refl _) _).alloc (by simp) _).alloc (by simp; omega) _
  clear hW EI
  go_loopg [5] 16 (fun k s5 wr => ∃ i : Nat, i + k = 16 ∧ s5 = .int .i64 (i : Int) ∧ Below w.heap.size w wr ∧ Blk wr w.heap.size 67 (ints .u64 s) ∧ Blk wr (w.heap.size + 1) 43 (ints .u8 Z0) ∧ Blk wr (w.heap.size + 2) 43 (ints .u8 (mix L Z0 i)))
  case atStart => exact ⟨0, by omega, rfl, QB, B0, B1, B2⟩
  case round =>
    obtain ⟨i, hik, rfl, HB, A0, A1, A2⟩ := hrel
    clear QB B0 B1 B2
    by_cases hk0 : gk = 0
    · obtain rfl : i = 16 := by omega
      have e : mix L Z0 16 = L := by rw [← HZ.out]; exact mix_all L Z0 HL2.out
      rw [e] at A2
      clear A0 e
      go_wp2_with (first | (refine wl_load rfl 43 (.tmp 3) rfl _ rfl (ints .u8 L) 16 5 Try.underlying43 (by rw [ints_size, HL.out]; exact a16_info) A2 ?_) | (refine wl_store rfl 43 (.tmp 2) (.tmp 20) rfl _ (ints .u8 L) rfl rfl _ A1 (by rw [ints_size, HL.out]; exact a16_info) (by rw [ints_size, ints_size, HL2.out]) (ints_one _ _) ?_))
      intro w3 A3 P3
      go_wp2
      exact bodyPost_ret (v := .agg (ints .u8 L)) (results_cell_row Try.results40 _ _ _ 43 (ints .u8 L) (0, 0) _ rfl A3 Try.underlying43 rfl (by rw [ints_size, HL.out]; exact a16_info)) rfl ⟨rfl, HB.trans (P3.below (by omega))⟩
    · have hil : i < 16 := by omega
      have hlt : ((i : Int) < 16) := by omega
      have hq8 : i / 8 < 3 := by omega
      obtain ⟨x, hx⟩ : ∃ x, x = wd N (i / 8) := ⟨_, rfl⟩
      have gx : (ints .u64 s)[i / 8]? = some (.int .u64 (x : Int)) := ints_get (by rw [ES.out, hx]; exact nw_get N _ hq8)
      have KX : Kept (x < 18446744073709551616) := ⟨by rw [hx]; exact wd_lt _ _⟩
      have l2 : i < (ints .u8 (mix L Z0 i)).size := by rw [ints_size, mix_len L _ i HL2.out, HZ.out]; exact hil
      obtain ⟨z, hz⟩ : ∃ z, z = x / 2 ^ (i % 8 * 8) % 256 := ⟨_, rfl⟩
      have gz : Kept (L[i]? = some z) := ⟨by rw [EL.out, hz, hx, wd_digit]; exact digs_get N 16 i hil⟩
      have ez : Kept ((x : Int) / 2 ^ (i % 8 * 8) % 256 = (z : Int)) := ⟨by rw [hz, Int.natCast_emod, Int.natCast_ediv, Int.natCast_pow]; rfl⟩
      clear hx hz
      go_wp2_with (first | (refine wl_elem rfl 23 ag_u64 (.tmp 11) rfl w.heap.size (i / 8) rfl (ints .u64 s) (.int .u64 (x : Int)) A0 gx ?_) | (refine wl_setElem rfl 5 sz_u8 (.tmp 18) (.tmp 17) rfl (w.heap.size + 1 + 1) i .u8 ((x : Int) / 2 ^ (i % 8 * 8) % 256) rfl rfl _ A2 l2 ?_))
      rw [ez.out]
      intro w4 A4 P4
      rw [ints_set, mix_set L _ i z HL2.out gz.out] at A4
      have A04 := P4.blk A0 (by omega)
      have A14 := P4.blk A1 (by omega)
      have HB4 := HB.trans (P4.below (by omega))
      clear A0 A1 A2 HB P4 gx gz ez l2
      go_wp2_with fail
      go_roundg (gk - 1)
      case measure => omega
      case rel => exact ⟨i + 1, by omega, by simp, HB4, A04, A14, A4⟩
end Go.Proofs.Ytpamcmhfimnfbaa.sh
/-
  The words of a key and of a piece of a text, by the program.
-/
namespace Go.Proofs.Ytpamcmhfimnfbaa.sh
open Go Go.RowKit
set_option linter.unusedVariables false
set_option linter.unusedSimpArgs false

theorem val_take (L : List Nat) (hy : ∀ x ∈ L, x < 256) (k : Nat) : val (L.take k) = val L % 256 ^ k ∧ val (L.drop k) = val L / 256 ^ k := by
  have hs := val_split L k
  have hlt : val (L.take k) < 256 ^ k := by
    have h1 := val_lt (L.take k) (fun x hx => hy x (List.mem_of_mem_take hx))
    have h2 : 256 ^ (L.take k).length ≤ 256 ^ k := Nat.pow_le_pow_right (by decide) (by simp; omega)
    omega
  have hp : 0 < 256 ^ k := Nat.pow_pos (by decide)
  rw [hs]
  exact ⟨by rw [Nat.add_mul_mod_self_left, Nat.mod_eq_of_lt hlt], by rw [Nat.add_mul_div_left _ _ hp, Nat.div_eq_of_lt hlt, Nat.zero_add]⟩
theorem wd_val (L : List Nat) (hy : ∀ x ∈ L, x < 256) (j : Nat) : wd (val L) j = val ((L.drop (8 * j)).take 8) := by
  unfold wd
  rw [(val_take (L.drop (8 * j)) (fun x hx => hy x (List.mem_of_mem_drop hx)) 8).1, (val_take L hy (8 * j)).2, show (18446744073709551616 : Nat) = 256 ^ 8 by decide, ← Nat.pow_mul]
theorem wd_and (A B j : Nat) : wd (A &&& B) j = wd A j &&& wd B j := by
  unfold wd
  rw [show (18446744073709551616 : Nat) = 2 ^ 64 by decide, ← Nat.pow_mul, Nat.and_div_two_pow, Nat.and_mod_two_pow]
theorem rN_and (key : List Nat) (h : key.length = 32) (hy : Bytes key) : rN key = val (key.take 16) &&& val maskL := by
  unfold rN clampL
  rw [← val_and _ _ (by simp [h, maskL]) (hy.take 16).all (by decide)]
theorem rN_wd0 (key : List Nat) (h : key.length = 32) (hy : Bytes key) : wd (rN key) 0 = val ((key.drop 0).take 8) &&& 1152921487695413247 := by
  rw [rN_and key h hy, wd_and, wd_val _ (hy.take 16).all, maskL_val]
  congr 1
  rw [Nat.mul_zero, List.drop_zero, List.drop_zero, List.take_take]
  rfl
theorem rN_wd1 (key : List Nat) (h : key.length = 32) (hy : Bytes key) : wd (rN key) 1 = val ((key.drop 8).take 8) &&& 1152921487695413244 := by
  rw [rN_and key h hy, wd_and, wd_val _ (hy.take 16).all, maskL_val]
  congr 1
  rw [List.drop_take, List.take_take]
  rfl
theorem rN_low (key : List Nat) (h : key.length = 32) (hy : Bytes key) : wd (rN key) 0 < 1152921504606846976 := by
  rw [rN_wd0 key h hy]
  exact Nat.lt_of_le_of_lt Nat.and_le_right (by decide)
theorem sN_nw (key : List Nat) (h : key.length = 32) (hy : Bytes key) : nw (sN key) = [val ((key.drop 16).take 8), val ((key.drop 24).take 8), 0] := by
  unfold nw
  have h2 : wd (sN key) 2 = 0 := by
    have := sN_lt key h hy
    rw [wd2]
    omega
  rw [h2]
  unfold sN
  rw [wd_val _ (hy.drop 16).all, wd_val _ (hy.drop 16).all, List.drop_drop, List.drop_drop]

theorem run_andC {o : Oper} {a : Act} {x : Operand} {m z : Nat} (c : Nat) (ho : o.op = .binOp .and 23 x (.const (.int .u64 (c : Int))) 23) (hx : a.eval x = .int .u64 (m : Int)) (hm : m < 18446744073709551616) (hc : c < 18446744073709551616) (hz : z = m &&& c) (w : World) : (execOp a.eval o).run Try.prog w = .ok (.value (.int .u64 (z : Int))) w := by
  have e3 : a.eval (.const (.int .u64 (c : Int))) = .int .u64 (c : Int) := rfl
  have h := u64_and_nat m c hm hc
  unfold execOp
  simp only [ho, hx, e3]
  rw [hz]
  simp [go_sem]
  exact h
theorem val_8 (L : List Nat) (hy : Bytes L) (k : Nat) : val ((L.drop k).take 8) < 18446744073709551616 := by
  have h1 := val_lt _ ((hy.drop k).take 8).all
  have h2 : 256 ^ ((L.drop k).take 8).length ≤ 256 ^ 8 := Nat.pow_le_pow_right (by decide) (by simp; omega)
  exact Nat.lt_of_lt_of_le h1 h2

set_option maxRecDepth 100000 in
set_option maxHeartbeats 1000000 in
theorem factorD (key : List Nat) (w : World) (hk : key.length = 32) (hy : Bytes key) :
    Calls Try.prog 34 #[.agg (ints .u8 key)] w fun e w' => e = .returned (.agg (ints .u64 (nw2 (rN key)))) ∧ Below w.heap.size w w' := by
  obtain ⟨x0, hx0⟩ : ∃ x, x = val ((key.drop 0).take 8) := ⟨_, rfl⟩
  obtain ⟨x1, hx1⟩ : ∃ x, x = val ((key.drop 8).take 8) := ⟨_, rfl⟩
  obtain ⟨y0, hy0⟩ : ∃ x, x = x0 &&& 1152921487695413247 := ⟨_, rfl⟩
  obtain ⟨y1, hy1⟩ : ∃ x, x = x1 &&& 1152921487695413244 := ⟨_, rfl⟩
  have e : nw2 (rN key) = [y0, y1] := by unfold nw2; rw [rN_wd0 key hk hy, rN_wd1 key hk hy, hy0, hy1, hx0, hx1]
  rw [e]
  have X0 : Kept (x0 < 18446744073709551616) := ⟨by rw [hx0]; exact val_8 key hy 0⟩
  have X1 : Kept (x1 < 18446744073709551616) := ⟨by rw [hx1]; exact val_8 key hy 8⟩
  have Y0 : Kept _ := ⟨hy0⟩
  have Y1 : Kept _ := ⟨hy1⟩
  have A0 : Blk ((w.alloc (.cells (ints .u8 key) 22)).alloc (.cells #[.int .u64 0, .int .u64 0] 64)) w.heap.size 22 (ints .u8 key) := (blk_new w _ _).alloc _
  obtain ⟨ZZ, hZZ⟩ : ∃ ZZ : Array Value, ZZ = #[.int .u64 0, .int .u64 0] := ⟨_, rfl⟩
  have LZ : Kept (ZZ.size = 2) := ⟨by rw [hZZ]; rfl⟩
  have A1 : Blk ((w.alloc (.cells (ints .u8 key) 22)).alloc (.cells #[.int .u64 0, .int .u64 0] 64)) (w.heap.size + 1) 64 ZZ := by rw [hZZ]; exact blk_top _ _ _ _ (by simp)
  have Q0 : Below w.heap.size w ((w.alloc (.cells (ints .u8 key) 22)).alloc (.cells #[.int .u64 0, .int .u64 0] 64)) := ((Below.refl _ _).alloc (Nat.le_refl _) _).alloc (by simp) _
  go_enter Try.func34, Try.ntmps34
  go_wp2_with fail
  generalize hW : (w.alloc (.cells (ints .u8 key) 22)).alloc (.cells #[.int .u64 0, .int .u64 0] 64) = W at *
  have C0 : Kept (∀ w', Below W.heap.size W w' → Calls Try.prog 49 [.slice (some ⟨w.heap.size, 0, none⟩) 8 32].toArray w' fun e w2 => e = .returned (.int .u64 (x0 : Int)) ∧ Below w'.heap.size w' w2) := ⟨fun w' hb => wordD w.heap.size 0 32 _ key w' (A0.under hb) hy (by omega) x0 hx0⟩
  have C1 : Kept (∀ w', Below W.heap.size W w' → Calls Try.prog 49 [.slice (some ⟨w.heap.size, 8, none⟩) 8 24].toArray w' fun e w2 => e = .returned (.int .u64 (x1 : Int)) ∧ Below w'.heap.size w' w2) := ⟨fun w' hb => wordD w.heap.size 8 24 _ key w' (A0.under hb) hy (by omega) x1 hx1⟩
  clear hW hZZ hx0 hx1 hy0 hy1 e
  refine region_ownL W 7 [(3, .slice (some ⟨w.heap.size, 0, none⟩) 8 32), (4, .int .u64 (x0 : Int)), (5, .int .u64 (y0 : Int)), (6, .slice (some ⟨w.heap.size, 8, none⟩) 8 24), (7, .int .u64 (x1 : Int)), (8, .int .u64 (y1 : Int)), (9, .agg (ints .u64 [y0, y1]))] [] [] [] rfl (by kernel_rfl) (by kernel_rfl) (by kernel_rfl) (by kernel_rfl) (by kernel_rfl) (by kernel_rfl) (by kernel_rfl) (by kernel_rfl) (by kernel_rfl) (by kernel_rfl) (by kernel_rfl) ?hst1 ?hst2 (Below.refl _ _) (fun hA => ⟨ow_val hA (wants_none rfl) 3 (.slice (some ⟨w.heap.size, 0, none⟩) 8 32) (by kernel_rfl) rfl rfl rfl rfl (by kernel_rfl) (fun w => arr_ft_run 0 8 rfl (by kernel_rfl) Try.underlying22 sz_u8 (by decide) (by decide) (by decide) w), ow_calld hA (wants_none rfl) 4 (.int .u64 (x0 : Int)) (by kernel_rfl) rfl rfl rfl rfl (by kernel_rfl) 49 Try.f49 _ [.tmp 3] _ [.slice (some ⟨w.heap.size, 0, none⟩) 8 32] rfl (by kernel_rfl) Try.func49 (by kernel_rfl) rfl (C0.out), ow_val hA (wants_none rfl) 5 (.int .u64 (y0 : Int)) (by kernel_rfl) rfl rfl rfl rfl (by kernel_rfl) (fun w => run_andC 1152921487695413247 rfl (by kernel_rfl) X0.out (by decide) Y0.out w), ow_val hA (wants_none rfl) 6 (.slice (some ⟨w.heap.size, 8, none⟩) 8 24) (by kernel_rfl) rfl rfl rfl rfl (by kernel_rfl) (fun w => arr_ft_run 8 16 rfl (by kernel_rfl) Try.underlying22 sz_u8 (by decide) (by decide) (by decide) w), ow_calld hA (wants_none rfl) 7 (.int .u64 (x1 : Int)) (by kernel_rfl) rfl rfl rfl rfl (by kernel_rfl) 49 Try.f49 _ [.tmp 6] _ [.slice (some ⟨w.heap.size, 8, none⟩) 8 24] rfl (by kernel_rfl) Try.func49 (by kernel_rfl) rfl (C1.out), ow_val hA (wants_none rfl) 8 (.int .u64 (y1 : Int)) (by kernel_rfl) rfl rfl rfl rfl (by kernel_rfl) (fun w => run_andC 1152921487695413244 rfl (by kernel_rfl) X1.out (by decide) Y1.out w), ow_val hA (wants_none rfl) 9 (.agg (ints .u64 [y0, y1])) (by kernel_rfl) rfl rfl rfl rfl (by kernel_rfl) (fun w => run_build2 rfl (by kernel_rfl) (by kernel_rfl) w), trivial⟩) ?_
  case hst1 => intro q hq; cases hq
  case hst2 => intro q hq; cases hq
  intro fv w4 hf hD hb4
  simp only [putR, List.foldl_cons, List.foldl_nil, List.map_cons, List.map_nil, Act.put, List.setIfInBounds_toArray, List.set_cons_succ, List.set_cons_zero]
  refine wl_store rfl 64 (.tmp 2) (.tmp 9) rfl (w.heap.size + 1) (ints .u64 [y0, y1]) (by kernel_rfl) (by kernel_rfl) _ (A1.under hb4) (by rw [ints_size]; exact a2_info) (by rw [ints_size, LZ.out]; rfl) (ints_one _ _) ?_
  intro w5 A5 P5
  go_wp2
  exact bodyPost_ret (v := .agg (ints .u64 [y0, y1])) (results_cell_row Try.results34 _ _ _ 64 (ints .u64 [y0, y1]) (0, 0) _ rfl A5 Try.underlying64 rfl (by rw [ints_size]; exact a2_info)) rfl ⟨rfl, (Q0.trans (hb4.mono Q0.size)).trans (P5.below (by omega))⟩

set_option maxRecDepth 100000 in
set_option maxHeartbeats 1000000 in
theorem addendD (key : List Nat) (w : World) (hk : key.length = 32) (hy : Bytes key) :
    Calls Try.prog 39 #[.agg (ints .u8 key)] w fun e w' => e = .returned (.agg (ints .u64 (nw (sN key)))) ∧ Below w.heap.size w w' := by
  obtain ⟨x0, hx0⟩ : ∃ x, x = val ((key.drop 16).take 8) := ⟨_, rfl⟩
  obtain ⟨x1, hx1⟩ : ∃ x, x = val ((key.drop 24).take 8) := ⟨_, rfl⟩
  have e : nw (sN key) = [x0, x1, 0] := by rw [sN_nw key hk hy, hx0, hx1]
  rw [e]
  have A0 : Blk ((w.alloc (.cells (ints .u8 key) 22)).alloc (.cells #[.int .u64 0, .int .u64 0, .int .u64 0] 67)) w.heap.size 22 (ints .u8 key) := (blk_new w _ _).alloc _
  obtain ⟨ZZ, hZZ⟩ : ∃ ZZ : Array Value, ZZ = #[.int .u64 0, .int .u64 0, .int .u64 0] := ⟨_, rfl⟩
  have LZ : Kept (ZZ.size = 3) := ⟨by rw [hZZ]; rfl⟩
  have A1 : Blk ((w.alloc (.cells (ints .u8 key) 22)).alloc (.cells #[.int .u64 0, .int .u64 0, .int .u64 0] 67)) (w.heap.size + 1) 67 ZZ := by rw [hZZ]; exact blk_top _ _ _ _ (by simp)
  have Q0 : Below w.heap.size w ((w.alloc (.cells (ints .u8 key) 22)).alloc (.cells #[.int .u64 0, .int .u64 0, .int .u64 0] 67)) := ((Below.refl _ _).alloc (Nat.le_refl _) _).alloc (by simp) _
  go_enter Try.func39, Try.ntmps39
  go_wp2_with fail
  generalize hW : (w.alloc (.cells (ints .u8 key) 22)).alloc (.cells #[.int .u64 0, .int .u64 0, .int .u64 0] 67) = W at *
  have C0 : Kept (∀ w', Below W.heap.size W w' → Calls Try.prog 49 [.slice (some ⟨w.heap.size, 16, none⟩) 8 16].toArray w' fun e w2 => e = .returned (.int .u64 (x0 : Int)) ∧ Below w'.heap.size w' w2) := ⟨fun w' hb => wordD w.heap.size 16 16 _ key w' (A0.under hb) hy (by omega) x0 hx0⟩
  have C1 : Kept (∀ w', Below W.heap.size W w' → Calls Try.prog 49 [.slice (some ⟨w.heap.size, 24, none⟩) 8 8].toArray w' fun e w2 => e = .returned (.int .u64 (x1 : Int)) ∧ Below w'.heap.size w' w2) := ⟨fun w' hb => wordD w.heap.size 24 8 _ key w' (A0.under hb) hy (by omega) x1 hx1⟩
  clear hW hZZ hx0 hx1 e
  refine region_ownL W 5 [(3, .slice (some ⟨w.heap.size, 16, none⟩) 8 16), (4, .int .u64 (x0 : Int)), (5, .slice (some ⟨w.heap.size, 24, none⟩) 8 8), (6, .int .u64 (x1 : Int)), (7, .agg (ints .u64 [x0, x1, 0]))] [] [] [] rfl (by kernel_rfl) (by kernel_rfl) (by kernel_rfl) (by kernel_rfl) (by kernel_rfl) (by kernel_rfl) (by kernel_rfl) (by kernel_rfl) (by kernel_rfl) (by kernel_rfl) (by kernel_rfl) ?hst1 ?hst2 (Below.refl _ _) (fun hA => ⟨ow_val hA (wants_none rfl) 3 (.slice (some ⟨w.heap.size, 16, none⟩) 8 16) (by kernel_rfl) rfl rfl rfl rfl (by kernel_rfl) (fun w => arr_ft_run 16 24 rfl (by kernel_rfl) Try.underlying22 sz_u8 (by decide) (by decide) (by decide) w), ow_calld hA (wants_none rfl) 4 (.int .u64 (x0 : Int)) (by kernel_rfl) rfl rfl rfl rfl (by kernel_rfl) 49 Try.f49 _ [.tmp 3] _ [.slice (some ⟨w.heap.size, 16, none⟩) 8 16] rfl (by kernel_rfl) Try.func49 (by kernel_rfl) rfl (C0.out), ow_val hA (wants_none rfl) 5 (.slice (some ⟨w.heap.size, 24, none⟩) 8 8) (by kernel_rfl) rfl rfl rfl rfl (by kernel_rfl) (fun w => arr_ft_run 24 32 rfl (by kernel_rfl) Try.underlying22 sz_u8 (by decide) (by decide) (by decide) w), ow_calld hA (wants_none rfl) 6 (.int .u64 (x1 : Int)) (by kernel_rfl) rfl rfl rfl rfl (by kernel_rfl) 49 Try.f49 _ [.tmp 5] _ [.slice (some ⟨w.heap.size, 24, none⟩) 8 8] rfl (by kernel_rfl) Try.func49 (by kernel_rfl) rfl (C1.out), ow_val hA (wants_none rfl) 7 (.agg (ints .u64 [x0, x1, 0])) (by kernel_rfl) rfl rfl rfl rfl (by kernel_rfl) (fun w => run_build32 rfl (by kernel_rfl) (by kernel_rfl) w), trivial⟩) ?_
  case hst1 => intro q hq; cases hq
  case hst2 => intro q hq; cases hq
  intro fv w4 hf hD hb4
  simp only [putR, List.foldl_cons, List.foldl_nil, List.map_cons, List.map_nil, Act.put, List.setIfInBounds_toArray, List.set_cons_succ, List.set_cons_zero]
  refine wl_store rfl 67 (.tmp 2) (.tmp 7) rfl (w.heap.size + 1) (ints .u64 [x0, x1, 0]) (by kernel_rfl) (by kernel_rfl) _ (A1.under hb4) (by rw [ints_size]; exact nt_info) (by rw [ints_size, LZ.out]; rfl) (ints_one _ _) ?_
  intro w5 A5 P5
  go_wp2
  exact bodyPost_ret (v := .agg (ints .u64 [x0, x1, 0])) (results_cell_row Try.results39 _ _ _ 67 (ints .u64 [x0, x1, 0]) (0, 0) _ rfl A5 Try.underlying67 rfl (by rw [ints_size]; exact nt_info)) rfl ⟨rfl, (Q0.trans (hb4.mono Q0.size)).trans (P5.below (by omega))⟩

theorem val_zeros (n : Nat) : val (List.replicate n 0) = 0 := by
  induction n with
  | zero => rfl
  | succ n ih => simp [List.replicate_succ, val, ih]
theorem read_list (b : List Nat) (h : b.length ≤ 16) : (splice (List.replicate 24 0) 0 b).set b.length 1 = b ++ [1] ++ List.replicate (23 - b.length) 0 := by
  unfold splice
  rw [List.take_zero, List.nil_append, Nat.zero_add, List.drop_replicate, List.set_append_right _ _ (Nat.le_refl _), Nat.sub_self, show 24 - b.length = (23 - b.length) + 1 by omega, List.replicate_succ, List.set_cons_zero, List.append_assoc]
  rfl
theorem z24_eq : (#[.int .u8 0, .int .u8 0, .int .u8 0, .int .u8 0, .int .u8 0, .int .u8 0, .int .u8 0, .int .u8 0, .int .u8 0, .int .u8 0, .int .u8 0, .int .u8 0, .int .u8 0, .int .u8 0, .int .u8 0, .int .u8 0, .int .u8 0, .int .u8 0, .int .u8 0, .int .u8 0, .int .u8 0, .int .u8 0, .int .u8 0, .int .u8 0] : Array Value) = ints .u8 (List.replicate 24 0) := by kernel_rfl
theorem a24_info : (Try.prog.info? 87).map (·.size) = some 24 := by kernel_rfl
set_option maxRecDepth 100000 in
set_option maxHeartbeats 1000000 in
theorem readD (b : List Nat) (p : Option Addr) (c : Nat) (w : World) (hl : b.length ≤ 16) (hy : Bytes b) (hv : BytesV (.slice p b.length c) w b) :
    Calls Try.prog 36 #[.slice p b.length c] w fun e w' => e = .returned (.agg (ints .u64 (nw (val (b ++ [1]))))) ∧ Below w.heap.size w w' := by
  obtain ⟨Z0, hZ0⟩ : ∃ Z, Z = List.replicate 24 0 := ⟨_, rfl⟩
  obtain ⟨B1, hB1⟩ : ∃ B, B = splice Z0 0 b := ⟨_, rfl⟩
  obtain ⟨B2, hB2⟩ : ∃ B, B = B1.set b.length 1 := ⟨_, rfl⟩
  have EB2 : B2 = b ++ [1] ++ List.replicate (23 - b.length) 0 := by rw [hB2, hB1, hZ0]; exact read_list b hl
  have L2 : Kept (B2.length = 24) := ⟨by rw [EB2]; simp; omega⟩
  have Y2 : Kept (Bytes B2) := ⟨by rw [EB2]; exact (hy.append (bytes_of_all (by decide))).append (bytes_zero _)⟩
  have V2 : val B2 = val (b ++ [1]) := by rw [EB2, val_append, val_zeros, Nat.mul_zero, Nat.add_zero]
  obtain ⟨x0, hx0⟩ : ∃ x, x = val ((B2.drop 0).take 8) := ⟨_, rfl⟩
  obtain ⟨x1, hx1⟩ : ∃ x, x = val ((B2.drop 8).take 8) := ⟨_, rfl⟩
  obtain ⟨x2, hx2⟩ : ∃ x, x = val ((B2.drop 16).take 8) := ⟨_, rfl⟩
  have e : nw (val (b ++ [1])) = [x0, x1, x2] := by unfold nw; rw [← V2, wd_val _ Y2.out.all, wd_val _ Y2.out.all, wd_val _ Y2.out.all, hx0, hx1, hx2]
  rw [e]
  obtain ⟨n, hn⟩ : ∃ n, n = b.length := ⟨_, rfl⟩
  rw [← hn] at hv hl hB2 ⊢
  have KV : Kept _ := ⟨hv⟩
  have KN : Kept _ := ⟨hn⟩
  have LZ0 : Kept (Z0.length = 24) := ⟨by rw [hZ0]; rfl⟩
  have L1 : Kept (B1.length = 24) := ⟨by rw [hB1, splice_len (by rw [LZ0.out, ← hn]; omega)]; exact LZ0.out⟩
  have HB1 : Kept ((splice (ints .u8 Z0).toList 0 (ints .u8 (b.take n)).toList).toArray = ints .u8 B1) := ⟨by rw [splice_ints, List.take_of_length_le (by omega), ← hB1]⟩
  have HB2 : Kept (B1.set n 1 = B2) := ⟨hB2.symm⟩
  obtain ⟨ZZ, hZZ⟩ : ∃ ZZ : Array Value, ZZ = #[.int .u64 0, .int .u64 0, .int .u64 0] := ⟨_, rfl⟩
  have LZ : Kept (ZZ.size = 3) := ⟨by rw [hZZ]; rfl⟩
  have A0 : Blk ((w.alloc (.cells #[.int .u64 0, .int .u64 0, .int .u64 0] 67)).alloc (.cells #[.int .u8 0, .int .u8 0, .int .u8 0, .int .u8 0, .int .u8 0, .int .u8 0, .int .u8 0, .int .u8 0, .int .u8 0, .int .u8 0, .int .u8 0, .int .u8 0, .int .u8 0, .int .u8 0, .int .u8 0, .int .u8 0, .int .u8 0, .int .u8 0, .int .u8 0, .int .u8 0, .int .u8 0, .int .u8 0, .int .u8 0, .int .u8 0] 87)) w.heap.size 67 ZZ := by rw [hZZ]; exact (blk_new w _ _).alloc _
  have A1 : Blk ((w.alloc (.cells #[.int .u64 0, .int .u64 0, .int .u64 0] 67)).alloc (.cells #[.int .u8 0, .int .u8 0, .int .u8 0, .int .u8 0, .int .u8 0, .int .u8 0, .int .u8 0, .int .u8 0, .int .u8 0, .int .u8 0, .int .u8 0, .int .u8 0, .int .u8 0, .int .u8 0, .int .u8 0, .int .u8 0, .int .u8 0, .int .u8 0, .int .u8 0, .int .u8 0, .int .u8 0, .int .u8 0, .int .u8 0, .int .u8 0] 87)) (w.heap.size + 1) 87 (ints .u8 Z0) := by rw [hZ0, ← z24_eq]; exact blk_top _ _ _ _ (by simp)
  have Q0 : Below w.heap.size w ((w.alloc (.cells #[.int .u64 0, .int .u64 0, .int .u64 0] 67)).alloc (.cells #[.int .u8 0, .int .u8 0, .int .u8 0, .int .u8 0, .int .u8 0, .int .u8 0, .int .u8 0, .int .u8 0, .int .u8 0, .int .u8 0, .int .u8 0, .int .u8 0, .int .u8 0, .int .u8 0, .int .u8 0, .int .u8 0, .int .u8 0, .int .u8 0, .int .u8 0, .int .u8 0, .int .u8 0, .int .u8 0, .int .u8 0, .int .u8 0] 87)) := ((Below.refl _ _).alloc (Nat.le_refl _) _).alloc (by simp) _
  have VV : Kept (BytesV (.slice p n c) ((w.alloc (.cells #[.int .u64 0, .int .u64 0, .int .u64 0] 67)).alloc (.cells #[.int .u8 0, .int .u8 0, .int .u8 0, .int .u8 0, .int .u8 0, .int .u8 0, .int .u8 0, .int .u8 0, .int .u8 0, .int .u8 0, .int .u8 0, .int .u8 0, .int .u8 0, .int .u8 0, .int .u8 0, .int .u8 0, .int .u8 0, .int .u8 0, .int .u8 0, .int .u8 0, .int .u8 0, .int .u8 0, .int .u8 0, .int .u8 0] 87)) b) := ⟨hv.under Q0⟩
  have hn24 : n < 24 := by omega
  have hmin : Kept (n = Nat.min n 24) := ⟨(Nat.min_eq_left (by omega)).symm⟩
  clear hZ0 hB1 hB2 hZZ hv e hn V2 EB2
  go_enter Try.func36, Try.ntmps36
  go_wp2_with (first | ((with_reducible refine wv_val (d := 4) ?hd ?hw (.slice (some ⟨w.heap.size + 1, 0, none⟩) 24 24) ?hr ?_); (case hd => rfl); (case hw => kernel_rfl); (case hr => intro w; exact arr_all_run rfl (by kernel_rfl) Try.underlying87 sz_u8 (by decide) w); simp only [Act.put, List.setIfInBounds_toArray, List.set_cons_succ, List.set_cons_zero]) | (refine wl_copyV rfl (.tmp 4) (.tmp 5) 24 24 rfl Try.underlying24 (w.heap.size + 1) 0 24 24 rfl p n c rfl _ A1 b VV.out n hmin.out (by rw [ints_size, LZ0.out]; omega) ?_))
  intro w2 B1' P2
  rw [HB1.out] at B1'
  have B0' := P2.blk A0 (by omega)
  have Q2 := Q0.trans (P2.below (by omega))
  clear A0 A1 Q0 P2 HB1 VV hmin
  go_wp2_with (first | ((with_reducible refine wv_val (d := 9) ?hd ?hw (.pointer (some ⟨w.heap.size + 1, n, none⟩)) ?hr ?_); (case hd => rfl); (case hw => kernel_rfl); (case hr => intro w; exact run_idx rfl (by kernel_rfl) (by kernel_rfl) Try.underlying87 hn24 sz_u8 w); simp only [Act.put, List.setIfInBounds_toArray, List.set_cons_succ, List.set_cons_zero]) | (refine wl_setElem rfl 5 sz_u8 (.tmp 9) (.const (.int .u8 1)) rfl (w.heap.size + 1) n .u8 ((1 : Nat) : Int) rfl rfl _ B1' (by rw [ints_size, L1.out]; exact hn24) ?_))
  intro w4 D1 P4
  have D1 : Blk w4 (w.heap.size + 1) 87 (ints .u8 B2) := by rw [← HB2.out, ← ints_set]; exact D1
  have D0 := P4.blk B0' (by omega)
  have Q4 := Q2.trans (P4.below (by omega))
  have C0 : Kept (∀ w', Below w4.heap.size w4 w' → Calls Try.prog 49 [.slice (some ⟨w.heap.size + 1, 0, none⟩) 8 24].toArray w' fun e w2 => e = .returned (.int .u64 (x0 : Int)) ∧ Below w'.heap.size w' w2) := ⟨fun w' hb => wordD (w.heap.size + 1) 0 24 _ B2 w' (D1.under hb) Y2.out (by rw [L2.out]; decide) x0 hx0⟩
  have C1 : Kept (∀ w', Below w4.heap.size w4 w' → Calls Try.prog 49 [.slice (some ⟨w.heap.size + 1, 8, none⟩) 8 16].toArray w' fun e w2 => e = .returned (.int .u64 (x1 : Int)) ∧ Below w'.heap.size w' w2) := ⟨fun w' hb => wordD (w.heap.size + 1) 8 16 _ B2 w' (D1.under hb) Y2.out (by rw [L2.out]; decide) x1 hx1⟩
  have C2 : Kept (∀ w', Below w4.heap.size w4 w' → Calls Try.prog 49 [.slice (some ⟨w.heap.size + 1, 16, none⟩) 8 8].toArray w' fun e w2 => e = .returned (.int .u64 (x2 : Int)) ∧ Below w'.heap.size w' w2) := ⟨fun w' hb => wordD (w.heap.size + 1) 16 8 _ B2 w' (D1.under hb) Y2.out (by rw [L2.out]; decide) x2 hx2⟩
  clear B0' B1' Q2 P4 HB2 hx0 hx1 hx2
  go_wp2_with fail
  refine region_ownL w4 7 [(10, .slice (some ⟨w.heap.size + 1, 0, none⟩) 8 24), (11, .int .u64 (x0 : Int)), (12, .slice (some ⟨w.heap.size + 1, 8, none⟩) 8 16), (13, .int .u64 (x1 : Int)), (14, .slice (some ⟨w.heap.size + 1, 16, none⟩) 8 8), (15, .int .u64 (x2 : Int)), (16, .agg (ints .u64 [x0, x1, x2]))] [] [] [] rfl (by kernel_rfl) (by kernel_rfl) (by kernel_rfl) (by kernel_rfl) (by kernel_rfl) (by kernel_rfl) (by kernel_rfl) (by kernel_rfl) (by kernel_rfl) (by kernel_rfl) (by kernel_rfl) ?hst1 ?hst2 (Below.refl _ _) (fun hA => ⟨ow_val hA (wants_none rfl) 10 (.slice (some ⟨w.heap.size + 1, 0, none⟩) 8 24) (by kernel_rfl) rfl rfl rfl rfl (by kernel_rfl) (fun w => arr_ft_run 0 8 rfl (by kernel_rfl) Try.underlying87 sz_u8 (by decide) (by decide) (by decide) w), ow_calld hA (wants_none rfl) 11 (.int .u64 (x0 : Int)) (by kernel_rfl) rfl rfl rfl rfl (by kernel_rfl) 49 Try.f49 _ [.tmp 10] _ [.slice (some ⟨w.heap.size + 1, 0, none⟩) 8 24] rfl (by kernel_rfl) Try.func49 (by kernel_rfl) rfl (C0.out), ow_val hA (wants_none rfl) 12 (.slice (some ⟨w.heap.size + 1, 8, none⟩) 8 16) (by kernel_rfl) rfl rfl rfl rfl (by kernel_rfl) (fun w => arr_ft_run 8 16 rfl (by kernel_rfl) Try.underlying87 sz_u8 (by decide) (by decide) (by decide) w), ow_calld hA (wants_none rfl) 13 (.int .u64 (x1 : Int)) (by kernel_rfl) rfl rfl rfl rfl (by kernel_rfl) 49 Try.f49 _ [.tmp 12] _ [.slice (some ⟨w.heap.size + 1, 8, none⟩) 8 16] rfl (by kernel_rfl) Try.func49 (by kernel_rfl) rfl (C1.out), ow_val hA (wants_none rfl) 14 (.slice (some ⟨w.heap.size + 1, 16, none⟩) 8 8) (by kernel_rfl) rfl rfl rfl rfl (by kernel_rfl) (fun w => arr_ft_run 16 24 rfl (by kernel_rfl) Try.underlying87 sz_u8 (by decide) (by decide) (by decide) w), ow_calld hA (wants_none rfl) 15 (.int .u64 (x2 : Int)) (by kernel_rfl) rfl rfl rfl rfl (by kernel_rfl) 49 Try.f49 _ [.tmp 14] _ [.slice (some ⟨w.heap.size + 1, 16, none⟩) 8 8] rfl (by kernel_rfl) Try.func49 (by kernel_rfl) rfl (C2.out), ow_val hA (wants_none rfl) 16 (.agg (ints .u64 [x0, x1, x2])) (by kernel_rfl) rfl rfl rfl rfl (by kernel_rfl) (fun w => run_build3 rfl (by kernel_rfl) (by kernel_rfl) (by kernel_rfl) w), trivial⟩) ?_
  case hst1 => intro q hq; cases hq
  case hst2 => intro q hq; cases hq
  intro fv w6 hf hD hb6
  simp only [putR, List.foldl_cons, List.foldl_nil, List.map_cons, List.map_nil, Act.put, List.setIfInBounds_toArray, List.set_cons_succ, List.set_cons_zero]
  refine wl_store rfl 67 (.tmp 2) (.tmp 16) rfl w.heap.size (ints .u64 [x0, x1, x2]) (by kernel_rfl) (by kernel_rfl) _ (D0.under hb6) (by rw [ints_size]; exact nt_info) (by rw [ints_size, LZ.out]; rfl) (ints_one _ _) ?_
  intro w7 A7 P7
  go_wp2
  exact bodyPost_ret (v := .agg (ints .u64 [x0, x1, x2])) (results_cell_row Try.results36 _ _ _ 67 (ints .u64 [x0, x1, x2]) (0, 0) _ rfl A7 Try.underlying67 rfl (by rw [ints_size]; exact nt_info)) rfl ⟨rfl, (Q4.trans (hb6.mono Q4.size)).trans (P7.below (Nat.le_refl _))⟩
end Go.Proofs.Ytpamcmhfimnfbaa.sh
/-
  The tag of bytes, by the program.
-/
namespace Go.Proofs.Ytpamcmhfimnfbaa.sh
open Go Go.RowKit
set_option linter.unusedVariables false
set_option linter.unusedSimpArgs false

theorem cut_fr {o : Oper} {a : Act} {x y : Operand} {p pf : Option Addr} {l c k mm cc : Nat} {t e : TypeId} (ho : o.op = .slice t x (some y) none none) (hx : a.eval x = .slice p l c) (hy : a.eval y = .int .i64 (k : Int)) (ht : Try.prog.underlying t = some (.slice e)) (sz : ∀ w, (sizeOf e).run Try.prog w = .ok 1 w) (hk : k ≤ l) (hpf : pf = if c = k then p else p.map (·.add k)) (hmm : mm = l - k) (hcc : cc = c - k) (w : World) :
    (execOp a.eval o).run Try.prog w = .ok (.value (.slice pf mm cc)) w := by
  rw [hpf, hmm, hcc]
  exact cut_run ho hx hy ht sz hk w
theorem z3_eq : (#[.int .u64 0, .int .u64 0, .int .u64 0] : Array Value) = ints .u64 (nw 0) := by kernel_rfl
set_option maxRecDepth 100000 in
set_option maxHeartbeats 2000000 in
theorem SumD (key b : List Nat) (v : Value) (w : World) (hk : key.length = 32) (hy : Bytes key) (hyb : Bytes b) (hv : BytesV v w b) :
    Calls Try.prog 24 #[.agg (ints .u8 key), v] w fun e w' => e = .returned (.agg (ints .u8 (tagL key b))) ∧ Below w.heap.size w w' := by
  have LK : Kept _ := ⟨hk⟩
  have KYB : Kept _ := ⟨hyb⟩
  have CF : Kept (∀ w', Calls Try.prog 34 #[.agg (ints .u8 key)] w' fun e w2 => e = .returned (.agg (ints .u64 (nw2 (rN key)))) ∧ Below w'.heap.size w' w2) := ⟨fun w' => factorD key w' hk hy⟩
  obtain ⟨r, hr⟩ : ∃ r, r = rN key := ⟨_, rfl⟩
  have BR : Kept (r < 21267647932558653966460912964485513216) := ⟨by rw [hr]; exact rN_lt key hk hy⟩
  have BR0 : Kept (wd r 0 < 1152921504606846976) := ⟨by rw [hr]; exact rN_low key hk hy⟩
  obtain ⟨KK, hKK⟩ : ∃ n, n = (b.length + 15) / 16 := ⟨_, rfl⟩
  obtain ⟨L, hL⟩ : ∃ L, L = tagL key b := ⟨_, rfl⟩
  have EL : Kept (L = digs (polyT r b KK % 1361129467683753853853498429727072845819 + sN key) 16) := ⟨by rw [hL, hr, hKK]; rfl⟩
  have LL : Kept (L.length = 16) := ⟨by rw [hL]; exact tagL_len _ _⟩
  have HS : Kept (sN key < 340282366920938463463374607431768211456) := ⟨sN_lt key hk hy⟩
  have CAd : Kept (∀ w', Calls Try.prog 39 #[.agg (ints .u8 key)] w' fun e w2 => e = .returned (.agg (ints .u64 (nw (sN key)))) ∧ Below w'.heap.size w' w2) := ⟨fun w' => addendD key w' hk hy⟩
  obtain ⟨p0, c0, rfl, hc0, _⟩ := id hv
  have KV : Kept _ := ⟨hv⟩
  rw [← hL]
  rw [← hr] at CF
  obtain ⟨R2, hR2⟩ : ∃ l, l = nw2 r := ⟨_, rfl⟩
  rw [← hR2] at CF
  have LR2 : Kept (R2.length = 2) := ⟨by rw [hR2]; rfl⟩
  have ER2 : Kept _ := ⟨hR2⟩
  obtain ⟨n, hn⟩ : ∃ n, n = b.length := ⟨_, rfl⟩
  rw [← hn] at KV hKK ⊢
  have EN : Kept _ := ⟨hn⟩
  have EK : Kept _ := ⟨hKK⟩
  obtain ⟨Z0, hZ0⟩ : ∃ Z, Z = List.replicate 16 0 := ⟨_, rfl⟩
  have LZ : Kept (Z0.length = 16) := ⟨by rw [hZ0]; rfl⟩
  have A0 : Blk ((w.alloc (.cells (ints .u8 key) 22)).alloc (.cells #[.int .u8 0, .int .u8 0, .int .u8 0, .int .u8 0, .int .u8 0, .int .u8 0, .int .u8 0, .int .u8 0, .int .u8 0, .int .u8 0, .int .u8 0, .int .u8 0, .int .u8 0, .int .u8 0, .int .u8 0, .int .u8 0] 43)) w.heap.size 22 (ints .u8 key) := (blk_new w _ _).alloc _
  have A1 : Blk ((w.alloc (.cells (ints .u8 key) 22)).alloc (.cells #[.int .u8 0, .int .u8 0, .int .u8 0, .int .u8 0, .int .u8 0, .int .u8 0, .int .u8 0, .int .u8 0, .int .u8 0, .int .u8 0, .int .u8 0, .int .u8 0, .int .u8 0, .int .u8 0, .int .u8 0, .int .u8 0] 43)) (w.heap.size + 1) 43 (ints .u8 Z0) := by rw [hZ0, ← z16b_eq]; exact blk_top _ _ _ _ (by simp)
  have Q0 : Below w.heap.size w ((w.alloc (.cells (ints .u8 key) 22)).alloc (.cells #[.int .u8 0, .int .u8 0, .int .u8 0, .int .u8 0, .int .u8 0, .int .u8 0, .int .u8 0, .int .u8 0, .int .u8 0, .int .u8 0, .int .u8 0, .int .u8 0, .int .u8 0, .int .u8 0, .int .u8 0, .int .u8 0] 43)) := ((Below.refl _ _).alloc (Nat.le_refl _) _).alloc (by simp) _
  clear hk hy hyb hr hKK hL hv hR2 hn hZ0 hc0
  go_enter Try.func24, Try.ntmps24
  go_wp2_with (first | ((with_reducible refine wv_row (d := 8) ?hd ?hw 22 (.tmp 2) ?ho (w.heap.size) ?hx (t' := 22) (ints .u8 key) _ _ Try.underlying22 ?hs ?hg ?_); (case hd => rfl); (case hw => kernel_rfl); (case ho => rfl); (case hx => kernel_rfl); (case hs => rw [ints_size, LK.out]; exact t32_info); (case hg => exact A0); simp only [Act.put, List.setIfInBounds_toArray, List.set_cons_succ, List.set_cons_zero]))
  refine (CF.out _).mono ?_
  rintro e w1 ⟨rfl, hb1⟩
  have B0 := A0.under hb1
  have B1 := A1.under hb1
  have Q1 := Q0.trans (hb1.mono Q0.size)
  have hl1 : w.heap.size + 1 < w1.heap.size := B1.lt
  clear A0 A1 Q0 hb1 CF
  go_wp2_with (first | (refine wl_store rfl 64 (.tmp 5) (.tmp 9) rfl w1.heap.size (ints .u64 R2) rfl rfl _ (blk_new w1 _ _) (by rw [ints_size, LR2.out]; exact a2_info) (by rw [ints_size, LR2.out]; rfl) (ints_one _ _) ?_))
  intro w2 A5 P2
  have C0 := P2.blk (B0.alloc _) (by omega)
  have C1 := P2.blk (B1.alloc _) (by omega)
  have Q2 := (Q1.alloc Q1.size _).trans (P2.below (by omega))
  generalize hg5 : w1.heap.size = g5 at *
  have hl2 : g5 < w2.heap.size := A5.lt
  clear B0 B1 Q1 P2 hg5
  go_wp2_with fail
  have D6 : Blk (w2.alloc (.cells #[.int .u64 0, .int .u64 0, .int .u64 0] 67)) w2.heap.size 67 (ints .u64 (nw (polyT r b 0))) := by rw [show polyT r b 0 = 0 from rfl, ← z3_eq]; exact blk_new w2 _ _
  have D0 := C0.alloc (.cells #[.int .u64 0, .int .u64 0, .int .u64 0] 67)
  have D1 := C1.alloc (.cells #[.int .u64 0, .int .u64 0, .int .u64 0] 67)
  have D5 := A5.alloc (.cells #[.int .u64 0, .int .u64 0, .int .u64 0] 67)
  have Q3 := Q2.alloc Q2.size (.cells #[.int .u64 0, .int .u64 0, .int .u64 0] 67)
  generalize hW : w2.alloc (.cells #[.int .u64 0, .int .u64 0, .int .u64 0] 67) = wa at *
  generalize hg6 : w2.heap.size = g6 at *
  clear C0 C1 A5 Q2 hW hg6
  go_loopg [1] KK (fun gk s1 wr => ∃ (k m : Nat) (p : Option Addr) (c : Nat), k + gk = KK ∧ s1 = .slice p m c ∧ Kept (m = n - 16 * k) ∧ Kept (BytesV (.slice p m c) w (b.drop (16 * k))) ∧ Below w.heap.size w wr ∧ Blk wr w.heap.size 22 (ints .u8 key) ∧ Blk wr (w.heap.size + 1) 43 (ints .u8 Z0) ∧ Blk wr g5 64 (ints .u64 R2) ∧ Blk wr g6 67 (ints .u64 (nw (polyT r b k))))
  case atStart => exact ⟨0, n, p0, c0, by omega, rfl, ⟨by omega⟩, ⟨KV.out⟩, Q3, D0, D1, D5, D6⟩
  case round =>
    obtain ⟨k, m, p, c, hik, rfl, Em, KB, HB, A0, A1, A5, A6⟩ := hrel
    clear Q3 D0 D1 D5 D6
    obtain ⟨PN, hPN⟩ : ∃ l, l = nw (polyT r b k) := ⟨_, rfl⟩
    have LPN : Kept (PN.length = 3) := ⟨by rw [hPN]; rfl⟩
    rw [← hPN] at A6
    have PB := polyT_lt r b BR.out KYB.out k
    by_cases hm : 0 < m
    case pos =>
      have hmi : (0 : Int) < (m : Int) := by omega
      obtain ⟨z, hz⟩ : ∃ z, z = min m 16 := ⟨_, rfl⟩
      obtain ⟨pc, hpc⟩ : ∃ l, l = (b.drop (16 * k)).take z := ⟨_, rfl⟩
      have hzm : z ≤ m := by omega
      have hlm : (b.drop (16 * k)).length = m := by rw [List.length_drop, ← EN.out, Em.out]
      have lpc : pc.length = z := by rw [hpc, List.length_take, hlm]; omega
      have hmc : m ≤ c := by obtain ⟨_, _, e1, h2, _⟩ := KB.out; rw [hlm] at e1 h2; cases e1; exact h2
      have zc : z ≤ c := by omega
      have VP : BytesV (.slice p z c) w pc := by
        rw [hpc]
        exact (bytesV_ints KB.out).take (by rw [hlm]; exact hzm)
      have YP : Bytes pc := by rw [hpc]; exact (KYB.out.drop _).take _
      have epc : pc = (b.drop (16 * k)).take 16 := by
        rw [hpc]
        by_cases h16 : m ≤ 16
        · rw [List.take_of_length_le (by rw [hlm]; omega), List.take_of_length_le (by rw [hlm]; omega)]
        · rw [show z = 16 by omega]
      obtain ⟨RD, hRD⟩ : ∃ l, l = nw (val (pc ++ [1])) := ⟨_, rfl⟩
      obtain ⟨SU, hSU⟩ : ∃ l, l = nw (polyT r b k + val (pc ++ [1])) := ⟨_, rfl⟩
      obtain ⟨TN, hTN⟩ : ∃ l, l = nw (polyT r b (k + 1)) := ⟨_, rfl⟩
      have LTN : Kept (TN.length = 3) := ⟨by rw [hTN]; rfl⟩
      have PL := piece_lt pc YP (by omega)
      have CR : Kept (∀ w', Below wr.heap.size wr w' → Calls Try.prog 36 [.slice p z c].toArray w' fun e w2 => e = .returned (.agg (ints .u64 RD)) ∧ Below w'.heap.size w' w2) := ⟨fun w' hb => by
        rw [hRD]
        have := readD pc p c w' (by omega) YP (by rw [lpc]; exact VP.under (HB.trans (hb.mono HB.size)))
        rw [lpc] at this
        exact this⟩
      have CP : Kept (∀ w', Below wr.heap.size wr w' → Calls Try.prog 35 [.agg (ints .u64 PN), .agg (ints .u64 RD)].toArray w' fun e w2 => e = .returned (.agg (ints .u64 SU)) ∧ Below w'.heap.size w' w2) := ⟨fun w' hb => by rw [hPN, hRD, hSU]; exact plusD _ _ w' (by omega)⟩
      have CT : Kept (∀ w', Below wr.heap.size wr w' → Calls Try.prog 37 [.agg (ints .u64 SU), .agg (ints .u64 R2)].toArray w' fun e w2 => e = .returned (.agg (ints .u64 TN)) ∧ Below w'.heap.size w' w2) := ⟨fun w' hb => by
        rw [hSU, hTN, ER2.out]
        show Calls _ _ _ _ fun e w2 => e = .returned (.agg (ints .u64 (nw (timesN (polyT r b k + val ((b.drop (16 * k)).take 16 ++ [1])) r)))) ∧ _
        rw [← epc]
        exact timesD _ r w' (by omega) BR.out BR0.out⟩
      have VD : Kept (BytesV (.slice (if c = z then p else p.map (·.add z)) (m - z) (c - z)) w (b.drop (16 * (k + 1)))) := ⟨by
        have h1 := KB.out
        rw [← hlm] at h1
        have h2 := h1.cut (k := z) (by rw [hlm]; exact hzm)
        rw [hlm, List.drop_drop] at h2
        have e : b.drop (16 * k + z) = b.drop (16 * (k + 1)) := by
          by_cases h16 : m ≤ 16
          · have h3 := Em.out; have h4 := EN.out
            rw [List.drop_of_length_le (by omega), List.drop_of_length_le (by omega)]
          · rw [show z = 16 by omega, Nat.mul_add]
        rw [e] at h2
        exact h2⟩
      obtain ⟨pf, hpf⟩ : ∃ q, q = if c = z then p else p.map (·.add z) := ⟨_, rfl⟩
      obtain ⟨mz, hmz⟩ : ∃ q, q = m - z := ⟨_, rfl⟩
      obtain ⟨cz, hcz⟩ : ∃ q, q = c - z := ⟨_, rfl⟩
      rw [← hpf, ← hmz, ← hcz] at VD
      have Em2 : Kept (mz = n - 16 * (k + 1)) := ⟨by have := Em.out; omega⟩
      have Hpf : Kept _ := ⟨hpf⟩
      have Hmz : Kept _ := ⟨hmz⟩
      have Hcz : Kept _ := ⟨hcz⟩
      clear hpf hmz hcz
      have hgk : gk ≠ 0 := by have h1 := Em.out; have h2 := EK.out; omega
      have Hz : Kept _ := ⟨hz⟩
      have zm : Kept (z ≤ m) := ⟨hzm⟩
      have ETN : Kept _ := ⟨hTN⟩
      clear hz hpc hlm lpc hmc VP YP epc hRD hSU hTN PL PB hPN hzm KB
      go_wp2_with (first | ((with_reducible refine wv_val (d := 15) ?hd ?hw (.int .i64 (z : Int)) ?hr ?_); (case hd => rfl); (case hw => kernel_rfl); (case hr => intro w; exact run_min2 (n := 16) rfl (by kernel_rfl) (by kernel_rfl) Hz.out w); simp only [Act.put, List.setIfInBounds_toArray, List.set_cons_succ, List.set_cons_zero]))
      refine region_ownL wr 8 [(16, .agg (ints .u64 PN)), (17, .slice p m c), (18, .int .i64 (z : Int)), (19, .slice p z c), (20, .agg (ints .u64 RD)), (21, .agg (ints .u64 SU)), (22, .agg (ints .u64 R2)), (23, .agg (ints .u64 TN))] [] [] [] rfl (by kernel_rfl) (by kernel_rfl) (by kernel_rfl) (by kernel_rfl) (by kernel_rfl) (by kernel_rfl) (by kernel_rfl) (by kernel_rfl) (by kernel_rfl) (by kernel_rfl) (by kernel_rfl) ?hst1 ?hst2 (Below.refl _ _) (fun hA => ⟨ow_row hA (wants_none rfl) 16 (.agg (ints .u64 PN)) (by kernel_rfl) rfl rfl rfl rfl (by kernel_rfl) 67 (.tmp 6) rfl (g6) (by kernel_rfl) 67 (ints .u64 PN) 3 23 Try.underlying67 ((by rw [ints_size, LPN.out]; exact nt_info)) (fun w1 hb => A6.under hb) rfl, ow_val hA (wants_none rfl) 17 (.slice p m c) (by kernel_rfl) rfl rfl rfl rfl (by kernel_rfl) (fun w => by kernel_rfl), ow_val hA (wants_none rfl) 18 (.int .i64 (z : Int)) (by kernel_rfl) rfl rfl rfl rfl (by kernel_rfl) (fun w => by kernel_rfl), ow_val hA (wants_none rfl) 19 (.slice p z c) (by kernel_rfl) rfl rfl rfl rfl (by kernel_rfl) (fun w => cutTo_run (l := m) rfl (by kernel_rfl) (by kernel_rfl) Try.underlying24 sz_u8 zc w), ow_calld hA (wants_none rfl) 20 (.agg (ints .u64 RD)) (by kernel_rfl) rfl rfl rfl rfl (by kernel_rfl) 36 Try.f36 _ [.tmp 19] _ [.slice p z c] rfl (by kernel_rfl) Try.func36 (by kernel_rfl) rfl (CR.out), ow_calld hA (wants_none rfl) 21 (.agg (ints .u64 SU)) (by kernel_rfl) rfl rfl rfl rfl (by kernel_rfl) 35 Try.f35 _ [.tmp 16, .tmp 20] _ [.agg (ints .u64 PN), .agg (ints .u64 RD)] rfl (by kernel_rfl) Try.func35 (by kernel_rfl) rfl (CP.out), ow_row hA (wants_none rfl) 22 (.agg (ints .u64 R2)) (by kernel_rfl) rfl rfl rfl rfl (by kernel_rfl) 64 (.tmp 5) rfl (g5) (by kernel_rfl) 64 (ints .u64 R2) 2 23 Try.underlying64 ((by rw [ints_size, LR2.out]; exact a2_info)) (fun w1 hb => A5.under hb) rfl, ow_calld hA (wants_none rfl) 23 (.agg (ints .u64 TN)) (by kernel_rfl) rfl rfl rfl rfl (by kernel_rfl) 37 Try.f37 _ [.tmp 21, .tmp 22] _ [.agg (ints .u64 SU), .agg (ints .u64 R2)] rfl (by kernel_rfl) Try.func37 (by kernel_rfl) rfl (CT.out), trivial⟩) ?_
      case hst1 => intro q hq; cases hq
      case hst2 => intro q hq; cases hq
      intro fv wt hf hD hwt
      simp only [putR, List.foldl_cons, List.foldl_nil, List.map_cons, List.map_nil, Act.put, List.setIfInBounds_toArray, List.set_cons_succ, List.set_cons_zero]
      have B0 := A0.under hwt
      have B1 := A1.under hwt
      have B5 := A5.under hwt
      have B6 := A6.under hwt
      have HB2 := HB.trans (hwt.mono HB.size)
      clear hf hD CR CP CT A0 A1 A5 A6 HB hwt
      refine wl_store rfl 67 (.tmp 6) (.tmp 23) rfl g6 (ints .u64 TN) (by kernel_rfl) (by kernel_rfl) _ B6 (by rw [ints_size, LTN.out]; exact nt_info) (by rw [ints_size, ints_size, LTN.out, LPN.out]) (ints_one _ _) ?_
      intro w4 E6 P4
      rw [ETN.out] at E6
      have E0 := P4.blk B0 (by omega)
      have E1 := P4.blk B1 (by omega)
      have E5 := P4.blk B5 (by omega)
      have HB4 := HB2.trans (P4.below (by omega))
      clear B0 B1 B5 B6 HB2 P4 ETN
      go_wp2_with (first | ((with_reducible refine wv_val (d := 26) ?hd ?hw (.slice pf mz cz) ?hr ?_); (case hd => rfl); (case hw => kernel_rfl); (case hr => intro w; exact cut_fr rfl (by kernel_rfl) (by kernel_rfl) Try.underlying24 sz_u8 zm.out Hpf.out Hmz.out Hcz.out w); simp only [Act.put, List.setIfInBounds_toArray, List.set_cons_succ, List.set_cons_zero]))
      go_roundg (gk - 1)
      case measure => omega
      case rel => exact ⟨k + 1, _, _, _, by omega, rfl, Em2, VD, HB4, E0, E1, E5, E6⟩
    case neg =>
      have hmi : ¬ (0 : Int) < (m : Int) := by omega
      have hkK : k = KK := by have h1 := Em.out; have h2 := EK.out; omega
      subst hkK
      obtain ⟨RE, hRE⟩ : ∃ l, l = nw (polyT r b k % 1361129467683753853853498429727072845819) := ⟨_, rfl⟩
      obtain ⟨AD, hAD⟩ : ∃ l, l = nw (sN key) := ⟨_, rfl⟩
      obtain ⟨SU, hSU⟩ : ∃ l, l = nw (polyT r b k % 1361129467683753853853498429727072845819 + sN key) := ⟨_, rfl⟩
      have CR : Kept (∀ w', Below wr.heap.size wr w' → Calls Try.prog 38 [.agg (ints .u64 PN)].toArray w' fun e w2 => e = .returned (.agg (ints .u64 RE)) ∧ Below w'.heap.size w' w2) := ⟨fun w' hb => by rw [hPN, hRE]; exact reducedD _ w' (by omega)⟩
      have CA : Kept (∀ w', Below wr.heap.size wr w' → Calls Try.prog 39 [.agg (ints .u8 key)].toArray w' fun e w2 => e = .returned (.agg (ints .u64 AD)) ∧ Below w'.heap.size w' w2) := ⟨fun w' hb => by rw [hAD]; exact CAd.out w'⟩
      have CP : Kept (∀ w', Below wr.heap.size wr w' → Calls Try.prog 35 [.agg (ints .u64 RE), .agg (ints .u64 AD)].toArray w' fun e w2 => e = .returned (.agg (ints .u64 SU)) ∧ Below w'.heap.size w' w2) := ⟨fun w' hb => by
        rw [hRE, hAD, hSU]
        have := HS.out
        exact plusD _ _ w' (by omega)⟩
      have CB : Kept (∀ w', Below wr.heap.size wr w' → Calls Try.prog 40 [.agg (ints .u64 SU)].toArray w' fun e w2 => e = .returned (.agg (ints .u8 L)) ∧ Below w'.heap.size w' w2) := ⟨fun w' hb => by rw [hSU, EL.out]; exact bytesD _ w'⟩
      clear hRE hAD hSU hPN PB EL CAd HS KB Em
      go_wp2_with fail
      refine region_ownL wr 6 [(27, .agg (ints .u64 PN)), (28, .agg (ints .u64 RE)), (29, .agg (ints .u8 key)), (30, .agg (ints .u64 AD)), (31, .agg (ints .u64 SU)), (32, .agg (ints .u8 L))] [] [] [] rfl (by kernel_rfl) (by kernel_rfl) (by kernel_rfl) (by kernel_rfl) (by kernel_rfl) (by kernel_rfl) (by kernel_rfl) (by kernel_rfl) (by kernel_rfl) (by kernel_rfl) (by kernel_rfl) ?hst1 ?hst2 (Below.refl _ _) (fun hA => ⟨ow_row hA (wants_none rfl) 27 (.agg (ints .u64 PN)) (by kernel_rfl) rfl rfl rfl rfl (by kernel_rfl) 67 (.tmp 6) rfl (g6) (by kernel_rfl) 67 (ints .u64 PN) 3 23 Try.underlying67 ((by rw [ints_size, LPN.out]; exact nt_info)) (fun w1 hb => A6.under hb) rfl, ow_calld hA (wants_none rfl) 28 (.agg (ints .u64 RE)) (by kernel_rfl) rfl rfl rfl rfl (by kernel_rfl) 38 Try.f38 _ [.tmp 27] _ [.agg (ints .u64 PN)] rfl (by kernel_rfl) Try.func38 (by kernel_rfl) rfl (CR.out), ow_row hA (wants_none rfl) 29 (.agg (ints .u8 key)) (by kernel_rfl) rfl rfl rfl rfl (by kernel_rfl) 22 (.tmp 2) rfl (w.heap.size) (by kernel_rfl) 22 (ints .u8 key) 32 5 Try.underlying22 ((by rw [ints_size, LK.out]; exact t32_info)) (fun w1 hb => A0.under hb) rfl, ow_calld hA (wants_none rfl) 30 (.agg (ints .u64 AD)) (by kernel_rfl) rfl rfl rfl rfl (by kernel_rfl) 39 Try.f39 _ [.tmp 29] _ [.agg (ints .u8 key)] rfl (by kernel_rfl) Try.func39 (by kernel_rfl) rfl (CA.out), ow_calld hA (wants_none rfl) 31 (.agg (ints .u64 SU)) (by kernel_rfl) rfl rfl rfl rfl (by kernel_rfl) 35 Try.f35 _ [.tmp 28, .tmp 30] _ [.agg (ints .u64 RE), .agg (ints .u64 AD)] rfl (by kernel_rfl) Try.func35 (by kernel_rfl) rfl (CP.out), ow_calld hA (wants_none rfl) 32 (.agg (ints .u8 L)) (by kernel_rfl) rfl rfl rfl rfl (by kernel_rfl) 40 Try.f40 _ [.tmp 31] _ [.agg (ints .u64 SU)] rfl (by kernel_rfl) Try.func40 (by kernel_rfl) rfl (CB.out), trivial⟩) ?_
      case hst1 => intro q hq; cases hq
      case hst2 => intro q hq; cases hq
      intro fv wt hf hD hwt
      simp only [putR, List.foldl_cons, List.foldl_nil, List.map_cons, List.map_nil, Act.put, List.setIfInBounds_toArray, List.set_cons_succ, List.set_cons_zero]
      refine wl_store rfl 43 (.tmp 4) (.tmp 32) rfl (w.heap.size + 1) (ints .u8 L) (by kernel_rfl) (by kernel_rfl) _ (A1.under hwt) (by rw [ints_size, LL.out]; exact a16_info) (by rw [ints_size, ints_size, LL.out, LZ.out]) (ints_one _ _) ?_
      intro w5 B1 P5
      go_wp2
      exact bodyPost_ret (v := .agg (ints .u8 L)) (results_cell_row Try.results24 _ _ _ 43 (ints .u8 L) (0, 0) _ rfl B1 Try.underlying43 rfl (by rw [ints_size, LL.out]; exact a16_info)) rfl ⟨rfl, (HB.trans (hwt.mono HB.size)).trans (P5.below (by omega))⟩
end Go.Proofs.Ytpamcmhfimnfbaa.sh
/-
  Texts compared, and the difference of two tags.
-/
namespace Go.Proofs.Ytpamcmhfimnfbaa.sh
open Go Go.RowKit
set_option linter.unusedVariables false
set_option linter.unusedSimpArgs false

/-- What is gathered behind i bytes. -/
def orT (a b : List Nat) : Nat → Nat
  | 0 => 0
  | i + 1 => orT a b i ||| (a.getD i 0 ^^^ b.getD i 0)
theorem getD_lt {l : List Nat} (h : Bytes l) (i : Nat) : l.getD i 0 < 256 := by
  rw [List.getD_eq_getElem?_getD]
  cases hx : l[i]? with
  | none => decide
  | some x => exact h i x hx
theorem orT_lt {a b : List Nat} (ha : Bytes a) (hb : Bytes b) : ∀ i, orT a b i < 256
  | 0 => by simp [orT]
  | i + 1 => Nat.or_lt_two_pow (n := 8) (orT_lt ha hb i) (Nat.xor_lt_two_pow (n := 8) (getD_lt ha i) (getD_lt hb i))
theorem xor_zero (x y : Nat) : x ^^^ y = 0 ↔ x = y := by
  constructor
  · intro h
    have h2 : (x ^^^ y) ^^^ y = 0 ^^^ y := by rw [h]
    rw [Nat.xor_assoc, Nat.xor_self, Nat.xor_zero, Nat.zero_xor] at h2
    exact h2
  · rintro rfl; exact Nat.xor_self _
theorem orT_zero (a b : List Nat) : ∀ n, orT a b n = 0 ↔ ∀ i, i < n → a.getD i 0 = b.getD i 0
  | 0 => by simp [orT]
  | n + 1 => by
    simp only [orT, Nat.or_eq_zero_iff, xor_zero, orT_zero a b n]
    constructor
    · rintro ⟨h1, h2⟩ i hi
      by_cases h : i < n
      · exact h1 i h
      · rw [show i = n by omega]; exact h2
    · exact fun h => ⟨fun i hi => h i (by omega), h n (by omega)⟩
theorem orT_same (a b : List Nat) (h : a.length = b.length) : decide (orT a b a.length = 0) = decide (a = b) := by
  refine decide_eq_decide.2 ?_
  rw [orT_zero]
  constructor
  · intro hi
    apply List.ext_getElem?
    intro i
    by_cases h1 : i < a.length
    · have := hi i h1
      rw [List.getD_eq_getElem?_getD, List.getD_eq_getElem?_getD, List.getElem?_eq_getElem h1, List.getElem?_eq_getElem (by omega)] at this
      rw [List.getElem?_eq_getElem h1, List.getElem?_eq_getElem (by omega)]
      simpa using this
    · rw [List.getElem?_eq_none (by omega), List.getElem?_eq_none (by omega)]
  · rintro rfl i _; rfl
theorem run_orV {o : Oper} {a : Act} {x y : Operand} {m n z : Nat} (ho : o.op = .binOp .or 5 x y 5) (hx : a.eval x = .int .u8 (m : Int)) (hy : a.eval y = .int .u8 (n : Int)) (hm : m < 256) (hn : n < 256) (hz : z = m ||| n) (w : World) : (execOp a.eval o).run Try.prog w = .ok (.value (.int .u8 (z : Int))) w := by
  have h := u8_or_nat m n hm hn
  unfold execOp
  simp only [ho, hx, hy]
  simp [go_sem, h, hz]
theorem run_eq08 {o : Oper} {a : Act} {x : Operand} {m : Nat} (b : Bool) (ho : o.op = .binOp .eql 5 x (.const (.int .u8 0)) 5) (hx : a.eval x = .int .u8 (m : Int)) (hb : b = decide (m = 0)) (w : World) : (execOp a.eval o).run Try.prog w = .ok (.value (.bool b)) w := by
  have e3 : a.eval (.const (.int .u8 0)) = .int .u8 0 := rfl
  unfold execOp
  simp only [ho, hx, e3]
  rw [hb]
  simp [go_sem]
  refine decide_eq_decide.2 ?_
  omega

set_option maxRecDepth 100000 in
set_option maxHeartbeats 1000000 in
theorem EqualD (a b : List Nat) (v u : Value) (w : World) (hya : Bytes a) (hyb : Bytes b) (hv : BytesV v w a) (hu : BytesV u w b) (hlen : a.length ≤ 1000000) :
    Calls Try.prog 19 #[v, u] w fun e w' => e = .returned (.bool (decide (a = b))) ∧ Below w.heap.size w w' := by
  have KA : Kept _ := ⟨hya⟩
  have KB : Kept _ := ⟨hyb⟩
  obtain ⟨p, c, rfl, h1, h2⟩ := hv
  obtain ⟨q, d, rfl, h3, h4⟩ := hu
  obtain ⟨n, hn⟩ : ∃ n, n = a.length := ⟨_, rfl⟩
  obtain ⟨m, hm⟩ : ∃ n, n = b.length := ⟨_, rfl⟩
  obtain ⟨R, hR⟩ : ∃ R, R = decide (a = b) := ⟨_, rfl⟩
  rw [← hn, ← hm, ← hR]
  have CA : Kept (∀ i x : Nat, a[i]? = some x → ∃ A, p = some A ∧ w.cell? (A.add i) = some (.int .u8 (x : Int))) := ⟨fun i x hx => by
    obtain ⟨A, e1, _, e2⟩ := h2 (by intro e; rw [e] at hx; cases hx)
    exact ⟨A, e1, e2 i x hx⟩⟩
  have CB : Kept (∀ i x : Nat, b[i]? = some x → ∃ A, q = some A ∧ w.cell? (A.add i) = some (.int .u8 (x : Int))) := ⟨fun i x hx => by
    obtain ⟨A, e1, _, e2⟩ := h4 (by intro e; rw [e] at hx; cases hx)
    exact ⟨A, e1, e2 i x hx⟩⟩
  have EN : Kept _ := ⟨hn⟩
  have EM : Kept _ := ⟨hm⟩
  have nB : n ≤ 1000000 := by rw [hn]; exact hlen
  clear hlen
  by_cases hnm : n = m
  case neg =>
    have hnmi : ¬ (n : Int) = (m : Int) := by omega
    have e : R = false := by rw [hR]; exact decide_eq_false (fun e => hnm (by rw [hn, hm, e]))
    subst e
    clear hn hm hR h1 h2 h3 h4 hya hyb
    go_enter Try.func19, Try.ntmps19
    go_wp2_with fail
    go_ret
    exact ⟨rfl, Below.refl _ _⟩
  case pos =>
    subst hnm
    have ER : Kept (R = decide (orT a b n = 0)) := ⟨by rw [hR, hn, orT_same a b (by rw [← hn, ← hm])]⟩
    clear hn hm hR h1 h2 h3 h4 hya hyb
    go_enter Try.func19, Try.ntmps19
    go_wp2_with fail
    go_loopg [5, 15] n (fun k s5 s15 wr => ∃ i z : Nat, i + k = n ∧ s5 = .int .u8 (z : Int) ∧ s15 = .int .i64 (i : Int) ∧ Kept (z = orT a b i) ∧ wr = w)
    case atStart => exact ⟨0, 0, by omega, rfl, rfl, ⟨rfl⟩, rfl⟩
    case round =>
      obtain ⟨i, z, hik, rfl, rfl, Hz, hww⟩ := hrel
      obtain rfl := hww.symm
      by_cases hi : i < n
      case pos =>
        have hii : (i : Int) < (n : Int) := by omega
        obtain ⟨x, hx⟩ : ∃ x, a[i]? = some x := ⟨_, List.getElem?_eq_getElem (by have := EN.out; omega)⟩
        obtain ⟨y, hy⟩ : ∃ y, b[i]? = some y := ⟨_, List.getElem?_eq_getElem (by have := EM.out; omega)⟩
        obtain ⟨A, rfl, cA⟩ := CA.out i x hx
        obtain ⟨B, rfl, cB⟩ := CB.out i y hy
        have x8 : x < 256 := KA.out i x hx
        have y8 : y < 256 := KB.out i y hy
        have z8 : z < 256 := by rw [Hz.out]; exact orT_lt KA.out KB.out i
        obtain ⟨t, ht⟩ : ∃ t, t = x ^^^ y := ⟨_, rfl⟩
        have t8 : t < 256 := by rw [ht]; exact Nat.xor_lt_two_pow (n := 8) x8 y8
        obtain ⟨s, hs⟩ : ∃ s, s = z ||| t := ⟨_, rfl⟩
        have Hs : Kept (s = orT a b (i + 1)) := ⟨by rw [hs, ht, Hz.out]; simp only [orT, List.getD_eq_getElem?_getD, hx, hy, Option.getD_some]⟩
        have Et : Kept _ := ⟨ht⟩
        have Es : Kept _ := ⟨hs⟩
        have KcA : Kept _ := ⟨cA⟩
        have KcB : Kept _ := ⟨cB⟩
        clear ht hs hx hy cA cB Hz
        go_wp2_with (first | ((with_reducible refine wv_val (d := 18) ?hd ?hw (.pointer (some (A.add i))) ?hr ?_); (case hd => rfl); (case hw => kernel_rfl); (case hr => intro w; exact run_idxS rfl (by kernel_rfl) (by kernel_rfl) Try.underlying24 hi sz_u8 w); simp only [Act.put, List.setIfInBounds_toArray, List.set_cons_succ, List.set_cons_zero]) | ((with_reducible refine wv_elem (d := 19) ?hd ?hw 5 ag_u8 (.tmp 18) ?ho (A.add i) ?hx (.int .u8 (x : Int)) ?hc ?_); (case hd => rfl); (case hw => kernel_rfl); (case ho => rfl); (case hx => kernel_rfl); (case hc => exact KcA.out); simp only [Act.put, List.setIfInBounds_toArray, List.set_cons_succ, List.set_cons_zero]) | ((with_reducible refine wv_val (d := 24) ?hd ?hw (.pointer (some (B.add i))) ?hr ?_); (case hd => rfl); (case hw => kernel_rfl); (case hr => intro w; exact run_idxS rfl (by kernel_rfl) (by kernel_rfl) Try.underlying24 hi sz_u8 w); simp only [Act.put, List.setIfInBounds_toArray, List.set_cons_succ, List.set_cons_zero]) | ((with_reducible refine wv_elem (d := 25) ?hd ?hw 5 ag_u8 (.tmp 24) ?ho (B.add i) ?hx (.int .u8 (y : Int)) ?hc ?_); (case hd => rfl); (case hw => kernel_rfl); (case ho => rfl); (case hx => kernel_rfl); (case hc => exact KcB.out); simp only [Act.put, List.setIfInBounds_toArray, List.set_cons_succ, List.set_cons_zero]) | ((with_reducible refine wv_val (d := 26) ?hd ?hw (.int .u8 (t : Int)) ?hr ?_); (case hd => rfl); (case hw => kernel_rfl); (case hr => intro w; exact run_xorV rfl (by kernel_rfl) (by kernel_rfl) x8 y8 Et.out w); simp only [Act.put, List.setIfInBounds_toArray, List.set_cons_succ, List.set_cons_zero]) | ((with_reducible refine wv_val (d := 27) ?hd ?hw (.int .u8 (s : Int)) ?hr ?_); (case hd => rfl); (case hw => kernel_rfl); (case hr => intro w; exact run_orV rfl (by kernel_rfl) (by kernel_rfl) z8 t8 Es.out w); simp only [Act.put, List.setIfInBounds_toArray, List.set_cons_succ, List.set_cons_zero]))
        go_roundg (gk - 1)
        case measure => omega
        case rel => exact ⟨i + 1, s, by omega, rfl, by go_num, Hs, rfl⟩
      case neg =>
        have hii : ¬ (i : Int) < (n : Int) := by omega
        obtain rfl : n = i := by omega
        have Hb : Kept (R = decide (z = 0)) := ⟨by rw [ER.out, Hz.out]⟩
        clear ER Hz
        go_wp2_with (first | ((with_reducible refine wv_val (d := 30) ?hd ?hw (.bool R) ?hr ?_); (case hd => rfl); (case hw => kernel_rfl); (case hr => intro w; exact run_eq08 R rfl (by kernel_rfl) Hb.out w); simp only [Act.put, List.setIfInBounds_toArray, List.set_cons_succ, List.set_cons_zero]))
        go_ret
        exact ⟨rfl, Below.refl _ _⟩

theorem run_subII {o : Oper} {a : Act} {x y : Operand} {X Y D : Int} (ho : o.op = .binOp .sub 3 x y 3) (hx : a.eval x = .int .i64 X) (hy : a.eval y = .int .i64 Y) (hD : D = X - Y) (h1 : -1000000 < D) (h2 : D < 1000000) (w : World) : (execOp a.eval o).run Try.prog w = .ok (.value (.int .i64 D)) w := by
  unfold execOp
  simp only [ho, hx, hy]
  simp [go_sem, IntKind.wrap_i64, wrap64]
  omega
theorem run_add256 {o : Oper} {a : Act} {x : Operand} {X : Int} {z : Nat} (ho : o.op = .binOp .add 3 x (.const (.int .i64 256)) 3) (hx : a.eval x = .int .i64 X) (hz : (z : Int) = X + 256) (h2 : z < 1000000) (w : World) : (execOp a.eval o).run Try.prog w = .ok (.value (.int .i64 (z : Int))) w := by
  have e3 : a.eval (.const (.int .i64 256)) = .int .i64 256 := rfl
  unfold execOp
  simp only [ho, hx, e3]
  simp [go_sem, IntKind.wrap_i64, wrap64]
  omega
def minusN (a b : List Nat) : Nat := val a + 340282366920938463463374607431768211456 - val b
theorem minus_facts (a b : List Nat) (i x y : Nat) (hl : a.length = 16) (hm : b.length = 16) (ha : Bytes a) (hb : Bytes b) (hi : i < 16) (hx : a[i]? = some x) (hy : b[i]? = some y) :
    (x < y + bor (val a + 340282366920938463463374607431768211456) (val b) i → minusN a b / 256 ^ i % 256 + y + bor (val a + 340282366920938463463374607431768211456) (val b) i = x + 256 ∧ bor (val a + 340282366920938463463374607431768211456) (val b) (i + 1) = 1) ∧
    (¬ x < y + bor (val a + 340282366920938463463374607431768211456) (val b) i → minusN a b / 256 ^ i % 256 + y + bor (val a + 340282366920938463463374607431768211456) (val b) i = x ∧ bor (val a + 340282366920938463463374607431768211456) (val b) (i + 1) = 0) := by
  have h1 := val_digit a ha.all i (by omega)
  have h2 := val_digit b hb.all i (by omega)
  rw [List.getD_eq_getElem?_getD, hx] at h1
  rw [List.getD_eq_getElem?_getD, hy] at h2
  have hlt := val_lt b hb.all
  rw [hm] at hlt
  have e16 : (256 : Nat) ^ 16 = 340282366920938463463374607431768211456 := by decide
  have h3 : (val a + 340282366920938463463374607431768211456) / 256 ^ i % 256 = val a / 256 ^ i % 256 := by
    have e : (340282366920938463463374607431768211456 : Nat) = 256 ^ i * (256 * 256 ^ (15 - i)) := by rw [← e16, ← Nat.pow_succ', ← Nat.pow_add]; congr 1; omega
    rw [e, Nat.add_mul_div_left _ _ (Nat.pow_pos (by decide)), Nat.add_mul_mod_self_left]
  have h := bor_step (val a + 340282366920938463463374607431768211456) (val b) i (by omega)
  rw [h3, h1, h2] at h
  exact h

end Go.Proofs.Ytpamcmhfimnfbaa.sh
/-
  The answers that the document fixes for layer 6 are as they must be.
-/
namespace Go.Proofs.Ytpamcmhfimnfbaa.sh
open Go Go.RowKit
set_option linter.unusedVariables false
set_option linter.unusedSimpArgs false

def keyP : List Nat := [133, 214, 190, 120, 87, 85, 109, 51, 127, 68, 82, 254, 66, 213, 6, 168, 1, 3, 128, 138, 251, 13, 178, 253, 74, 191, 246, 175, 65, 73, 245, 27]
def msgP : List Nat := [67, 114, 121, 112, 116, 111, 103, 114, 97, 112, 104, 105, 99, 32, 70, 111, 114, 117, 109, 32, 82, 101, 115, 101, 97, 114, 99, 104, 32, 71, 114, 111, 117, 112]
theorem fixed_tag : tagL keyP msgP = [168, 6, 29, 193, 48, 81, 54, 198, 194, 43, 139, 175, 12, 1, 39, 169] := by kernel_rfl
theorem keyP_bytes : Bytes keyP := bytes_of_all (by decide)
theorem msgP_bytes : Bytes msgP := bytes_of_all (by decide)
theorem run_keyP {o : Oper} {a : Act} (ho : o.op = .build 22 #[(0, .const (.int .u8 133)), (1, .const (.int .u8 214)), (2, .const (.int .u8 190)), (3, .const (.int .u8 120)), (4, .const (.int .u8 87)), (5, .const (.int .u8 85)), (6, .const (.int .u8 109)), (7, .const (.int .u8 51)), (8, .const (.int .u8 127)), (9, .const (.int .u8 68)), (10, .const (.int .u8 82)), (11, .const (.int .u8 254)), (12, .const (.int .u8 66)), (13, .const (.int .u8 213)), (14, .const (.int .u8 6)), (15, .const (.int .u8 168)), (16, .const (.int .u8 1)), (17, .const (.int .u8 3)), (18, .const (.int .u8 128)), (19, .const (.int .u8 138)), (20, .const (.int .u8 251)), (21, .const (.int .u8 13)), (22, .const (.int .u8 178)), (23, .const (.int .u8 253)), (24, .const (.int .u8 74)), (25, .const (.int .u8 191)), (26, .const (.int .u8 246)), (27, .const (.int .u8 175)), (28, .const (.int .u8 65)), (29, .const (.int .u8 73)), (30, .const (.int .u8 245)), (31, .const (.int .u8 27))]) (w : World) : (execOp a.eval o).run Try.prog w = .ok (.value (.agg (ints .u8 keyP))) w := by
  have hb : (Instr.build 22 #[(0, .int .u8 133), (1, .int .u8 214), (2, .int .u8 190), (3, .int .u8 120), (4, .int .u8 87), (5, .int .u8 85), (6, .int .u8 109), (7, .int .u8 51), (8, .int .u8 127), (9, .int .u8 68), (10, .int .u8 82), (11, .int .u8 254), (12, .int .u8 66), (13, .int .u8 213), (14, .int .u8 6), (15, .int .u8 168), (16, .int .u8 1), (17, .int .u8 3), (18, .int .u8 128), (19, .int .u8 138), (20, .int .u8 251), (21, .int .u8 13), (22, .int .u8 178), (23, .int .u8 253), (24, .int .u8 74), (25, .int .u8 191), (26, .int .u8 246), (27, .int .u8 175), (28, .int .u8 65), (29, .int .u8 73), (30, .int .u8 245), (31, .int .u8 27)]).run Try.prog w = .ok (.agg (ints .u8 keyP)) w := by kernel_rfl
  unfold execOp
  simp only [ho, List.map_toArray, List.map_cons, List.map_nil, Act.eval]
  simp [hb]

end Go.Proofs.Ytpamcmhfimnfbaa.sh
/-
  TagBlocks and TagOne, walked.
-/
namespace Go.Proofs.Ytpamcmhfimnfbaa.sh
open Go Go.RowKit
set_option linter.unusedVariables false
set_option linter.unusedSimpArgs false

theorem eg16 : Try.prog.eqGuardType Try.prog.depth 43 = false := by kernel_rfl
theorem timesN_zero (N : Nat) : timesN N 0 = 0 := by simp [timesN]
theorem polyT_zero (b : List Nat) : ∀ k, polyT 0 b k = 0
  | 0 => rfl
  | k + 1 => timesN_zero _
theorem tag_none (o b : List Nat) (hl : o.length = 16) (hy : Bytes o) : tagL (List.replicate 16 0 ++ o) b = o := by
  have h0 : rN (List.replicate 16 0 ++ o) = 0 := by
    rw [rN_and _ (by simp [hl]) ((bytes_zero 16).append hy), List.take_left' (by simp), val_zeros, Nat.zero_and]
  have h1 : sN (List.replicate 16 0 ++ o) = val o := by
    unfold sN
    rw [List.drop_left' (by simp)]
  unfold tagL
  rw [h0, h1, polyT_zero, Nat.zero_mod, Nat.zero_add, ← hl]
  exact digs_val o hy.all
theorem z32b_eq : (#[.int .u8 0, .int .u8 0, .int .u8 0, .int .u8 0, .int .u8 0, .int .u8 0, .int .u8 0, .int .u8 0, .int .u8 0, .int .u8 0, .int .u8 0, .int .u8 0, .int .u8 0, .int .u8 0, .int .u8 0, .int .u8 0, .int .u8 0, .int .u8 0, .int .u8 0, .int .u8 0, .int .u8 0, .int .u8 0, .int .u8 0, .int .u8 0, .int .u8 0, .int .u8 0, .int .u8 0, .int .u8 0, .int .u8 0, .int .u8 0, .int .u8 0, .int .u8 0] : Array Value) = ints .u8 (List.replicate 32 0) := by kernel_rfl
theorem splice_half (o : List Nat) (hl : o.length = 16) : splice (List.replicate 32 0) 16 o = List.replicate 16 0 ++ o := by
  unfold splice
  rw [List.take_replicate, hl, List.drop_replicate]
  simp

def oneK : List Nat := 1 :: List.replicate 31 0
theorem timesN_one (N : Nat) (h : N < 1361129467683753853853498429727072845824) : timesN N 1 = N := by
  unfold timesN
  rw [Nat.mul_one]
  omega
theorem oneK_r : rN oneK = 1 := by kernel_rfl
theorem oneK_s : sN oneK = 0 := by kernel_rfl
theorem pad_bytes (b : List Nat) (hy : Bytes b) (n : Nat) : Bytes (b ++ [1] ++ List.replicate n 0) := (hy.append (bytes_of_all (by decide))).append (bytes_zero _)
theorem tag_one (b : List Nat) (hy : Bytes b) (h0 : 0 < b.length) (h15 : b.length ≤ 15) : tagL oneK b = b ++ [1] ++ List.replicate (15 - b.length) 0 := by
  unfold tagL
  rw [oneK_r, oneK_s, show (b.length + 15) / 16 = 1 by omega]
  have hp := piece_lt b hy (by omega)
  have e : polyT 1 b 1 = val (b ++ [1]) := by
    show timesN (0 + val ((b.drop 0).take 16 ++ [1])) 1 = _
    rw [List.drop_zero, List.take_of_length_le (by omega), Nat.zero_add, timesN_one _ (by omega)]
  have hd := digs_val _ (pad_bytes b hy (15 - b.length)).all
  have h16 : (b ++ [1] ++ List.replicate (15 - b.length) 0).length = 16 := by simp; omega
  rw [h16, val_append, val_zeros, Nat.mul_zero, Nat.add_zero] at hd
  rw [e, Nat.mod_eq_of_lt (by omega), Nat.add_zero]
  exact hd
theorem tag_one0 : tagL oneK [] = List.replicate 16 0 := by kernel_rfl
theorem splice_front (b : List Nat) (h : b.length ≤ 15) : splice (List.replicate 16 0) 0 b = b ++ List.replicate (16 - b.length) 0 := by
  unfold splice
  rw [List.take_zero, List.nil_append, Nat.zero_add, List.drop_replicate]
theorem set_front (b : List Nat) (h : b.length ≤ 15) : (b ++ List.replicate (16 - b.length) 0).set b.length 1 = b ++ [1] ++ List.replicate (15 - b.length) 0 := by
  rw [List.set_append_right _ _ (Nat.le_refl _), Nat.sub_self, show 16 - b.length = (15 - b.length) + 1 by omega, List.replicate_succ, List.set_cons_zero, List.append_assoc]
  rfl

end Go.Proofs.Ytpamcmhfimnfbaa.sh
/-
  TagBits, walked.
-/
namespace Go.Proofs.Ytpamcmhfimnfbaa.sh
open Go Go.RowKit
set_option linter.unusedVariables false
set_option linter.unusedSimpArgs false

/-- A byte of a key, with noise in the bits that are left out. -/
def updB (i k n : Nat) : Nat := if i < 16 then (if i % 4 = 3 then k ^^^ (n &&& 240) else if i = 4 ∨ i = 8 ∨ i = 12 then k ^^^ (n &&& 3) else k) else k
def bitsL (key noise : List Nat) : List Nat := (List.range 32).map fun i => updB i (key.getD i 0) (noise.getD i 0)
theorem bitsL_len (key noise : List Nat) : (bitsL key noise).length = 32 := by simp [bitsL]
theorem bitsL_get (key noise : List Nat) (i x y : Nat) (hi : i < 32) (hx : key[i]? = some x) (hy : noise[i]? = some y) : (bitsL key noise)[i]? = some (updB i x y) := by
  simp [bitsL, hi, List.getD_eq_getElem?_getD, hx, hy]
theorem updB_lt (i k n : Nat) (hk : k < 256) (hn : n < 256) : updB i k n < 256 := by
  have h1 : k ^^^ (n &&& 240) < 256 := Nat.xor_lt_two_pow (n := 8) hk (Nat.lt_of_le_of_lt Nat.and_le_left hn)
  have h2 : k ^^^ (n &&& 3) < 256 := Nat.xor_lt_two_pow (n := 8) hk (Nat.lt_of_le_of_lt Nat.and_le_left hn)
  unfold updB
  split
  · split
    · exact h1
    · split
      · exact h2
      · exact hk
  · exact hk
theorem bitsL_bytes {key noise : List Nat} (hk : Bytes key) (hn : Bytes noise) : Bytes (bitsL key noise) := bytes_of_all fun x hx => by
  simp only [bitsL, List.mem_map] at hx
  obtain ⟨i, _, rfl⟩ := hx
  exact updB_lt _ _ _ (getD_lt hk i) (getD_lt hn i)
theorem mask_at : ∀ i, i < 16 → (i % 4 = 3 → maskL.getD i 0 = 15) ∧ (i = 4 ∨ i = 8 ∨ i = 12 → maskL.getD i 0 = 252) := by decide
theorem updB_mask (i k n : Nat) (hi : i < 16) : updB i k n &&& maskL.getD i 0 = k &&& maskL.getD i 0 := by
  have hm := mask_at i hi
  unfold updB
  rw [if_pos hi]
  split
  · rename_i h
    rw [hm.1 h, Nat.and_xor_distrib_right, Nat.and_assoc, show (240 &&& 15 : Nat) = 0 by decide, Nat.and_zero, Nat.xor_zero]
  · split
    · rename_i h
      rw [hm.2 h, Nat.and_xor_distrib_right, Nat.and_assoc, show (3 &&& 252 : Nat) = 0 by decide, Nat.and_zero, Nat.xor_zero]
    · rfl
theorem clamp_get (key : List Nat) (h : key.length = 32) (i : Nat) : (clampL key)[i]? = if i < 16 then some (key.getD i 0 &&& maskL.getD i 0) else none := by
  unfold clampL
  rw [List.getElem?_zipWith]
  by_cases hi : i < 16
  · rw [if_pos hi, List.getElem?_take_of_lt hi, List.getElem?_eq_getElem (by omega), List.getElem?_eq_getElem (show i < maskL.length from hi), List.getD_eq_getElem?_getD, List.getD_eq_getElem?_getD, List.getElem?_eq_getElem (by omega), List.getElem?_eq_getElem (show i < maskL.length from hi)]
    rfl
  · rw [if_neg hi, List.getElem?_eq_none (by simp; omega)]
theorem bits_tag (key noise b : List Nat) (h : key.length = 32) (hn : noise.length = 32) : tagL (bitsL key noise) b = tagL key b := by
  have e1 : clampL (bitsL key noise) = clampL key := by
    apply List.ext_getElem?
    intro i
    rw [clamp_get _ (bitsL_len _ _), clamp_get _ h]
    by_cases hi : i < 16
    · rw [if_pos hi, if_pos hi, List.getD_eq_getElem?_getD, bitsL_get key noise i (key.getD i 0) (noise.getD i 0) (by omega) (by rw [List.getD_eq_getElem?_getD, List.getElem?_eq_getElem (by omega)]; rfl) (by rw [List.getD_eq_getElem?_getD, List.getElem?_eq_getElem (by omega)]; rfl), Option.getD_some, updB_mask i _ _ hi]
    · rw [if_neg hi, if_neg hi]
  have e2 : (bitsL key noise).drop 16 = key.drop 16 := by
    apply List.ext_getElem?
    intro i
    rw [List.getElem?_drop, List.getElem?_drop]
    by_cases hi : 16 + i < 32
    · rw [bitsL_get key noise (16 + i) (key[16 + i]) (noise[16 + i]) hi (List.getElem?_eq_getElem _) (List.getElem?_eq_getElem _), List.getElem?_eq_getElem (by omega)]
      unfold updB
      rw [if_neg (by omega)]
    · rw [List.getElem?_eq_none (by rw [bitsL_len]; omega), List.getElem?_eq_none (by omega)]
  unfold tagL rN sN
  rw [e1, e2]
theorem mix_same (L a : List Nat) (i : Nat) (h : L.length = a.length) (hi : L[i]? = a[i]?) : mix L a (i + 1) = mix L a i := by
  by_cases hl : i < a.length
  · have hx : L[i]? = some a[i] := by rw [hi]; exact List.getElem?_eq_getElem hl
    rw [← mix_set L a i a[i] h hx]
    apply List.ext_getElem?
    intro j
    rw [List.getElem?_set]
    split
    · rename_i e
      subst e
      rw [if_pos (by rw [mix_len L a i h]; exact hl), mix_get L a i h hl, List.getElem?_eq_getElem hl]
    · rfl
  · unfold mix
    rw [List.take_of_length_le (by omega), List.take_of_length_le (by omega), List.drop_of_length_le (by omega), List.drop_of_length_le (by omega)]
theorem bits_mix (key noise : List Nat) (h : key.length = 32) (hn : noise.length = 32) : ∀ j, j ≤ 16 → mix (bitsL key noise) key (16 + j) = mix (bitsL key noise) key 16
  | 0, _ => rfl
  | j + 1, hj => by
    rw [← Nat.add_assoc, mix_same _ _ _ (by rw [bitsL_len, h]), bits_mix key noise h hn j (by omega)]
    rw [bitsL_get key noise (16 + j) (key[16 + j]) (noise[16 + j]) (by omega) (List.getElem?_eq_getElem _) (List.getElem?_eq_getElem _), List.getElem?_eq_getElem (by omega)]
    unfold updB
    rw [if_neg (by omega)]
theorem run_and8C {o : Oper} {a : Act} {x : Operand} {m z : Nat} (c : Nat) (ho : o.op = .binOp .and 5 x (.const (.int .u8 (c : Int))) 5) (hx : a.eval x = .int .u8 (m : Int)) (hm : m < 256) (hc : c < 256) (hz : z = m &&& c) (w : World) : (execOp a.eval o).run Try.prog w = .ok (.value (.int .u8 (z : Int))) w := by
  have e3 : a.eval (.const (.int .u8 (c : Int))) = .int .u8 (c : Int) := rfl
  have h := u8_and_nat m c hm hc
  unfold execOp
  simp only [ho, hx, e3]
  rw [hz]
  simp [go_sem]
  exact h

theorem run_eqIF {o : Oper} {a : Act} {x : Operand} {i : Nat} (c : Nat) (ho : o.op = .binOp .eql 3 x (.const (.int .i64 (c : Int))) 3) (hx : a.eval x = .int .i64 (i : Int)) (h : i ≠ c) (w : World) : (execOp a.eval o).run Try.prog w = .ok (.value (.bool false)) w := by
  have e3 : a.eval (.const (.int .i64 (c : Int))) = .int .i64 (c : Int) := rfl
  unfold execOp
  simp only [ho, hx, e3]
  simp [go_sem]
  omega

end Go.Proofs.Ytpamcmhfimnfbaa.sh
/-
  Arguments: sixteen bytes; two slices of bytes; two slices, a number of 16 bits and a byte.
-/
namespace Go.Proofs.Ytpamcmhfimnfbaa.sh
open Go Go.ChangeShapes Go.WideShapes Go.ChangeAt Go.RowKit
set_option linter.unusedVariables false
set_option linter.unusedSimpArgs false

theorem c_16 : Try.prog.cellsOf 43 = 16 := by kernel_rfl
theorem c_p2 : Try.prog.cellsOf 74 = 2 := by kernel_rfl
theorem c_u16b : Try.prog.cellsOf 34 = 1 := by kernel_rfl
theorem open_arr16 {H : Type} {enc : TypeId × Value → H} {W : World} {r : Reach} {b0 base : Nat} {sp : Nat → Bool} {held : Bool} {v : Value} {d : DataW H} {p : List MemPlace}
    (hv : Value.okWide Try.prog W r b0 43 v) (h : DataW.Trod enc Try.prog W base sp held 43 v d p) : ∃ l : List Nat, v = .agg (ints .u8 l) ∧ l.length = 16 ∧ Bytes l :=
  open_arr (B := 256) Try.underlying43 Try.underlying5 c_16 cu8 (fun k hk => by have := bounds_u8 hk; omega) hv h
theorem open_pair {H : Type} {enc : TypeId × Value → H} {W : World} {r : Reach} {b0 base : Nat} {sp : Nat → Bool} {held : Bool} {v : Value} {d : DataW H} {p : List MemPlace}
    (hv : Value.okWide Try.prog W r b0 74 v) (h : DataW.Trod enc Try.prog W base sp held 74 v d p) : ∃ v0 v1 l0 l1, v = .agg #[v0, v1] ∧ BytesV v0 W l0 ∧ Bytes l0 ∧ l0.length ≤ maxLen ∧ BytesV v1 W l1 ∧ Bytes l1 ∧ l1.length ≤ maxLen := by
  unfold Value.okWide at hv
  rw [Try.underlying74] at hv
  obtain ⟨cs, rfl, hsz, _⟩ := hv
  rw [c_p2] at hsz
  obtain ⟨fuel, hf0⟩ := h
  have hf : DataW.trod enc Try.prog W base sp held fuel 74 cs.toList = some (d, p) := hf0
  obtain ⟨xs, m, _, hx, hlen, hn, hel⟩ := DataW.trod_array Try.underlying74 hf
  match xs, hn with
  | [x0, x1], _ =>
    have h0 := hel 0 (by decide)
    have h1 := hel 1 (by decide)
    rw [cbytes] at h0 h1
    obtain ⟨v0, l0, e0, a0, b0, c0⟩ := bytes_cells h0
    obtain ⟨v1, l1, e1, a1, b1, c1⟩ := bytes_cells h1
    refine ⟨v0, v1, l0, l1, ?_, a0, b0, c0, a1, b1, c1⟩
    congr 1
    apply Array.toList_inj.1
    have e : cs.toList = (cs.toList.drop (0 * 1)).take 1 ++ (cs.toList.drop (1 * 1)).take 1 := by
      have e2 : (cs.toList.drop (1 * 1)).take 1 = cs.toList.drop 1 := List.take_of_length_le (by simp; omega)
      rw [e2]
      exact (List.take_append_drop 1 cs.toList).symm
    rw [e0, e1] at e
    exact e
end Go.Proofs.Ytpamcmhfimnfbaa.sh
/-
  Slices of ints that a call owns; the reference's carry.
-/
namespace Go.Proofs.Ytpamcmhfimnfbaa.sh
open Go Go.RowKit
set_option linter.unusedVariables false
set_option linter.unusedSimpArgs false

/-- A slice of ints in a block of its own. -/
def OI (base g n cap : Nat) (l : List Nat) (w : World) : Prop := base ≤ g ∧ l.length = n ∧ n ≤ cap ∧ cap ≤ maxLen ∧ ∃ cur, Blk w g 3 cur ∧ cur.size = cap ∧ ∀ (i x : Nat), l[i]? = some x → cur[i]? = some (.int .i64 (x : Int))
theorem OI.len {base g n cap : Nat} {l : List Nat} {w : World} (h : OI base g n cap l w) : l.length = n := h.2.1
theorem OI.lt {base g n cap : Nat} {l : List Nat} {w : World} (h : OI base g n cap l w) : g < w.heap.size := by obtain ⟨_, _, _, _, cur, hB, _⟩ := h; exact hB.lt
theorem OI.cell {base g n cap : Nat} {l : List Nat} {w : World} (h : OI base g n cap l w) {i x : Nat} (hx : l[i]? = some x) : w.cell? ⟨g, i, none⟩ = some (.int .i64 (x : Int)) := by
  obtain ⟨_, _, _, _, cur, hB, _, hc⟩ := h
  exact hB.cell (hc i x hx)
theorem OI.under {base g n cap : Nat} {l : List Nat} {w w' : World} (h : OI base g n cap l w) (hb : Below w.heap.size w w') : OI base g n cap l w' := by
  obtain ⟨h1, h2, h3, h4, cur, hB, hs, hc⟩ := h
  exact ⟨h1, h2, h3, h4, cur, hB.under hb, hs, hc⟩
theorem OI.alloc {base g n cap : Nat} {l : List Nat} {w : World} (h : OI base g n cap l w) (o : Obj) : OI base g n cap l (w.alloc o) := by
  obtain ⟨h1, h2, h3, h4, cur, hB, hs, hc⟩ := h
  exact ⟨h1, h2, h3, h4, cur, hB.alloc o, hs, hc⟩
theorem OI.put {base g n cap k : Nat} {l : List Nat} {w w' : World} (h : OI base g n cap l w) (hp : Put w w' k) (hne : g ≠ k) : OI base g n cap l w' := by
  obtain ⟨h1, h2, h3, h4, cur, hB, hs, hc⟩ := h
  exact ⟨h1, h2, h3, h4, cur, hp.blk hB hne, hs, hc⟩
theorem OI.mono {base b' g n cap : Nat} {l : List Nat} {w : World} (h : OI base g n cap l w) (hb : b' ≤ base) : OI b' g n cap l w := ⟨Nat.le_trans hb h.1, h.2⟩
theorem OI.ints {base g n cap : Nat} {l : List Nat} {w : World} (h : OI base g n cap l w) : IntsV .i64 (.slice (some ⟨g, 0, none⟩) n cap) w l := by
  have hl := h.len
  subst hl
  refine ⟨some ⟨g, 0, none⟩, cap, rfl, h.2.2.1, fun _ => ⟨⟨g, 0, none⟩, rfl, h.lt, fun j x hx => ?_⟩⟩
  rw [addr_add, Nat.zero_add]
  exact h.cell hx
theorem OI.holds {base g n cap : Nat} {l : List Nat} {w : World} (h : OI base g n cap l w) : Holds w g l :=
  ⟨h.lt, fun j hj => h.cell (by rw [List.getD_eq_getElem?_getD, List.getElem?_eq_getElem hj]; rfl)⟩
theorem OI.holdsTake {base g n cap : Nat} {l : List Nat} {w : World} (h : OI base g n cap l w) (m : Nat) : Holds w g (l.take m) :=
  ⟨h.lt, fun j hj => h.cell (by
    rw [List.length_take] at hj
    rw [List.getD_eq_getElem?_getD, List.getElem?_take_of_lt (by omega), List.getElem?_eq_getElem (by omega)]; rfl)⟩
theorem oi_row {base : Nat} {l : List Nat} {v : Value} {w : World} (h : Row base 3 .i64 l v w) (h0 : 0 < l.length) : ∃ g cap, v = .slice (some ⟨g, 0, none⟩) l.length cap ∧ OI base g l.length cap l w := by
  obtain ⟨h1, h2⟩ := h
  rcases h2 with ⟨_, h⟩ | ⟨g, cap, cur, rfl, hb, hg, hc, hm, hs, ht⟩
  · omega
  · refine ⟨g, cap, rfl, hb, rfl, hc, hm, cur, hg, by omega, fun i x hx => ?_⟩
    have hi := (List.getElem?_eq_some_iff.1 hx).1
    have h3 : (cur.toList.take (l.length * 1))[i]? = (sh.ints .i64 l).toList[i]? := by rw [ht]
    rw [List.getElem?_take_of_lt (by omega), Array.getElem?_toList, Array.getElem?_toList] at h3
    rw [h3]
    exact ints_get hx
theorem oi_blk {base g n : Nat} {l : List Nat} {w : World} (h : Blk w g 3 (ints .i64 l)) (hb : base ≤ g) (hn : l.length = n) (hm : n ≤ maxLen) : OI base g n n l w := ⟨hb, hn, Nat.le_refl _, hm, _, h, by rw [ints_size, hn], fun i x hx => ints_get hx⟩
section
variable {ops : Array Oper} {rest : List Oper} {o : Oper} {a : Act} {w : World} {Q : Exit → Act → World → Prop}
theorem wl_setOI (hgd : o.guard = none) (x y : Operand) (ho : o.op = .store 3 x y) (base g n cap k z : Nat) (l : List Nat) (hx : a.eval x = .pointer (some ⟨g, k, none⟩)) (hy : a.eval y = .int .i64 (z : Int)) (h : OI base g n cap l w) (hk : k < n)
    (hw : ∀ w', OI base g n cap (l.set k z) w' → Put w w' g → wpList Try.prog ops Q rest (a.put o.dst undef) w') : wpList Try.prog ops Q (o :: rest) a w := by
  obtain ⟨h1, h2, h3, h4, cur, hB, hs, hc⟩ := h
  refine wl_setElem hgd 3 sz_int x y ho g k .i64 (z : Int) hx hy cur hB (by omega) fun w' hB' hp => ?_
  refine hw w' ⟨h1, by rw [List.length_set]; exact h2, h3, h4, _, hB', by rw [Array.size_setIfInBounds]; exact hs, fun i x hx => ?_⟩ hp
  rw [List.getElem?_set] at hx
  rw [Array.getElem?_setIfInBounds]
  split at hx
  · rename_i e
    subst e
    rw [if_pos (by omega)] at hx
    cases hx
    rw [if_pos rfl, if_pos (by omega)]
  · rename_i e
    rw [if_neg e]
    exact hc i x hx
end
theorem row_emptyI {base : Nat} (w : World) (hb : base ≤ w.heap.size) : Row base 3 .i64 [] (.slice (some ⟨w.heap.size, 0, none⟩) 0 0) (w.alloc (.cells #[] 3)) := World.ownsRow_lit w #[] 0 hb (by unfold maxLen; omega) rfl
theorem inf_int : (Try.prog.info? 3).map (fun i => (i.zero, i.size, i.bytes)) = some (some (.int .i64 0), 1, 8) := by kernel_rfl
theorem run_maxI (m n : Nat) (ts : Array TypeId) {o : Oper} {a : Act} {x y : Operand} {z : Nat} (ho : o.op = .call { callee := .builtin .max, args := #[x, y], argTypes := ts }) (hx : a.eval x = .int .i64 (m : Int)) (hy : a.eval y = .int .i64 (n : Int)) (hz : z = max m n) (w : World) : (execOp a.eval o).run Try.prog w = .ok (.value (.int .i64 (z : Int))) w := by
  unfold execOp
  simp only [ho, resolve, invoke, builtin, Sem.run_bind, Sem.run_pure, Result.andThen_ok, List.map_toArray, List.map_cons, List.map_nil, hx, hy, run_max_int2]
  have e : (if (m : Int) < (n : Int) then (n : Int) else (m : Int)) = (z : Int) := by split <;> omega
  rw [e]

theorem irow_ints (l : List Nat) : irow l = (ints .i64 l).toList := by simp [irow, ints]

theorem own_oi {w : World} {base k : Nat} {v : Value} {l : List Nat} (h : w.ownsRow base 3 1 v k (irow l)) (hl : l.length = k) (h0 : 0 < k) : ∃ g cap, v = .slice (some ⟨g, 0, none⟩) k cap ∧ OI base g k cap l w := by
  subst hl
  rw [irow_ints] at h
  exact oi_row h h0

set_option maxHeartbeats 2000000 in
theorem carry6 (l : List Nat) (g n cap N : Nat) (w : World) (hn : l.length = n) (h64 : n ≤ 64) (hN : N ≤ 32) (hN0 : 0 < N) (hM : ∀ j, l.getD j 0 ≤ 1099511627776) (hh : Holds w g l) :
    Calls Try.prog 46 #[.slice (some ⟨g, 0, none⟩) n cap, .int .i64 (N : Int)] w fun e w' => ∃ g' cap' m, e = .returned (.slice (some ⟨g', 0, none⟩) m cap') ∧ OI w.heap.size g' m cap' (digs (val l) m) w' ∧ N ≤ m ∧ m ≤ 70 ∧ val l < 256 ^ m ∧ Below w.heap.size w w' := by
  go_enter Try.func46, Try.ntmps46
  go_wp2
  go_loopw [5, 6, 7] (fun v sc i wr => ∃ k c : Nat, k ≤ 70 ∧ i = .int .i64 k ∧ sc = .int .i64 (c : Int) ∧ c ≤ 1099511627776 ∧ Hid (c = val (l.take k) / 256 ^ k) ∧ Hid (64 ≤ k → c * 256 ^ (k - 64) ≤ 1099511627776) ∧ wr.ownsRow w.heap.size 3 1 v k (irow (digs (val l) k)) ∧ Below w.heap.size w wr)
    (fun _ sc i _ => (64 - (intOf i).toNat) * 2199023255553 + (intOf sc).toNat)
  case atStart => exact ⟨0, 0, by omega, rfl, rfl, by omega, (by show _ = _; simp [val]), (by show _ → _; omega), World.ownsRow_nil _ _ _ _, Below.refl _ _⟩
  case round =>
    obtain ⟨k, c, hk, rfl, rfl, hc, HC, HL, hown, hb⟩ := hrel
    have hz := hb.size
    by_cases hgo : k < n ∨ 0 < c ∨ k < N
    · have hk69 : k ≤ 69 := by
        by_cases h0 : 0 < c
        · exact late_bound HL.out h0
        · omega
      have hx : l.getD k 0 ≤ 1099511627776 := hM k
      have HS : Hid ((c + l.getD k 0) % 256 = val l / 256 ^ k % 256 ∧ (c + l.getD k 0) / 256 = val (l.take (k + 1)) / 256 ^ (k + 1)) := by
        have := carry_step l k
        rw [← HC.out] at this
        exact this
      have HL' : Hid (64 ≤ k + 1 → (c + l.getD k 0) / 256 * 256 ^ (k + 1 - 64) ≤ 1099511627776) := late_step HL.out hc hx (fun h => getD_over l k (by omega))
      have hcell : k < n → wr.cell? ⟨g, k, none⟩ = some (.int .i64 ((l.getD k 0 : Nat) : Int)) := fun h => (hh.under hb).2 k (by omega)
      have hx0 : ¬ k < n → l.getD k 0 = 0 := fun h => getD_over l k (by omega)
      have HD : Hid (irow (digs (val l) (k + 1)) = irow (digs (val l) k) ++ [.int .i64 (((c + l.getD k 0) % 256 : Nat) : Int)]) := by show _ = _; rw [digs_succ, irow_snoc, HS.out.1]
      have HQ : Hid ((c + l.getD k 0) / 256 = val (l.take (k + 1)) / 256 ^ (k + 1)) := HS.out.2
      have HM : Hid (k < 64 ∨ 0 < c) := by show _ ∨ _; omega
      have HZ : Hid (64 ≤ k → l.getD k 0 = 0) := fun h => getD_over l k (by omega)
      clear HS HC HL hM hh
      generalize l.getD k 0 = x at *
      by_cases hkn : k < n
      · have hcell' := hcell hkn
        clear hcell hx0 hgo
        go_wp2_with (first
          | (at_builtin; refine wpList_app1 rfl _ _ rfl w.heap.size _ _ _ rfl (hown.alloc _) wr.heap.size (((c + x) % 256 : Nat) : Int) rfl ?c1 ?c3 ?c5 ?_)
          | go_in)
        case c1 => simp
        case c3 => omega
        case c5 => first | omega | (simp; omega)
        intro v' w1 hown' hgrow
        go_wp2
        go_roundw
        case rel =>
          refine ⟨k + 1, (c + x) / 256, by omega, by go_num, by go_num, by omega, HQ, HL', ?_, (hb.alloc hz _).trans (grown_below hgrow (hown.alloc _) (Nat.le_refl _) (by simp; omega))⟩
          rw [HD.out]; exact hown'
        case measure => have := HM.out; have := HZ.out; simp [intOf]; omega
      · have e0 := hx0 hkn
        clear hcell hx0
        subst e0
        by_cases h0 : 0 < c
        all_goals
          go_wp2_with (first
            | (at_builtin; refine wpList_app1 rfl _ _ rfl w.heap.size _ _ _ rfl (hown.alloc _) wr.heap.size (((c + 0) % 256 : Nat) : Int) rfl ?c1 ?c3 ?c5 ?_)
            | go_in)
          (try case c1 => simp)
          case c3 => omega
          case c5 => first | omega | (simp; omega)
          intro v' w1 hown' hgrow
          go_wp2
          go_roundw
          case rel =>
            refine ⟨k + 1, (c + 0) / 256, by omega, by go_num, by go_num, by omega, HQ, HL', ?_, (hb.alloc hz _).trans (grown_below hgrow (hown.alloc _) (Nat.le_refl _) (by simp; omega))⟩
            rw [HD.out]; exact hown'
          case measure => have := HM.out; simp [intOf]; omega
    · have e0 : c = 0 := by omega
      subst e0
      have h1 : ¬ k < n := by omega
      have h2 : ¬ k < N := by omega
      have HV : Hid (val l < 256 ^ k) := by
        have := HC.out
        rw [take_all_val l k (by omega)] at this
        exact div_zero_lt (Nat.pow_pos (by decide)) this
      clear HC HL hgo
      go_wp2
      go_ret
      obtain ⟨g', cap', rfl, ho⟩ := own_oi hown (digs_len _ _) (by omega)
      exact ⟨g', cap', k, rfl, ho, by omega, hk, HV.out, hb⟩
end Go.Proofs.Ytpamcmhfimnfbaa.sh
/-
  What the reference's Sum wants, as plain numbers; its single operations.
-/
namespace Go.Proofs.Ytpamcmhfimnfbaa.sh
open Go Go.RowKit
set_option linter.unusedVariables false
set_option linter.unusedSimpArgs false

theorem mask_else : ∀ i, i < 16 → i % 4 ≠ 3 → ¬ (i = 4 ∨ i = 8 ∨ i = 12) → maskL.getD i 0 = 255 := by decide
theorem clamp_at (key : List Nat) (h : key.length = 32) (hy : Bytes key) (i x : Nat) (hi : i < 16) (hx : key[i]? = some x) : (clampL key)[i]? = some (if i % 4 = 3 then x % 16 else if i = 4 ∨ i = 8 ∨ i = 12 then x - x % 4 else x) := by
  have x8 : x < 256 := hy i x hx
  have hm := mask_at i hi
  rw [clamp_get key h i, if_pos hi, List.getD_eq_getElem?_getD, hx, Option.getD_some]
  congr 1
  split
  · rename_i h3
    rw [hm.1 h3]
    exact and_15 x x8
  · rename_i h3
    split
    · rename_i h4
      rw [hm.2 h4]
      exact and_252 x x8
    · rename_i h4
      rw [mask_else i hi h3 h4]
      exact and_255 x x8
theorem take_snoc (l : List Nat) (i y : Nat) (h : l[i]? = some y) : l.take (i + 1) = l.take i ++ [y] := by
  rw [List.take_add_one, h]
  rfl
theorem irow_take (l : List Nat) (i y : Nat) (h : l[i]? = some y) : irow (l.take (i + 1)) = irow (l.take i) ++ [.int .i64 (y : Int)] := by
  rw [take_snoc l i y h, irow_snoc]
theorem val_add_at (X : List Nat) (k x y z : Nat) (hk : X[k]? = some x) (hz : z = x + y) : val (X.set k z) = val X + y * 256 ^ k := by
  have h := val_set X y k (List.getElem?_eq_some_iff.1 hk).1
  rw [List.getD_eq_getElem?_getD, hk, Option.getD_some, ← hz] at h
  exact h
theorem val_take_at (l : List Nat) (k x : Nat) (h : l[k]? = some x) : val (l.take (k + 1)) = val (l.take k) + x * 256 ^ k := by
  rw [val_take_succ, List.getD_eq_getElem?_getD, h]
  rfl
/-- The next number of the reference is the program's, modulo p. -/
theorem next_mod (N c r b Q : Nat) (h : N % 1361129467683753853853498429727072845819 = Q % 1361129467683753853853498429727072845819) : (N + c) * r % 1361129467683753853853498429727072845819 = timesN (Q + c) r % 1361129467683753853853498429727072845819 := by
  rw [timesN_mod, Nat.mul_mod, Nat.add_mod, h, ← Nat.add_mod, ← Nat.mul_mod]
theorem poly_next (r : Nat) (b : List Nat) (k N : Nat) (h : N % 1361129467683753853853498429727072845819 = polyT r b k % 1361129467683753853853498429727072845819) : (N + val ((b.drop (16 * k)).take 16 ++ [1])) * r % 1361129467683753853853498429727072845819 = polyT r b (k + 1) % 1361129467683753853853498429727072845819 := next_mod N _ r k _ h
theorem pad_val (pc : List Nat) (N z : Nat) (hz : pc.length = z) : N + val pc + 1 * 256 ^ z = N + val (pc ++ [1]) := by
  rw [val_append, hz]
  simp [val]
  omega
theorem last_big (N d : Nat) (hN : N < 1361129467683753853853498429727072845824) (hd : d = (N + 5) / 256 ^ 16 % 256) : 4 ≤ d ↔ 1361129467683753853853498429727072845824 ≤ N + 5 := by
  have e16 : (256 : Nat) ^ 16 = 340282366920938463463374607431768211456 := by decide
  rw [hd, e16]
  omega
theorem last_tag (N Q s : Nat) (hN : N < 1361129467683753853853498429727072845824) (h : N % 1361129467683753853853498429727072845819 = Q % 1361129467683753853853498429727072845819) : ((N + 5) % 340282366920938463463374607431768211456 + s) % 340282366920938463463374607431768211456 = (Q % 1361129467683753853853498429727072845819 + s) % 340282366920938463463374607431768211456 ∨ N + 5 < 1361129467683753853853498429727072845824 := by
  rw [← h]
  omega
theorem last_tag0 (N Q s : Nat) (hN : N + 5 < 1361129467683753853853498429727072845824) (h : N % 1361129467683753853853498429727072845819 = Q % 1361129467683753853853498429727072845819) : (N % 340282366920938463463374607431768211456 + s) % 340282366920938463463374607431768211456 = (Q % 1361129467683753853853498429727072845819 + s) % 340282366920938463463374607431768211456 := by
  rw [← h]
  omega

theorem run_remC {o : Oper} {a : Act} {x : Operand} {i z : Nat} (c : Nat) (ho : o.op = .binOp .rem 3 x (.const (.int .i64 (c : Int))) 3) (hx : a.eval x = .int .i64 (i : Int)) (hc : 0 < c) (hz : z = i % c) (hi : i < 4611686018427387904) (w : World) : (execOp a.eval o).run Try.prog w = .ok (.value (.int .i64 (z : Int))) w :=
  run_remV ho hx rfl hc hz hi w
theorem run_mulVV {o : Oper} {a : Act} {x y : Operand} {i j z : Nat} (ho : o.op = .binOp .mul 3 x y 3) (hx : a.eval x = .int .i64 (i : Int)) (hy : a.eval y = .int .i64 (j : Int)) (hz : z = i * j) (hi : z < 4611686018427387904) (w : World) : (execOp a.eval o).run Try.prog w = .ok (.value (.int .i64 (z : Int))) w := by
  have e4 : ((i : Int) * (j : Int)) = (z : Int) := by rw [hz]; simp
  unfold execOp
  simp only [ho, hx, hy]
  simp [go_sem, e4, IntKind.wrap_i64, wrap64]
  omega
theorem run_geq4 {o : Oper} {a : Act} {x : Operand} {m : Nat} (b : Bool) (ho : o.op = .binOp .geq 3 x (.const (.int .i64 4)) 3) (hx : a.eval x = .int .i64 (m : Int)) (hb : b = decide (4 ≤ m)) (w : World) : (execOp a.eval o).run Try.prog w = .ok (.value (.bool b)) w := by
  have e3 : a.eval (.const (.int .i64 4)) = .int .i64 4 := rfl
  unfold execOp
  simp only [ho, hx, e3]
  rw [hb]
  simp [go_sem]
  omega
theorem mk17 (w : World) : (Instr.makeSlice 78 (.int .i64 17) (.int .i64 17)).run Try.prog w = .ok (.slice (some ⟨w.heap.size, 0, none⟩) 17 17) (w.alloc (.cells (ints .i64 (List.replicate 17 0)) 3)) := by kernel_rfl
theorem mk40 (w : World) : (Instr.makeSlice 78 (.int .i64 40) (.int .i64 40)).run Try.prog w = .ok (.slice (some ⟨w.heap.size, 0, none⟩) 40 40) (w.alloc (.cells (ints .i64 (List.replicate 40 0)) 3)) := by kernel_rfl
theorem wl_mkI {ops : Array Oper} {rest : List Oper} {o : Oper} {a : Act} {w : World} {Q : Exit → Act → World → Prop} (n : Nat) (Z : List Nat) (hZ : Z = List.replicate n 0) (hw : Region.wanted o (yielded ops a.tmps) = true) (ho : o.op = .makeSlice 78 (.const (.int .i64 (n : Int))) (.const (.int .i64 (n : Int)))) (hm : (Instr.makeSlice 78 (.int .i64 (n : Int)) (.int .i64 (n : Int))).run Try.prog w = .ok (.slice (some ⟨w.heap.size, 0, none⟩) n n) (w.alloc (.cells (ints .i64 (List.replicate n 0)) 3)))
    (h : wpList Try.prog ops Q rest (a.put o.dst (.slice (some ⟨w.heap.size, 0, none⟩) n n)) (w.alloc (.cells (ints .i64 Z) 3))) : wpList Try.prog ops Q (o :: rest) a w :=
  BigFrame.wpList_want hw fun K hK => by
    have e3 : a.eval (.const (.int .i64 (n : Int))) = .int .i64 (n : Int) := rfl
    unfold Oper.wp execOp
    simp only [ho, e3]
    simp only [Sem.run_bind, hm, Result.andThen_ok, Sem.run_pure]
    rw [← hZ]
    exact hK _ _ h
theorem digs_zero (n : Nat) : digs 0 n = List.replicate n 0 := by
  apply List.ext_getElem?
  intro i
  by_cases hi : i < n
  · rw [digs_get _ _ _ hi, List.getElem?_replicate, if_pos hi, Nat.zero_div]
  · rw [List.getElem?_eq_none (by rw [digs_len]; omega), List.getElem?_eq_none (by rw [List.length_replicate]; omega)]
end Go.Proofs.Ytpamcmhfimnfbaa.sh
