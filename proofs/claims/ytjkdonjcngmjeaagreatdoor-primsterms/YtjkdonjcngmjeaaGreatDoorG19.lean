/-
  General pieces, joined: YD YE.
-/
import Derived.Test.YtjkdonjcngmjeaaGreatDoorG18
/-
  Products of numbers, by the program.
-/
namespace Go.Proofs.YtjkdonjcngmjeaaGreatDoor.sh
open Go Go.RowKit
set_option linter.unusedVariables false
set_option linter.unusedSimpArgs false

theorem step_at (X Y U M : Value) (x y u m : Nat) (w : World) (hX : X = .int .u64 (x : Int)) (hY : Y = .int .u64 (y : Int)) (hU : U = .int .u64 (u : Int)) (hM : M = .int .u64 (m : Int)) (hx : x < 18446744073709551616) (hy : y < 18446744073709551616) (hu : u < 18446744073709551616) (hm : m < 18446744073709551616) :
    Calls Tryz.prog 125 #[X, Y, U, M] w fun e w' => ∃ lo hi : Nat, e = .returned (.tuple #[.int .u64 (lo : Int), .int .u64 (hi : Int)]) ∧ w' = w ∧
      Kept (lo < 18446744073709551616 ∧ hi < 18446744073709551616 ∧ lo + 18446744073709551616 * hi = x + y * u + m) := by
  subst hX hY hU hM
  refine (stepD x y u m hx hy hu hm w).mono ?_
  rintro e w' ⟨rfl, rfl⟩
  have hP : y * u ≤ 18446744073709551615 * 18446744073709551615 := Nat.mul_le_mul (by omega) (by omega)
  refine ⟨_, _, rfl, rfl, ⟨?_⟩⟩
  generalize y * u = P at *
  omega
theorem wide_arith (n0 n1 n2 r0 r1 l00 u00 l01 u01 l02 u02 l10 u10 l11 u11 l12 u12 : Nat) (h2 : n2 < 8) (hn0 : n0 < 18446744073709551616) (hn1 : n1 < 18446744073709551616) (hr0 : r0 < 1152921504606846976) (hr1 : r1 < 1152921504606846976)
    (H00 : l00 < 18446744073709551616 ∧ u00 < 18446744073709551616 ∧ l00 + 18446744073709551616 * u00 = 0 + n0 * r0 + 0) (H01 : l01 < 18446744073709551616 ∧ u01 < 18446744073709551616 ∧ l01 + 18446744073709551616 * u01 = 0 + n1 * r0 + u00) (H02 : l02 < 18446744073709551616 ∧ u02 < 18446744073709551616 ∧ l02 + 18446744073709551616 * u02 = 0 + n2 * r0 + u01)
    (H10 : l10 < 18446744073709551616 ∧ u10 < 18446744073709551616 ∧ l10 + 18446744073709551616 * u10 = l01 + n0 * r1 + 0) (H11 : l11 < 18446744073709551616 ∧ u11 < 18446744073709551616 ∧ l11 + 18446744073709551616 * u11 = l02 + n1 * r1 + u10) (H12 : l12 < 18446744073709551616 ∧ u12 < 18446744073709551616 ∧ l12 + 18446744073709551616 * u12 = 0 + n2 * r1 + u11) :
    l00 + 18446744073709551616 * l10 + 340282366920938463463374607431768211456 * l11 + 6277101735386680763835789423207666416102355444464034512896 * l12 = (n0 + 18446744073709551616 * n1 + 340282366920938463463374607431768211456 * n2) * (r0 + 18446744073709551616 * r1) := by
  have e : (n0 + 18446744073709551616 * n1 + 340282366920938463463374607431768211456 * n2) * (r0 + 18446744073709551616 * r1) = n0 * r0 + 18446744073709551616 * (n1 * r0) + 340282366920938463463374607431768211456 * (n2 * r0) + 18446744073709551616 * (n0 * r1) + 340282366920938463463374607431768211456 * (n1 * r1) + 6277101735386680763835789423207666416102355444464034512896 * (n2 * r1) := by grind
  rw [e]
  have b00 : n0 * r0 ≤ 18446744073709551615 * 1152921504606846975 := Nat.mul_le_mul (by omega) (by omega)
  have b10 : n1 * r0 ≤ 18446744073709551615 * 1152921504606846975 := Nat.mul_le_mul (by omega) (by omega)
  have b20 : n2 * r0 ≤ 7 * 1152921504606846975 := Nat.mul_le_mul (by omega) (by omega)
  have b01 : n0 * r1 ≤ 18446744073709551615 * 1152921504606846975 := Nat.mul_le_mul (by omega) (by omega)
  have b11 : n1 * r1 ≤ 18446744073709551615 * 1152921504606846975 := Nat.mul_le_mul (by omega) (by omega)
  have b21 : n2 * r1 ≤ 7 * 1152921504606846975 := Nat.mul_le_mul (by omega) (by omega)
  clear e
  generalize n0 * r0 = p00 at *
  generalize n1 * r0 = p10 at *
  generalize n2 * r0 = p20 at *
  generalize n0 * r1 = p01 at *
  generalize n1 * r1 = p11 at *
  generalize n2 * r1 = p21 at *
  have c0 : u00 < 1152921504606846976 := by omega
  have c1 : u01 < 1152921504606846976 := by omega
  have c2 : u02 = 0 := by omega
  have c3 : u10 ≤ 1152921504606846976 := by omega
  have c4 : u11 ≤ 1152921504606846977 := by omega
  have c5 : u12 = 0 := by omega
  omega

set_option maxHeartbeats 4000000 in
theorem wide_any (n0 n1 n2 r0 r1 : Nat) (w : World) (hn0 : n0 < 18446744073709551616) (hn1 : n1 < 18446744073709551616) (h2 : n2 < 8) (hr0 : r0 < 1152921504606846976) (hr1 : r1 < 1152921504606846976) :
    Calls Tryz.prog 124 #[.agg #[.int .u64 (n0 : Int), .int .u64 (n1 : Int), .int .u64 (n2 : Int)], .agg #[.int .u64 (r0 : Int), .int .u64 (r1 : Int)]] w
      fun e w' => ∃ z0 z1 z2 z3 : Nat, e = .returned (.agg #[.int .u64 (z0 : Int), .int .u64 (z1 : Int), .int .u64 (z2 : Int), .int .u64 (z3 : Int)]) ∧ Below w.heap.size w w' ∧
        Kept (z0 < 18446744073709551616 ∧ z1 < 18446744073709551616 ∧ z2 < 18446744073709551616 ∧ z3 < 18446744073709551616 ∧ z0 + 18446744073709551616 * z1 + 340282366920938463463374607431768211456 * z2 + 6277101735386680763835789423207666416102355444464034512896 * z3 = (n0 + 18446744073709551616 * n1 + 340282366920938463463374607431768211456 * n2) * (r0 + 18446744073709551616 * r1)) := by
  have Bn0 : Kept _ := ⟨hn0⟩
  have Bn1 : Kept _ := ⟨hn1⟩
  have Bn2 : Kept (n2 < 18446744073709551616) := ⟨by omega⟩
  have Br0 : Kept (r0 < 18446744073709551616) := ⟨by omega⟩
  have Br1 : Kept (r1 < 18446744073709551616) := ⟨by omega⟩
  have BB : Kept _ := ⟨And.intro h2 (And.intro hr0 hr1)⟩
  clear hn0 hn1 h2 hr0 hr1
  have ixn0 : ∀ w, (Instr.index 144 (.agg #[.int .u64 (n0 : Int), .int .u64 (n1 : Int), .int .u64 (n2 : Int)]) (.int .i64 0)).run Tryz.prog w = .ok (.int .u64 (n0 : Int)) w := fun _ => by kernel_rfl
  have ixn1 : ∀ w, (Instr.index 144 (.agg #[.int .u64 (n0 : Int), .int .u64 (n1 : Int), .int .u64 (n2 : Int)]) (.int .i64 1)).run Tryz.prog w = .ok (.int .u64 (n1 : Int)) w := fun _ => by kernel_rfl
  have ixn2 : ∀ w, (Instr.index 144 (.agg #[.int .u64 (n0 : Int), .int .u64 (n1 : Int), .int .u64 (n2 : Int)]) (.int .i64 2)).run Tryz.prog w = .ok (.int .u64 (n2 : Int)) w := fun _ => by kernel_rfl
  have ixr0 : ∀ w, (Instr.index 141 (.agg #[.int .u64 (r0 : Int), .int .u64 (r1 : Int)]) (.int .i64 0)).run Tryz.prog w = .ok (.int .u64 (r0 : Int)) w := fun _ => by kernel_rfl
  have ixr1 : ∀ w, (Instr.index 141 (.agg #[.int .u64 (r0 : Int), .int .u64 (r1 : Int)]) (.int .i64 1)).run Tryz.prog w = .ok (.int .u64 (r1 : Int)) w := fun _ => by kernel_rfl
  go_enter Tryz.func124, Tryz.ntmps124
  go_wp2_with fail
  refine wp_loop_rounds 3 ?_
  rw [rounds_succ]
  go_wp2_with fail
  refine wp_loop_rounds 4 ?_
  rw [rounds_succ]
  go_wp2_with fail
  refine (step_at _ _ _ _ 0 n0 r0 0 _ rfl rfl rfl rfl (by omega) Bn0.out Br0.out (by omega)).mono ?_
  rintro e w_ ⟨l00, u00, rfl, rfl, H00⟩
  have Bl00 : Kept _ := ⟨H00.out.1⟩
  have Bu00 : Kept _ := ⟨H00.out.2.1⟩
  go_wp2_with fail
  rw [rounds_succ]
  go_wp2_with fail
  refine (step_at _ _ _ _ 0 n1 r0 u00 _ rfl rfl rfl rfl (by omega) Bn1.out Br0.out Bu00.out).mono ?_
  rintro e w_ ⟨l01, u01, rfl, rfl, H01⟩
  have Bl01 : Kept _ := ⟨H01.out.1⟩
  have Bu01 : Kept _ := ⟨H01.out.2.1⟩
  go_wp2_with fail
  rw [rounds_succ]
  go_wp2_with fail
  refine (step_at _ _ _ _ 0 n2 r0 u01 _ rfl rfl rfl rfl (by omega) Bn2.out Br0.out Bu01.out).mono ?_
  rintro e w_ ⟨l02, u02, rfl, rfl, H02⟩
  have Bl02 : Kept _ := ⟨H02.out.1⟩
  have Bu02 : Kept _ := ⟨H02.out.2.1⟩
  go_wp2_with fail
  rw [rounds_succ]
  go_wp2_with fail
  rw [rounds_succ]
  go_wp2_with fail
  refine wp_loop_rounds 4 ?_
  rw [rounds_succ]
  go_wp2_with fail
  refine (step_at _ _ _ _ l01 n0 r1 0 _ rfl rfl rfl rfl Bl01.out Bn0.out Br1.out (by omega)).mono ?_
  rintro e w_ ⟨l10, u10, rfl, rfl, H10⟩
  have Bl10 : Kept _ := ⟨H10.out.1⟩
  have Bu10 : Kept _ := ⟨H10.out.2.1⟩
  go_wp2_with fail
  rw [rounds_succ]
  go_wp2_with fail
  refine (step_at _ _ _ _ l02 n1 r1 u10 _ rfl rfl rfl rfl Bl02.out Bn1.out Br1.out Bu10.out).mono ?_
  rintro e w_ ⟨l11, u11, rfl, rfl, H11⟩
  have Bl11 : Kept _ := ⟨H11.out.1⟩
  have Bu11 : Kept _ := ⟨H11.out.2.1⟩
  go_wp2_with fail
  rw [rounds_succ]
  go_wp2_with fail
  refine (step_at _ _ _ _ 0 n2 r1 u11 _ rfl rfl rfl rfl (by omega) Bn2.out Br1.out Bu11.out).mono ?_
  rintro e w_ ⟨l12, u12, rfl, rfl, H12⟩
  have Bl12 : Kept _ := ⟨H12.out.1⟩
  have Bu12 : Kept _ := ⟨H12.out.2.1⟩
  go_wp2_with fail
  rw [rounds_succ]
  go_wp2_with fail
  rw [rounds_succ]
  go_wp2
  refine bodyPost_ret (v := .agg #[.int .u64 (l00 : Int), .int .u64 (l10 : Int), .int .u64 (l11 : Int), .int .u64 (l12 : Int)]) (by simp [results, Tryz.results124, go_sem]) rfl ⟨l00, l10, l11, l12, rfl, ?_, ⟨H00.out.1, H10.out.1, H11.out.1, H12.out.1, wide_arith _ _ _ _ _ _ _ _ _ _ _ _ _ _ _ _ _ BB.out.1 Bn0.out Bn1.out BB.out.2.1 BB.out.2.2 H00.out H01.out H02.out H10.out H11.out H12.out⟩⟩
  repeat (first | with_reducible exact Below.refl _ _ | with_reducible assumption | with_reducible refine Below.drew ?_ | (with_reducible refine Below.alloc ?_ ?hB _; (case hB => first | omega | (simp <;> omega))) | (with_reducible refine Below.setCell ?_ ?hB _; (case hB => first | omega | (simp <;> omega))))
theorem r_parts (r : Nat) (h : r < 21267647932558653966460912964485513216) : wd r 1 < 1152921504606846976 ∧ wd r 0 + 18446744073709551616 * wd r 1 = r := by
  rw [wd0, wd1]
  omega
theorem wideD (N r : Nat) (w : World) (hN : N < 2722258935367507707706996859454145691648) (hr : r < 21267647932558653966460912964485513216) (hr0 : wd r 0 < 1152921504606846976) :
    Calls Tryz.prog 124 #[.agg (ints .u64 (nw N)), .agg (ints .u64 (nw2 r))] w fun e w' => e = .returned (.agg (ints .u64 (nw4 (N * r)))) ∧ Below w.heap.size w w' := by
  have hp := r_parts r hr
  have hs := nw_sum N (by omega)
  refine (wide_any (wd N 0) (wd N 1) (wd N 2) (wd r 0) (wd r 1) w (wd_lt _ _) (wd_lt _ _) (by omega) hr0 hp.1).mono ?_
  rintro e w' ⟨z0, z1, z2, z3, rfl, hb, H⟩
  refine ⟨?_, hb⟩
  obtain ⟨h0, h1, h2, h3, h4⟩ := H.out
  rw [hs, hp.2] at h4
  rw [nw4_of z0 z1 z2 z3 (N * r) h0 h1 h2 h3 h4]
  rfl
end Go.Proofs.YtjkdonjcngmjeaaGreatDoor.sh
/-
  Products modulo p, and the bytes of a number, by the program.
-/
namespace Go.Proofs.YtjkdonjcngmjeaaGreatDoor.sh
open Go Go.RowKit
set_option linter.unusedVariables false
set_option linter.unusedSimpArgs false

theorem run_build3 {o : Oper} {a : Act} {x y z : Operand} {p q r : Nat} (ho : o.op = .build 144 #[(0, x), (1, y), (2, z)]) (hx : a.eval x = .int .u64 (p : Int)) (hy : a.eval y = .int .u64 (q : Int)) (hz : a.eval z = .int .u64 (r : Int)) (w : World) : (execOp a.eval o).run Tryz.prog w = .ok (.value (.agg (ints .u64 [p, q, r]))) w := by
  have hb : (Instr.build 144 #[(0, .int .u64 (p : Int)), (1, .int .u64 (q : Int)), (2, .int .u64 (r : Int))]).run Tryz.prog w = .ok (.agg (ints .u64 [p, q, r])) w := by kernel_rfl
  unfold execOp
  simp only [ho, List.map_toArray, List.map_cons, List.map_nil, hx, hy, hz]
  simp [hb]
theorem run_build32 {o : Oper} {a : Act} {x y : Operand} {p q : Nat} (ho : o.op = .build 144 #[(0, x), (1, y)]) (hx : a.eval x = .int .u64 (p : Int)) (hy : a.eval y = .int .u64 (q : Int)) (w : World) : (execOp a.eval o).run Tryz.prog w = .ok (.value (.agg (ints .u64 [p, q, 0]))) w := by
  have hb : (Instr.build 144 #[(0, .int .u64 (p : Int)), (1, .int .u64 (q : Int))]).run Tryz.prog w = .ok (.agg (ints .u64 [p, q, 0])) w := by kernel_rfl
  unfold execOp
  simp only [ho, List.map_toArray, List.map_cons, List.map_nil, hx, hy]
  simp [hb]
theorem run_build2 {o : Oper} {a : Act} {x y : Operand} {p q : Nat} (ho : o.op = .build 141 #[(0, x), (1, y)]) (hx : a.eval x = .int .u64 (p : Int)) (hy : a.eval y = .int .u64 (q : Int)) (w : World) : (execOp a.eval o).run Tryz.prog w = .ok (.value (.agg (ints .u64 [p, q]))) w := by
  have hb : (Instr.build 141 #[(0, .int .u64 (p : Int)), (1, .int .u64 (q : Int))]).run Tryz.prog w = .ok (.agg (ints .u64 [p, q])) w := by kernel_rfl
  unfold execOp
  simp only [ho, List.map_toArray, List.map_cons, List.map_nil, hx, hy]
  simp [hb]
theorem run_shl62 {o : Oper} {a : Act} {x : Operand} {m z : Nat} (ho : o.op = .binOp .shl 22 x (.const (.int .u64 62)) 96) (hx : a.eval x = .int .u64 (m : Int)) (hz : z = m % 4 * 4611686018427387904) (w : World) : (execOp a.eval o).run Tryz.prog w = .ok (.value (.int .u64 (z : Int))) w := by
  have e3 : a.eval (.const (.int .u64 62)) = .int .u64 62 := rfl
  unfold execOp
  simp only [ho, hx, e3]
  rw [hz]
  simp [go_sem, Op.shift, IntKind.bits, IntKind.wrap_u64]
  omega
theorem run_or62 {o : Oper} {a : Act} {x y : Operand} {m n z : Nat} (ho : o.op = .binOp .or 22 x y 22) (hx : a.eval x = .int .u64 (m : Int)) (hy : a.eval y = .int .u64 ((n * 4611686018427387904 : Nat) : Int)) (hm : m < 4611686018427387904) (hn : n < 4) (hz : z = m + n * 4611686018427387904) (w : World) : (execOp a.eval o).run Tryz.prog w = .ok (.value (.int .u64 (z : Int))) w := by
  have h := or_shift 62 m n hm (by omega)
  unfold execOp
  simp only [ho, hx, hy]
  rw [hz]
  rw [show (2 : Nat) ^ 62 = 4611686018427387904 by decide] at h
  simp [go_sem]
  simpa using h

theorem a2_info : (Tryz.prog.info? 141).map (·.size) = some 2 := by kernel_rfl
theorem a4_info : (Tryz.prog.info? 123).map (·.size) = some 4 := by kernel_rfl
set_option maxRecDepth 100000 in
set_option maxHeartbeats 2000000 in
theorem timesD (N r : Nat) (w : World) (hN : N < 2722258935367507707706996859454145691648) (hr : r < 21267647932558653966460912964485513216) (hr0 : wd r 0 < 1152921504606846976) :
    Calls Tryz.prog 91 #[.agg (ints .u64 (nw N)), .agg (ints .u64 (nw2 r))] w fun e w' => e = .returned (.agg (ints .u64 (nw (timesN N r)))) ∧ Below w.heap.size w w' := by
  have CW : Kept (∀ w', Calls Tryz.prog 124 #[.agg (ints .u64 (nw N)), .agg (ints .u64 (nw2 r))] w' fun e w2 => e = .returned (.agg (ints .u64 (nw4 (N * r)))) ∧ Below w'.heap.size w' w2) := ⟨fun w' => wideD N r w' hN hr hr0⟩
  obtain ⟨P, hP⟩ : ∃ P, P = N * r := ⟨_, rfl⟩
  have PL : P < 57896044618658097711785492504343953926634992332820282019728792003956564819968 := by rw [hP]; exact prod_lt N r hN hr
  obtain ⟨p0, hp0⟩ : ∃ p, p = wd P 0 := ⟨_, rfl⟩
  obtain ⟨p1, hp1⟩ : ∃ p, p = wd P 1 := ⟨_, rfl⟩
  obtain ⟨p2, hp2⟩ : ∃ p, p = wd P 2 := ⟨_, rfl⟩
  obtain ⟨p3, hp3⟩ : ∃ p, p = wd P 3 := ⟨_, rfl⟩
  obtain ⟨q2, hq2⟩ : ∃ q, q = p2 % 4 := ⟨_, rfl⟩
  obtain ⟨s2, hs2⟩ : ∃ q, q = p2 / 4 := ⟨_, rfl⟩
  obtain ⟨t3, ht3⟩ : ∃ q, q = p3 % 4 := ⟨_, rfl⟩
  obtain ⟨s3, hs3⟩ : ∃ q, q = p3 / 4 := ⟨_, rfl⟩
  obtain ⟨h0, hh0⟩ : ∃ q, q = s2 + t3 * 4611686018427387904 := ⟨_, rfl⟩
  obtain ⟨X, hX⟩ : ∃ X, X = P % 1361129467683753853853498429727072845824 := ⟨_, rfl⟩
  obtain ⟨Y, hY⟩ : ∃ Y, Y = P / 1361129467683753853853498429727072845824 := ⟨_, rfl⟩
  obtain ⟨LO, hLO⟩ : ∃ l, l = [p0, p1, q2] := ⟨_, rfl⟩
  obtain ⟨HI, hHI⟩ : ∃ l, l = [h0, s3, 0] := ⟨_, rfl⟩
  have EX : Kept (nw X = LO) := ⟨by rw [hX, times_low, hLO, hq2, hp0, hp1, hp2]⟩
  have EY : Kept (nw Y = HI) := ⟨by rw [hY, times_high P (by omega), hHI, hh0, hs2, ht3, hs3, hp2, hp3]⟩
  obtain ⟨L, hL⟩ : ∃ L, L = nw (timesN N r) := ⟨_, rfl⟩
  have EL : Kept (L = nw (X + Y * 5)) := ⟨by rw [hL, hX, hY, hP]; unfold timesN; rw [Nat.mul_comm 5]⟩
  rw [← hL]
  rw [← hP] at CW
  obtain ⟨NL, hNL⟩ : ∃ l, l = nw N := ⟨_, rfl⟩
  obtain ⟨RL, hRL⟩ : ∃ l, l = nw2 r := ⟨_, rfl⟩
  obtain ⟨PW, hPW⟩ : ∃ l, l = nw4 P := ⟨_, rfl⟩
  rw [← hNL, ← hRL] at CW ⊢
  rw [← hPW] at CW
  have LN : Kept (NL.length = 3) := ⟨by rw [hNL]; rfl⟩
  have LR : Kept (RL.length = 2) := ⟨by rw [hRL]; rfl⟩
  have LP : Kept (PW.length = 4) := ⟨by rw [hPW]; rfl⟩
  have LL : Kept (L.length = 3) := ⟨by rw [hL]; rfl⟩
  have LLO : Kept (LO.length = 3) := ⟨by rw [hLO]; rfl⟩
  have LHI : Kept (HI.length = 3) := ⟨by rw [hHI]; rfl⟩
  have HL : Kept (L.length = LO.length) := ⟨by rw [LL.out, LLO.out]⟩
  have G0 : Kept ((ints .u64 PW)[0]? = some (.int .u64 (p0 : Int))) := ⟨ints_get (by rw [hPW, hp0]; rfl)⟩
  have G1 : Kept ((ints .u64 PW)[1]? = some (.int .u64 (p1 : Int))) := ⟨ints_get (by rw [hPW, hp1]; rfl)⟩
  have G2 : Kept ((ints .u64 PW)[2]? = some (.int .u64 (p2 : Int))) := ⟨ints_get (by rw [hPW, hp2]; rfl)⟩
  have G3 : Kept ((ints .u64 PW)[3]? = some (.int .u64 (p3 : Int))) := ⟨ints_get (by rw [hPW, hp3]; rfl)⟩
  have B2 : Kept (p2 < 18446744073709551616) := ⟨by rw [hp2]; exact wd_lt _ _⟩
  have B3 : Kept (p3 < 18446744073709551616) := ⟨by rw [hp3]; exact wd_lt _ _⟩
  have Bs2 : Kept (s2 < 4611686018427387904) := ⟨by have := B2.out; omega⟩
  have Bt3 : Kept (t3 < 4) := ⟨by omega⟩
  have E1 : Kept _ := ⟨hq2⟩
  have E2 : Kept _ := ⟨hs2⟩
  have E3 : Kept (t3 * 4611686018427387904 = p3 % 4 * 4611686018427387904) := ⟨by rw [ht3]⟩
  have E4 : Kept _ := ⟨hs3⟩
  have E5 : Kept _ := ⟨hh0⟩
  have ELO : Kept ([p0, p1, q2] = LO) := ⟨hLO.symm⟩
  have EHI : Kept ([h0, s3, 0] = HI) := ⟨hHI.symm⟩
  obtain ⟨ZZ, hZZ⟩ : ∃ ZZ : Array Value, ZZ = #[.int .u64 0, .int .u64 0, .int .u64 0] := ⟨_, rfl⟩
  have LZ : Kept (ZZ.size = 3) := ⟨by rw [hZZ]; rfl⟩
  have A0 : Blk (((w.alloc (.cells (ints .u64 NL) 144)).alloc (.cells (ints .u64 RL) 141)).alloc (.cells #[.int .u64 0, .int .u64 0, .int .u64 0] 144)) w.heap.size 144 (ints .u64 NL) := ((blk_new w _ _).alloc _).alloc _
  have A1 : Blk (((w.alloc (.cells (ints .u64 NL) 144)).alloc (.cells (ints .u64 RL) 141)).alloc (.cells #[.int .u64 0, .int .u64 0, .int .u64 0] 144)) (w.heap.size + 1) 141 (ints .u64 RL) := (blk_top _ _ _ _ (by simp)).alloc _
  have AZ : Blk (((w.alloc (.cells (ints .u64 NL) 144)).alloc (.cells (ints .u64 RL) 141)).alloc (.cells #[.int .u64 0, .int .u64 0, .int .u64 0] 144)) (w.heap.size + 2) 144 ZZ := by rw [hZZ]; exact blk_top _ _ _ _ (by simp)
  have Q0 : Below w.heap.size w (((w.alloc (.cells (ints .u64 NL) 144)).alloc (.cells (ints .u64 RL) 141)).alloc (.cells #[.int .u64 0, .int .u64 0, .int .u64 0] 144)) := (((Below.refl _ _).alloc (Nat.le_refl _) _).alloc (by simp) _).alloc (by simp; omega) _
  clear hN hr hr0 hP PL hp0 hp1 hp2 hp3 hq2 hs2 ht3 hs3 hh0 hX hY hLO hHI hL hNL hRL hPW hZZ
  go_enter Tryz.func91, Tryz.ntmps91
  go_wp2_with (first | ((with_reducible refine wv_row (d := 10) ?hd ?hw 144 (.tmp 2) ?ho (w.heap.size) ?hx (t' := 144) (ints .u64 NL) _ _ Tryz.underlying144 ?hs ?hg ?_); (case hd => rfl); (case hw => kernel_rfl); (case ho => rfl); (case hx => kernel_rfl); (case hs => rw [ints_size, LN.out]; exact nt_info); (case hg => exact A0); simp only [Act.put, List.setIfInBounds_toArray, List.set_cons_succ, List.set_cons_zero]) | ((with_reducible refine wv_row (d := 11) ?hd ?hw 141 (.tmp 3) ?ho (w.heap.size + 1) ?hx (t' := 141) (ints .u64 RL) _ _ Tryz.underlying141 ?hs ?hg ?_); (case hd => rfl); (case hw => kernel_rfl); (case ho => rfl); (case hx => kernel_rfl); (case hs => rw [ints_size, LR.out]; exact a2_info); (case hg => exact A1); simp only [Act.put, List.setIfInBounds_toArray, List.set_cons_succ, List.set_cons_zero]))
  refine (CW.out _).mono ?_
  rintro e w1 ⟨rfl, hb1⟩
  have BZ := AZ.under hb1
  have Q1 := Q0.trans (hb1.mono Q0.size)
  have hl1 : w.heap.size + 2 < w1.heap.size := BZ.lt
  clear A0 A1 AZ Q0 hb1 CW
  go_wp2_with (first | (refine wl_store rfl 123 (.tmp 5) (.tmp 12) rfl w1.heap.size (ints .u64 PW) rfl rfl _ (blk_new w1 _ _) (by rw [ints_size, LP.out]; exact a4_info) (by rw [ints_size, LP.out]; rfl) (ints_one _ _) ?_))
  intro w2 A5 P2
  have CZ := P2.blk (BZ.alloc _) (by omega)
  have Q2 := (Q1.alloc Q1.size _).trans (P2.below (by omega))
  generalize hg5 : w1.heap.size = g5 at *
  have hl2 : g5 < w2.heap.size := A5.lt
  have KA : Kept _ := ⟨A5⟩
  clear BZ Q1 P2 hg5
  go_wp2_with (first | ((with_reducible refine wv_elem (d := 14) ?hd ?hw 22 ag_u64 (.tmp 13) ?ho (⟨g5, 0, none⟩) ?hx (.int .u64 (p0 : Int)) ?hc ?_); (case hd => rfl); (case hw => kernel_rfl); (case ho => rfl); (case hx => kernel_rfl); (case hc => exact KA.out.cell G0.out); simp only [Act.put, List.setIfInBounds_toArray, List.set_cons_succ, List.set_cons_zero]) | ((with_reducible refine wv_elem (d := 16) ?hd ?hw 22 ag_u64 (.tmp 15) ?ho (⟨g5, 1, none⟩) ?hx (.int .u64 (p1 : Int)) ?hc ?_); (case hd => rfl); (case hw => kernel_rfl); (case ho => rfl); (case hx => kernel_rfl); (case hc => exact KA.out.cell G1.out); simp only [Act.put, List.setIfInBounds_toArray, List.set_cons_succ, List.set_cons_zero]) | ((with_reducible refine wv_elem (d := 18) ?hd ?hw 22 ag_u64 (.tmp 17) ?ho (⟨g5, 2, none⟩) ?hx (.int .u64 (p2 : Int)) ?hc ?_); (case hd => rfl); (case hw => kernel_rfl); (case ho => rfl); (case hx => kernel_rfl); (case hc => exact KA.out.cell G2.out); simp only [Act.put, List.setIfInBounds_toArray, List.set_cons_succ, List.set_cons_zero]) | ((with_reducible refine wv_val (d := 19) ?hd ?hw (.int .u64 (q2 : Int)) ?hr ?_); (case hd => rfl); (case hw => kernel_rfl); (case hr => intro w; exact run_and3 rfl (by kernel_rfl) B2.out E1.out w); simp only [Act.put, List.setIfInBounds_toArray, List.set_cons_succ, List.set_cons_zero]) | ((with_reducible refine wv_val (d := 20) ?hd ?hw (.agg (ints .u64 [p0, p1, q2])) ?hr ?_); (case hd => rfl); (case hw => kernel_rfl); (case hr => intro w; exact run_build3 rfl (by kernel_rfl) (by kernel_rfl) (by kernel_rfl) w); simp only [Act.put, List.setIfInBounds_toArray, List.set_cons_succ, List.set_cons_zero]) | (refine wl_store rfl 144 (.tmp 6) (.tmp 20) rfl w2.heap.size (ints .u64 [p0, p1, q2]) rfl rfl _ (blk_new w2 _ _) (by rw [ints_size]; exact nt_info) (by rw [ints_size]; rfl) (ints_one _ _) ?_))
  intro w3 A6 P3
  rw [ELO.out] at A6
  have A5' := P3.blk (A5.alloc _) (by omega)
  have DZ := P3.blk (CZ.alloc _) (by omega)
  have Q3 := (Q2.alloc Q2.size _).trans (P3.below (by omega))
  generalize hg6 : w2.heap.size = g6 at *
  have hl3 : g6 < w3.heap.size := A6.lt
  clear A5 CZ Q2 P3 KA hg6
  have KA : Kept _ := ⟨A5'⟩
  go_wp2_with (first | ((with_reducible refine wv_elem (d := 22) ?hd ?hw 22 ag_u64 (.tmp 21) ?ho (⟨g5, 2, none⟩) ?hx (.int .u64 (p2 : Int)) ?hc ?_); (case hd => rfl); (case hw => kernel_rfl); (case ho => rfl); (case hx => kernel_rfl); (case hc => exact KA.out.cell G2.out); simp only [Act.put, List.setIfInBounds_toArray, List.set_cons_succ, List.set_cons_zero]) | ((with_reducible refine wv_val (d := 23) ?hd ?hw (.int .u64 (s2 : Int)) ?hr ?_); (case hd => rfl); (case hw => kernel_rfl); (case hr => intro w; exact run_shr2 rfl (by kernel_rfl) B2.out E2.out w); simp only [Act.put, List.setIfInBounds_toArray, List.set_cons_succ, List.set_cons_zero]) | ((with_reducible refine wv_elem (d := 25) ?hd ?hw 22 ag_u64 (.tmp 24) ?ho (⟨g5, 3, none⟩) ?hx (.int .u64 (p3 : Int)) ?hc ?_); (case hd => rfl); (case hw => kernel_rfl); (case ho => rfl); (case hx => kernel_rfl); (case hc => exact KA.out.cell G3.out); simp only [Act.put, List.setIfInBounds_toArray, List.set_cons_succ, List.set_cons_zero]) | ((with_reducible refine wv_val (d := 26) ?hd ?hw (.int .u64 ((t3 * 4611686018427387904 : Nat) : Int)) ?hr ?_); (case hd => rfl); (case hw => kernel_rfl); (case hr => intro w; exact run_shl62 rfl (by kernel_rfl) E3.out w); simp only [Act.put, List.setIfInBounds_toArray, List.set_cons_succ, List.set_cons_zero]) | ((with_reducible refine wv_val (d := 27) ?hd ?hw (.int .u64 (h0 : Int)) ?hr ?_); (case hd => rfl); (case hw => kernel_rfl); (case hr => intro w; exact run_or62 rfl (by kernel_rfl) (by kernel_rfl) Bs2.out Bt3.out E5.out w); simp only [Act.put, List.setIfInBounds_toArray, List.set_cons_succ, List.set_cons_zero]) | ((with_reducible refine wv_elem (d := 29) ?hd ?hw 22 ag_u64 (.tmp 28) ?ho (⟨g5, 3, none⟩) ?hx (.int .u64 (p3 : Int)) ?hc ?_); (case hd => rfl); (case hw => kernel_rfl); (case ho => rfl); (case hx => kernel_rfl); (case hc => exact KA.out.cell G3.out); simp only [Act.put, List.setIfInBounds_toArray, List.set_cons_succ, List.set_cons_zero]) | ((with_reducible refine wv_val (d := 30) ?hd ?hw (.int .u64 (s3 : Int)) ?hr ?_); (case hd => rfl); (case hw => kernel_rfl); (case hr => intro w; exact run_shr2 rfl (by kernel_rfl) B3.out E4.out w); simp only [Act.put, List.setIfInBounds_toArray, List.set_cons_succ, List.set_cons_zero]) | ((with_reducible refine wv_val (d := 31) ?hd ?hw (.agg (ints .u64 [h0, s3, 0])) ?hr ?_); (case hd => rfl); (case hw => kernel_rfl); (case hr => intro w; exact run_build32 rfl (by kernel_rfl) (by kernel_rfl) w); simp only [Act.put, List.setIfInBounds_toArray, List.set_cons_succ, List.set_cons_zero]) | (refine wl_store rfl 144 (.tmp 7) (.tmp 31) rfl w3.heap.size (ints .u64 [h0, s3, 0]) rfl rfl _ (blk_new w3 _ _) (by rw [ints_size]; exact nt_info) (by rw [ints_size]; rfl) (ints_one _ _) ?_))
  intro w4 A7 P4
  rw [EHI.out] at A7
  have A6' := P4.blk (A6.alloc _) (by omega)
  have EZ := P4.blk (DZ.alloc _) (by omega)
  have Q4 := (Q3.alloc Q3.size _).trans (P4.below (by omega))
  generalize hg7 : w3.heap.size = g7 at *
  have hl4 : g7 < w4.heap.size := A7.lt
  clear A5' A6 DZ Q3 P4 KA hg7 G0 G1 G2 G3 B2 B3 Bs2 Bt3 E1 E2 E3 E4 E5 ELO EHI
  go_wp2_with fail
  go_loopg [8, 32] 3 (fun k s8 s32 wr => ∃ i c : Nat, i + k = 3 ∧ s8 = .int .u64 (c : Int) ∧ s32 = .int .i64 (i : Int) ∧ Kept (c = cy X Y 5 i) ∧ Below w.heap.size w wr ∧ Blk wr g6 144 (ints .u64 (mix L LO i)) ∧ Blk wr g7 144 (ints .u64 HI) ∧ Blk wr (w.heap.size + 2) 144 ZZ)
  case atStart => exact ⟨0, 0, by omega, rfl, rfl, ⟨(cy_zero _ _ _).symm⟩, Q4, by rw [mix_zero]; exact A6', A7, EZ⟩
  case round =>
    obtain ⟨i, c, hik, rfl, rfl, HC, HB, A0, A1, A2⟩ := hrel
    clear Q4 A6' A7 EZ
    by_cases hk0 : gk = 0
    · obtain rfl : i = 3 := by omega
      have e : mix L LO 3 = L := by rw [← LLO.out]; exact mix_all L LO HL.out
      rw [e] at A0
      clear A1 e HC
      go_wp2_with (first | (refine wl_load rfl 144 (.tmp 6) rfl _ rfl (ints .u64 L) 3 22 Tryz.underlying144 (by rw [ints_size, LL.out]; exact nt_info) A0 ?_) | (refine wl_store rfl 144 (.tmp 4) (.tmp 49) rfl _ (ints .u64 L) rfl rfl _ A2 (by rw [ints_size, LL.out]; exact nt_info) (by rw [ints_size, LL.out, LZ.out]) (ints_one _ _) ?_))
      intro w3 A3 P3
      go_wp2
      exact bodyPost_ret (v := .agg (ints .u64 L)) (results_cell_row Tryz.results91 _ _ _ 144 (ints .u64 L) (0, 0) _ rfl A3 Tryz.underlying144 rfl (by rw [ints_size, LL.out]; exact nt_info)) rfl ⟨rfl, HB.trans (P3.below (by omega))⟩
    · have hil : i < 3 := by omega
      have hlt : ((i : Int) < 3) := by omega
      obtain ⟨x, hx⟩ : ∃ x, x = wd X i := ⟨_, rfl⟩
      obtain ⟨y, hy⟩ : ∃ y, y = wd Y i := ⟨_, rfl⟩
      obtain ⟨lo, hlo⟩ : ∃ z, z = (x + y * 5 + c) % 18446744073709551616 := ⟨_, rfl⟩
      obtain ⟨hi, hhi⟩ : ∃ z, z = (x + y * 5 + c) / 18446744073709551616 := ⟨_, rfl⟩
      have gx : Kept ((ints .u64 (mix L LO i))[i]? = some (.int .u64 (x : Int))) := ⟨ints_get (by rw [mix_get L LO i HL.out (by rw [LLO.out]; exact hil), ← EX.out, hx]; exact nw_get X i hil)⟩
      have gy : Kept ((ints .u64 HI)[i]? = some (.int .u64 (y : Int))) := ⟨ints_get (by rw [← EY.out, hy]; exact nw_get Y i hil)⟩
      have hs := cy_step X Y 5 i
      have hwl := wd_lt (X + Y * 5) i
      rw [← hx, ← hy, ← HC.out] at hs
      have gz : Kept (L[i]? = some lo) := ⟨by
        rw [EL.out, nw_get _ i hil, hlo]
        congr 1
        omega⟩
      have hc2 : Kept (hi = cy X Y 5 (i + 1)) := ⟨by rw [hhi]; omega⟩
      have CS : Kept (∀ w', Below wr.heap.size wr w' → Calls Tryz.prog 125 [.int .u64 (x : Int), .int .u64 (y : Int), .int .u64 5, .int .u64 (c : Int)].toArray w' fun e w2 => e = .returned (.tuple #[.int .u64 (lo : Int), .int .u64 (hi : Int)]) ∧ Below w'.heap.size w' w2) := ⟨fun w' _ => by
        refine (stepD x y 5 c (by rw [hx]; exact wd_lt _ _) (by rw [hy]; exact wd_lt _ _) (by decide) (by rw [HC.out]; exact cy_lt _ _ _ _ (by decide)) w').mono ?_
        rintro e w2 ⟨rfl, rfl⟩
        exact ⟨by rw [hlo, hhi], Below.refl _ _⟩⟩
      clear hlo hhi hx hy hs hwl HC
      go_wp2_with fail
      refine region_late wr 14 13 [(36, .int .i64 (i : Int)), (37, .int .i64 (i : Int)), (38, .pointer (some ⟨g6, i, none⟩)), (39, .int .u64 (x : Int)), (40, .int .i64 (i : Int)), (41, .pointer (some ⟨g7, i, none⟩)), (42, .int .u64 (y : Int)), (43, .int .u64 (c : Int)), (44, .tuple #[.int .u64 (lo : Int), .int .u64 (hi : Int)]), (35, .tuple #[.int .u64 (lo : Int), .int .u64 (hi : Int)]), (45, .int .u64 (lo : Int)), (46, .int .u64 (hi : Int)), (47, .pointer (some ⟨g6, i, none⟩))] (fun wt => Blk wt g6 144 (ints .u64 (mix L LO (i + 1))) ∧ Blk wt g7 144 (ints .u64 HI) ∧ Blk wt (w.heap.size + 2) 144 ZZ ∧ Below w.heap.size w wt) rfl (by kernel_rfl) (by kernel_rfl) (by kernel_rfl) (by kernel_rfl) (by kernel_rfl) (by kernel_rfl) (by kernel_rfl) _ rfl rfl (Below.refl _ _) ?hC (fun hA => ⟨.inr (.inl ⟨by kernel_rfl, ow_val hA (wants_none rfl) 36 (.int .i64 (i : Int)) (by kernel_rfl) rfl rfl rfl rfl (by kernel_rfl) (fun w => by kernel_rfl)⟩), .inr (.inl ⟨by kernel_rfl, ow_val hA (wants_none rfl) 37 (.int .i64 (i : Int)) (by kernel_rfl) rfl rfl rfl rfl (by kernel_rfl) (fun w => by kernel_rfl)⟩), .inr (.inl ⟨by kernel_rfl, ow_val hA (wants_none rfl) 38 (.pointer (some ⟨g6, i, none⟩)) (by kernel_rfl) rfl rfl rfl rfl (by kernel_rfl) (fun w => run_idx rfl (by kernel_rfl) (by kernel_rfl) Tryz.underlying144 hil sz_u64 w)⟩), .inr (.inl ⟨by kernel_rfl, ow_elem hA (wants_none rfl) 39 (.int .u64 (x : Int)) (by kernel_rfl) rfl rfl rfl rfl (by kernel_rfl) 22 ag_u64 (.tmp 38) rfl (⟨g6, i, none⟩) (by kernel_rfl) (fun w1 hb => (A0.under hb).cell gx.out)⟩), .inr (.inl ⟨by kernel_rfl, ow_val hA (wants_none rfl) 40 (.int .i64 (i : Int)) (by kernel_rfl) rfl rfl rfl rfl (by kernel_rfl) (fun w => by kernel_rfl)⟩), .inr (.inl ⟨by kernel_rfl, ow_val hA (wants_none rfl) 41 (.pointer (some ⟨g7, i, none⟩)) (by kernel_rfl) rfl rfl rfl rfl (by kernel_rfl) (fun w => run_idx rfl (by kernel_rfl) (by kernel_rfl) Tryz.underlying144 hil sz_u64 w)⟩), .inr (.inl ⟨by kernel_rfl, ow_elem hA (wants_none rfl) 42 (.int .u64 (y : Int)) (by kernel_rfl) rfl rfl rfl rfl (by kernel_rfl) 22 ag_u64 (.tmp 41) rfl (⟨g7, i, none⟩) (by kernel_rfl) (fun w1 hb => (A1.under hb).cell gy.out)⟩), .inr (.inl ⟨by kernel_rfl, ow_val hA (wants_none rfl) 43 (.int .u64 (c : Int)) (by kernel_rfl) rfl rfl rfl rfl (by kernel_rfl) (fun w => by kernel_rfl)⟩), .inr (.inl ⟨by kernel_rfl, ow_calld hA (wants_none rfl) 44 (.tuple #[.int .u64 (lo : Int), .int .u64 (hi : Int)]) (by kernel_rfl) rfl rfl rfl rfl (by kernel_rfl) 125 Tryz.f125 _ [.tmp 39, .tmp 42, .const (.int .u64 5), .tmp 43] _ [.int .u64 (x : Int), .int .u64 (y : Int), .int .u64 5, .int .u64 (c : Int)] rfl (by kernel_rfl) Tryz.func125 (by kernel_rfl) rfl (CS.out)⟩), .inr (.inl ⟨by kernel_rfl, ow_val hA (wants_none rfl) 35 (.tuple #[.int .u64 (lo : Int), .int .u64 (hi : Int)]) (by kernel_rfl) rfl rfl rfl rfl (by kernel_rfl) (fun w => by kernel_rfl)⟩), .inr (.inl ⟨by kernel_rfl, ow_val hA (wants_none rfl) 45 (.int .u64 (lo : Int)) (by kernel_rfl) rfl rfl rfl rfl (by kernel_rfl) (fun w => by kernel_rfl)⟩), .inr (.inr (fun W1 => ow_val hA (wants_none rfl) 46 (.int .u64 (hi : Int)) (by kernel_rfl) rfl rfl rfl rfl (by kernel_rfl) (fun w => by kernel_rfl))), .inr (.inl ⟨by kernel_rfl, ow_val hA (wants_none rfl) 47 (.pointer (some ⟨g6, i, none⟩)) (by kernel_rfl) rfl rfl rfl rfl (by kernel_rfl) (fun w => run_idx rfl (by kernel_rfl) (by kernel_rfl) Tryz.underlying144 hil sz_u64 w)⟩), .inl rfl, trivial⟩) ?hst ?_
      case hC => exact fun u u' ⟨h1, h2, h3, h4⟩ hb => ⟨h1.under hb, h2.under hb, h3.under hb, h4.trans (hb.mono h4.size)⟩
      case hst =>
        intro hA
        refine late_store hA rfl rfl 22 sz_u64 47 45 rfl (by kernel_rfl) (by kernel_rfl) g6 i .u64 (lo : Int) (by kernel_rfl) (by kernel_rfl) 144 (ints .u64 (mix L LO i)) (fun u hb => A0.under hb) (by rw [ints_size, mix_len L LO i HL.out, LLO.out]; exact hil) ?_
        intro u u' hb hB hP
        rw [ints_set, mix_set L LO i lo HL.out gz.out] at hB
        exact ⟨hB, hP.blk (A1.under hb) (by omega), hP.blk (A2.under hb) (by omega), (HB.trans (hb.mono HB.size)).trans (hP.below (by omega))⟩
      rintro wt ⟨A4, A14, A24, HB4⟩
      simp only [putR, List.foldl_cons, List.foldl_nil, List.map_cons, List.map_nil, Act.put, List.setIfInBounds_toArray, List.set_cons_succ, List.set_cons_zero]
      clear A0 A1 A2 HB gx gy gz CS
      go_wp2_with fail
      go_roundg (gk - 1)
      case measure => omega
      case rel => exact ⟨i + 1, hi, by omega, rfl, by simp, hc2, HB4, A4, A14, A24⟩

theorem wd_digit (N i : Nat) : wd N (i / 8) / 2 ^ (i % 8 * 8) % 256 = N / 256 ^ i % 256 := by
  unfold wd
  have e1 : (18446744073709551616 : Nat) = 256 ^ 8 := by decide
  have e2 : 256 ^ i = 256 ^ (8 * (i / 8)) * 256 ^ (i % 8) := by rw [← Nat.pow_add]; congr 1; omega
  have h8 : i % 8 < 8 := Nat.mod_lt _ (by decide)
  rw [e2, ← Nat.div_div_eq_div_mul, e1, ← Nat.pow_mul, pow256]
  generalize N / 256 ^ (8 * (i / 8)) = Y
  generalize i % 8 = r at *
  have e3 : (256 : Nat) ^ 8 = 256 ^ r * 256 ^ (8 - r) := by rw [← Nat.pow_add]; congr 1; omega
  rw [e3, Nat.mod_mul_right_div_self]
  have e4 : 256 ^ (8 - r) = 256 * 256 ^ (7 - r) := by rw [← Nat.pow_succ']; congr 1; omega
  rw [e4]
  exact Nat.mod_mod_of_dvd _ ⟨_, rfl⟩
theorem z16b_eq : (#[.int .u8 0, .int .u8 0, .int .u8 0, .int .u8 0, .int .u8 0, .int .u8 0, .int .u8 0, .int .u8 0, .int .u8 0, .int .u8 0, .int .u8 0, .int .u8 0, .int .u8 0, .int .u8 0, .int .u8 0, .int .u8 0] : Array Value) = ints .u8 (List.replicate 16 0) := by kernel_rfl
set_option maxRecDepth 100000 in
set_option maxHeartbeats 1000000 in
theorem bytesD (N : Nat) (w : World) :
    Calls Tryz.prog 94 #[.agg (ints .u64 (nw N))] w fun e w' => e = .returned (.agg (ints .u8 (digs N 16))) ∧ Below w.heap.size w w' := by
  obtain ⟨L, hL⟩ : ∃ L, L = digs N 16 := ⟨_, rfl⟩
  obtain ⟨s, hs⟩ : ∃ s, s = nw N := ⟨_, rfl⟩
  rw [← hL, ← hs]
  have EL : Kept _ := ⟨hL⟩
  have ES : Kept _ := ⟨hs⟩
  have HL : Kept (L.length = 16) := ⟨by rw [hL]; exact digs_len _ _⟩
  obtain ⟨Z0, hZ⟩ : ∃ Z0, Z0 = List.replicate 16 0 := ⟨_, rfl⟩
  have HL2 : Kept (L.length = Z0.length) := ⟨by rw [HL.out, hZ]; rfl⟩
  have HZ : Kept (Z0.length = 16) := ⟨by rw [hZ]; rfl⟩
  have EI : Kept ((#[.int .u8 0, .int .u8 0, .int .u8 0, .int .u8 0, .int .u8 0, .int .u8 0, .int .u8 0, .int .u8 0, .int .u8 0, .int .u8 0, .int .u8 0, .int .u8 0, .int .u8 0, .int .u8 0, .int .u8 0, .int .u8 0] : Array Value) = ints .u8 Z0) := ⟨by rw [hZ]; exact z16b_eq⟩
  clear hZ hL hs
  go_enter Tryz.func94, Tryz.ntmps94
  go_wp2_with fail
  generalize hW : ((w.alloc (.cells (ints .u64 s) 144)).alloc (.cells #[.int .u8 0, .int .u8 0, .int .u8 0, .int .u8 0, .int .u8 0, .int .u8 0, .int .u8 0, .int .u8 0, .int .u8 0, .int .u8 0, .int .u8 0, .int .u8 0, .int .u8 0, .int .u8 0, .int .u8 0, .int .u8 0] 83)).alloc (.cells #[.int .u8 0, .int .u8 0, .int .u8 0, .int .u8 0, .int .u8 0, .int .u8 0, .int .u8 0, .int .u8 0, .int .u8 0, .int .u8 0, .int .u8 0, .int .u8 0, .int .u8 0, .int .u8 0, .int .u8 0, .int .u8 0] 83) = W
  have B0 : Blk W w.heap.size 144 (ints .u64 s) := by subst hW; exact ((blk_new w _ _).alloc _).alloc _
  have B1 : Blk W (w.heap.size + 1) 83 (ints .u8 Z0) := by subst hW; rw [← EI.out]; exact (blk_top _ _ _ _ (by simp)).alloc _
  have B2 : Blk W (w.heap.size + 2) 83 (ints .u8 (mix L Z0 0)) := by subst hW; rw [mix_zero, ← EI.out]; exact blk_top _ _ _ _ (by simp)
  have QB : Below w.heap.size w W := by subst hW; exact (((Below.refl _ _).alloc (Nat.le_refl _) _).alloc (by simp) _).alloc (by simp; omega) _
  clear hW EI
  go_loopg [5] 16 (fun k s5 wr => ∃ i : Nat, i + k = 16 ∧ s5 = .int .i64 (i : Int) ∧ Below w.heap.size w wr ∧ Blk wr w.heap.size 144 (ints .u64 s) ∧ Blk wr (w.heap.size + 1) 83 (ints .u8 Z0) ∧ Blk wr (w.heap.size + 2) 83 (ints .u8 (mix L Z0 i)))
  case atStart => exact ⟨0, by omega, rfl, QB, B0, B1, B2⟩
  case round =>
    obtain ⟨i, hik, rfl, HB, A0, A1, A2⟩ := hrel
    clear QB B0 B1 B2
    by_cases hk0 : gk = 0
    · obtain rfl : i = 16 := by omega
      have e : mix L Z0 16 = L := by rw [← HZ.out]; exact mix_all L Z0 HL2.out
      rw [e] at A2
      clear A0 e
      go_wp2_with (first | (refine wl_load rfl 83 (.tmp 3) rfl _ rfl (ints .u8 L) 16 5 Tryz.underlying83 (by rw [ints_size, HL.out]; exact a16_info) A2 ?_) | (refine wl_store rfl 83 (.tmp 2) (.tmp 20) rfl _ (ints .u8 L) rfl rfl _ A1 (by rw [ints_size, HL.out]; exact a16_info) (by rw [ints_size, ints_size, HL2.out]) (ints_one _ _) ?_))
      intro w3 A3 P3
      go_wp2
      exact bodyPost_ret (v := .agg (ints .u8 L)) (results_cell_row Tryz.results94 _ _ _ 83 (ints .u8 L) (0, 0) _ rfl A3 Tryz.underlying83 rfl (by rw [ints_size, HL.out]; exact a16_info)) rfl ⟨rfl, HB.trans (P3.below (by omega))⟩
    · have hil : i < 16 := by omega
      have hlt : ((i : Int) < 16) := by omega
      have hq8 : i / 8 < 3 := by omega
      obtain ⟨x, hx⟩ : ∃ x, x = wd N (i / 8) := ⟨_, rfl⟩
      have gx : (ints .u64 s)[i / 8]? = some (.int .u64 (x : Int)) := ints_get (by rw [ES.out, hx]; exact nw_get N _ hq8)
      have KX : Kept (x < 18446744073709551616) := ⟨by rw [hx]; exact wd_lt _ _⟩
      have l2 : i < (ints .u8 (mix L Z0 i)).size := by rw [ints_size, mix_len L _ i HL2.out, HZ.out]; exact hil
      obtain ⟨z, hz⟩ : ∃ z, z = x / 2 ^ (i % 8 * 8) % 256 := ⟨_, rfl⟩
      have gz : Kept (L[i]? = some z) := ⟨by rw [EL.out, hz, hx, wd_digit]; exact digs_get N 16 i hil⟩
      have ez : Kept ((x : Int) / 2 ^ (i % 8 * 8) % 256 = (z : Int)) := ⟨by rw [hz, Int.natCast_emod, Int.natCast_ediv, Int.natCast_pow]; rfl⟩
      clear hx hz
      go_wp2_with (first | (refine wl_elem rfl 22 ag_u64 (.tmp 11) rfl w.heap.size (i / 8) rfl (ints .u64 s) (.int .u64 (x : Int)) A0 gx ?_) | (refine wl_setElem rfl 5 sz_u8 (.tmp 18) (.tmp 17) rfl (w.heap.size + 1 + 1) i .u8 ((x : Int) / 2 ^ (i % 8 * 8) % 256) rfl rfl _ A2 l2 ?_))
      rw [ez.out]
      intro w4 A4 P4
      rw [ints_set, mix_set L _ i z HL2.out gz.out] at A4
      have A04 := P4.blk A0 (by omega)
      have A14 := P4.blk A1 (by omega)
      have HB4 := HB.trans (P4.below (by omega))
      clear A0 A1 A2 HB P4 gx gz ez l2
      go_wp2_with fail
      go_roundg (gk - 1)
      case measure => omega
      case rel => exact ⟨i + 1, by omega, by simp, HB4, A04, A14, A4⟩
end Go.Proofs.YtjkdonjcngmjeaaGreatDoor.sh
