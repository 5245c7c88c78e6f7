/-
  Products of numbers, by the program.
-/
import Derived.Test.YtfcinakpdnblfaaYC
import Derived.Test.YtfcinakpdnblfaaSHL
namespace Go.Proofs.Ytfcinakpdnblfaa.sh
open Go Go.RowKit
set_option linter.unusedVariables false
set_option linter.unusedSimpArgs false

theorem step_at (X Y U M : Value) (x y u m : Nat) (w : World) (hX : X = .int .u64 (x : Int)) (hY : Y = .int .u64 (y : Int)) (hU : U = .int .u64 (u : Int)) (hM : M = .int .u64 (m : Int)) (hx : x < 18446744073709551616) (hy : y < 18446744073709551616) (hu : u < 18446744073709551616) (hm : m < 18446744073709551616) :
    Calls Try.prog 26 #[X, Y, U, M] w fun e w' => ∃ lo hi : Nat, e = .returned (.tuple #[.int .u64 (lo : Int), .int .u64 (hi : Int)]) ∧ w' = w ∧
      Kept (lo < 18446744073709551616 ∧ hi < 18446744073709551616 ∧ lo + 18446744073709551616 * hi = x + y * u + m) := by
  subst hX hY hU hM
  refine (stepD x y u m hx hy hu hm w).mono ?_
  rintro e w' ⟨rfl, rfl⟩
  have hP : y * u ≤ 18446744073709551615 * 18446744073709551615 := Nat.mul_le_mul (by omega) (by omega)
  refine ⟨_, _, rfl, rfl, ⟨?_⟩⟩
  generalize y * u = P at *
  omega
theorem wide_arith (n0 n1 n2 r0 r1 l00 u00 l01 u01 l02 u02 l10 u10 l11 u11 l12 u12 : Nat) (h2 : n2 < 8) (hn0 : n0 < 18446744073709551616) (hn1 : n1 < 18446744073709551616) (hr0 : r0 < 1152921504606846976) (hr1 : r1 < 1152921504606846976)
    (H00 : l00 < 18446744073709551616 ∧ u00 < 18446744073709551616 ∧ l00 + 18446744073709551616 * u00 = 0 + n0 * r0 + 0) (H01 : l01 < 18446744073709551616 ∧ u01 < 18446744073709551616 ∧ l01 + 18446744073709551616 * u01 = 0 + n1 * r0 + u00) (H02 : l02 < 18446744073709551616 ∧ u02 < 18446744073709551616 ∧ l02 + 18446744073709551616 * u02 = 0 + n2 * r0 + u01)
    (H10 : l10 < 18446744073709551616 ∧ u10 < 18446744073709551616 ∧ l10 + 18446744073709551616 * u10 = l01 + n0 * r1 + 0) (H11 : l11 < 18446744073709551616 ∧ u11 < 18446744073709551616 ∧ l11 + 18446744073709551616 * u11 = l02 + n1 * r1 + u10) (H12 : l12 < 18446744073709551616 ∧ u12 < 18446744073709551616 ∧ l12 + 18446744073709551616 * u12 = 0 + n2 * r1 + u11) :
    l00 + 18446744073709551616 * l10 + 340282366920938463463374607431768211456 * l11 + 6277101735386680763835789423207666416102355444464034512896 * l12 = (n0 + 18446744073709551616 * n1 + 340282366920938463463374607431768211456 * n2) * (r0 + 18446744073709551616 * r1) := by
  have e : (n0 + 18446744073709551616 * n1 + 340282366920938463463374607431768211456 * n2) * (r0 + 18446744073709551616 * r1) = n0 * r0 + 18446744073709551616 * (n1 * r0) + 340282366920938463463374607431768211456 * (n2 * r0) + 18446744073709551616 * (n0 * r1) + 340282366920938463463374607431768211456 * (n1 * r1) + 6277101735386680763835789423207666416102355444464034512896 * (n2 * r1) := by grind
  rw [e]
  have b00 : n0 * r0 ≤ 18446744073709551615 * 1152921504606846975 := Nat.mul_le_mul (by omega) (by omega)
  have b10 : n1 * r0 ≤ 18446744073709551615 * 1152921504606846975 := Nat.mul_le_mul (by omega) (by omega)
  have b20 : n2 * r0 ≤ 7 * 1152921504606846975 := Nat.mul_le_mul (by omega) (by omega)
  have b01 : n0 * r1 ≤ 18446744073709551615 * 1152921504606846975 := Nat.mul_le_mul (by omega) (by omega)
  have b11 : n1 * r1 ≤ 18446744073709551615 * 1152921504606846975 := Nat.mul_le_mul (by omega) (by omega)
  have b21 : n2 * r1 ≤ 7 * 1152921504606846975 := Nat.mul_le_mul (by omega) (by omega)
  clear e
  generalize n0 * r0 = p00 at *
  generalize n1 * r0 = p10 at *
  generalize n2 * r0 = p20 at *
  generalize n0 * r1 = p01 at *
  generalize n1 * r1 = p11 at *
  generalize n2 * r1 = p21 at *
  have c0 : u00 < 1152921504606846976 := by omega
  have c1 : u01 < 1152921504606846976 := by omega
  have c2 : u02 = 0 := by omega
  have c3 : u10 ≤ 1152921504606846976 := by omega
  have c4 : u11 ≤ 1152921504606846977 := by omega
  have c5 : u12 = 0 := by omega
  omega

set_option maxHeartbeats 4000000 in
theorem wide_any (n0 n1 n2 r0 r1 : Nat) (w : World) (hn0 : n0 < 18446744073709551616) (hn1 : n1 < 18446744073709551616) (h2 : n2 < 8) (hr0 : r0 < 1152921504606846976) (hr1 : r1 < 1152921504606846976) :
    Calls Try.prog 25 #[.agg #[.int .u64 (n0 : Int), .int .u64 (n1 : Int), .int .u64 (n2 : Int)], .agg #[.int .u64 (r0 : Int), .int .u64 (r1 : Int)]] w
      fun e w' => ∃ z0 z1 z2 z3 : Nat, e = .returned (.agg #[.int .u64 (z0 : Int), .int .u64 (z1 : Int), .int .u64 (z2 : Int), .int .u64 (z3 : Int)]) ∧ Below w.heap.size w w' ∧
        Kept (z0 < 18446744073709551616 ∧ z1 < 18446744073709551616 ∧ z2 < 18446744073709551616 ∧ z3 < 18446744073709551616 ∧ z0 + 18446744073709551616 * z1 + 340282366920938463463374607431768211456 * z2 + 6277101735386680763835789423207666416102355444464034512896 * z3 = (n0 + 18446744073709551616 * n1 + 340282366920938463463374607431768211456 * n2) * (r0 + 18446744073709551616 * r1)) := by
  have Bn0 : Kept _ := ⟨hn0⟩
  have Bn1 : Kept _ := ⟨hn1⟩
  have Bn2 : Kept (n2 < 18446744073709551616) := ⟨by omega⟩
  have Br0 : Kept (r0 < 18446744073709551616) := ⟨by omega⟩
  have Br1 : Kept (r1 < 18446744073709551616) := ⟨by omega⟩
  have BB : Kept _ := ⟨And.intro h2 (And.intro hr0 hr1)⟩
  clear hn0 hn1 h2 hr0 hr1
  have ixn0 : ∀ w, (Instr.index 43 (.agg #[.int .u64 (n0 : Int), .int .u64 (n1 : Int), .int .u64 (n2 : Int)]) (.int .i64 0)).run Try.prog w = .ok (.int .u64 (n0 : Int)) w := fun _ => by kernel_rfl
  have ixn1 : ∀ w, (Instr.index 43 (.agg #[.int .u64 (n0 : Int), .int .u64 (n1 : Int), .int .u64 (n2 : Int)]) (.int .i64 1)).run Try.prog w = .ok (.int .u64 (n1 : Int)) w := fun _ => by kernel_rfl
  have ixn2 : ∀ w, (Instr.index 43 (.agg #[.int .u64 (n0 : Int), .int .u64 (n1 : Int), .int .u64 (n2 : Int)]) (.int .i64 2)).run Try.prog w = .ok (.int .u64 (n2 : Int)) w := fun _ => by kernel_rfl
  have ixr0 : ∀ w, (Instr.index 40 (.agg #[.int .u64 (r0 : Int), .int .u64 (r1 : Int)]) (.int .i64 0)).run Try.prog w = .ok (.int .u64 (r0 : Int)) w := fun _ => by kernel_rfl
  have ixr1 : ∀ w, (Instr.index 40 (.agg #[.int .u64 (r0 : Int), .int .u64 (r1 : Int)]) (.int .i64 1)).run Try.prog w = .ok (.int .u64 (r1 : Int)) w := fun _ => by kernel_rfl
  go_enter Try.func25, Try.ntmps25
  go_wp2_with fail
  refine wp_loop_rounds 3 ?_
  rw [rounds_succ]
  go_wp2_with fail
  refine wp_loop_rounds 4 ?_
  rw [rounds_succ]
  go_wp2_with fail
  refine (step_at _ _ _ _ 0 n0 r0 0 _ rfl rfl rfl rfl (by omega) Bn0.out Br0.out (by omega)).mono ?_
  rintro e w_ ⟨l00, u00, rfl, rfl, H00⟩
  have Bl00 : Kept _ := ⟨H00.out.1⟩
  have Bu00 : Kept _ := ⟨H00.out.2.1⟩
  go_wp2_with fail
  rw [rounds_succ]
  go_wp2_with fail
  refine (step_at _ _ _ _ 0 n1 r0 u00 _ rfl rfl rfl rfl (by omega) Bn1.out Br0.out Bu00.out).mono ?_
  rintro e w_ ⟨l01, u01, rfl, rfl, H01⟩
  have Bl01 : Kept _ := ⟨H01.out.1⟩
  have Bu01 : Kept _ := ⟨H01.out.2.1⟩
  go_wp2_with fail
  rw [rounds_succ]
  go_wp2_with fail
  refine (step_at _ _ _ _ 0 n2 r0 u01 _ rfl rfl rfl rfl (by omega) Bn2.out Br0.out Bu01.out).mono ?_
  rintro e w_ ⟨l02, u02, rfl, rfl, H02⟩
  have Bl02 : Kept _ := ⟨H02.out.1⟩
  have Bu02 : Kept _ := ⟨H02.out.2.1⟩
  go_wp2_with fail
  rw [rounds_succ]
  go_wp2_with fail
  rw [rounds_succ]
  go_wp2_with fail
  refine wp_loop_rounds 4 ?_
  rw [rounds_succ]
  go_wp2_with fail
  refine (step_at _ _ _ _ l01 n0 r1 0 _ rfl rfl rfl rfl Bl01.out Bn0.out Br1.out (by omega)).mono ?_
  rintro e w_ ⟨l10, u10, rfl, rfl, H10⟩
  have Bl10 : Kept _ := ⟨H10.out.1⟩
  have Bu10 : Kept _ := ⟨H10.out.2.1⟩
  go_wp2_with fail
  rw [rounds_succ]
  go_wp2_with fail
  refine (step_at _ _ _ _ l02 n1 r1 u10 _ rfl rfl rfl rfl Bl02.out Bn1.out Br1.out Bu10.out).mono ?_
  rintro e w_ ⟨l11, u11, rfl, rfl, H11⟩
  have Bl11 : Kept _ := ⟨H11.out.1⟩
  have Bu11 : Kept _ := ⟨H11.out.2.1⟩
  go_wp2_with fail
  rw [rounds_succ]
  go_wp2_with fail
  refine (step_at _ _ _ _ 0 n2 r1 u11 _ rfl rfl rfl rfl (by omega) Bn2.out Br1.out Bu11.out).mono ?_
  rintro e w_ ⟨l12, u12, rfl, rfl, H12⟩
  have Bl12 : Kept _ := ⟨H12.out.1⟩
  have Bu12 : Kept _ := ⟨H12.out.2.1⟩
  go_wp2_with fail
  rw [rounds_succ]
  go_wp2_with fail
  rw [rounds_succ]
  go_wp2
  refine bodyPost_ret (v := .agg #[.int .u64 (l00 : Int), .int .u64 (l10 : Int), .int .u64 (l11 : Int), .int .u64 (l12 : Int)]) (by simp [results, Try.results25, go_sem]) rfl ⟨l00, l10, l11, l12, rfl, ?_, ⟨H00.out.1, H10.out.1, H11.out.1, H12.out.1, wide_arith _ _ _ _ _ _ _ _ _ _ _ _ _ _ _ _ _ BB.out.1 Bn0.out Bn1.out BB.out.2.1 BB.out.2.2 H00.out H01.out H02.out H10.out H11.out H12.out⟩⟩
  repeat (first | with_reducible exact Below.refl _ _ | with_reducible assumption | with_reducible refine Below.drew ?_ | (with_reducible refine Below.alloc ?_ ?hB _; (case hB => first | omega | (simp <;> omega))) | (with_reducible refine Below.setCell ?_ ?hB _; (case hB => first | omega | (simp <;> omega))))
theorem r_parts (r : Nat) (h : r < 21267647932558653966460912964485513216) : wd r 1 < 1152921504606846976 ∧ wd r 0 + 18446744073709551616 * wd r 1 = r := by
  rw [wd0, wd1]
  omega
theorem wideD (N r : Nat) (w : World) (hN : N < 2722258935367507707706996859454145691648) (hr : r < 21267647932558653966460912964485513216) (hr0 : wd r 0 < 1152921504606846976) :
    Calls Try.prog 25 #[.agg (ints .u64 (nw N)), .agg (ints .u64 (nw2 r))] w fun e w' => e = .returned (.agg (ints .u64 (nw4 (N * r)))) ∧ Below w.heap.size w w' := by
  have hp := r_parts r hr
  have hs := nw_sum N (by omega)
  refine (wide_any (wd N 0) (wd N 1) (wd N 2) (wd r 0) (wd r 1) w (wd_lt _ _) (wd_lt _ _) (by omega) hr0 hp.1).mono ?_
  rintro e w' ⟨z0, z1, z2, z3, rfl, hb, H⟩
  refine ⟨?_, hb⟩
  obtain ⟨h0, h1, h2, h3, h4⟩ := H.out
  rw [hs, hp.2] at h4
  rw [nw4_of z0 z1 z2 z3 (N * r) h0 h1 h2 h3 h4]
  rfl
end Go.Proofs.Ytfcinakpdnblfaa.sh
