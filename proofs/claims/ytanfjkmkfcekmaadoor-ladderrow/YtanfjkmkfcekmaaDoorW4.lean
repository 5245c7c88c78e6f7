/-
  What package limb does with four words: products.
-/
import Derived.Test.YtanfjkmkfcekmaaDoorW2
import Derived.Deep.RegionWith
import Derived.Deep.DeepCutAuto
namespace Go.Proofs.YtanfjkmkfcekmaaDoor
open Go.RowKit
set_option linter.unusedSimpArgs false
set_option linter.unusedVariables false

theorem step_at (X Y U M : Value) (x y u m : Nat) (w : World) (hX : X = .int .u64 (x : Int)) (hY : Y = .int .u64 (y : Int)) (hU : U = .int .u64 (u : Int)) (hM : M = .int .u64 (m : Int)) (hx : x < 18446744073709551616) (hy : y < 18446744073709551616) (hu : u < 18446744073709551616) (hm : m < 18446744073709551616) :
    Calls Tryd.prog 54 #[X, Y, U, M] w fun e w' => ∃ lo hi : Nat, e = .returned (.tuple #[.int .u64 (lo : Int), .int .u64 (hi : Int)]) ∧ w' = w ∧
      Hid (lo < 18446744073709551616 ∧ hi < 18446744073709551616 ∧ lo + 18446744073709551616 * hi = x + y * u + m) := by
  subst hX hY hU hM; exact step_any x y u m w hx hy hu hm

def v8 (z0 z1 z2 z3 z4 z5 z6 z7 : Nat) : Nat := z0 + 18446744073709551616 * z1 + 340282366920938463463374607431768211456 * z2 + 6277101735386680763835789423207666416102355444464034512896 * z3 + 115792089237316195423570985008687907853269984665640564039457584007913129639936 * z4 + 2135987035920910082395021706169552114602704522356652769947041607822219725780640550022962086936576 * z5 + 39402006196394479212279040100143613805079739270465446667948293404245721771497210611414266254884915640806627990306816 * z6 + 726838724295606890549323807888004534353641360687318060281490199180639288113397923326191050713763565560762521606266177933534601628614656 * z7
def lt8 (z0 z1 z2 z3 z4 z5 z6 z7 : Nat) : Prop := z0 < 18446744073709551616 ∧ z1 < 18446744073709551616 ∧ z2 < 18446744073709551616 ∧ z3 < 18446744073709551616 ∧ z4 < 18446744073709551616 ∧ z5 < 18446744073709551616 ∧ z6 < 18446744073709551616 ∧ z7 < 18446744073709551616

theorem mul_v4 (x0 x1 x2 x3 y0 y1 y2 y3 : Nat) : v4 x0 x1 x2 x3 * v4 y0 y1 y2 y3 = 1 * (x0 * y0) + 18446744073709551616 * (x1 * y0) + 340282366920938463463374607431768211456 * (x2 * y0) + 6277101735386680763835789423207666416102355444464034512896 * (x3 * y0) + 18446744073709551616 * (x0 * y1) + 340282366920938463463374607431768211456 * (x1 * y1) + 6277101735386680763835789423207666416102355444464034512896 * (x2 * y1) + 115792089237316195423570985008687907853269984665640564039457584007913129639936 * (x3 * y1) + 340282366920938463463374607431768211456 * (x0 * y2) + 6277101735386680763835789423207666416102355444464034512896 * (x1 * y2) + 115792089237316195423570985008687907853269984665640564039457584007913129639936 * (x2 * y2) + 2135987035920910082395021706169552114602704522356652769947041607822219725780640550022962086936576 * (x3 * y2) + 6277101735386680763835789423207666416102355444464034512896 * (x0 * y3) + 115792089237316195423570985008687907853269984665640564039457584007913129639936 * (x1 * y3) + 2135987035920910082395021706169552114602704522356652769947041607822219725780640550022962086936576 * (x2 * y3) + 39402006196394479212279040100143613805079739270465446667948293404245721771497210611414266254884915640806627990306816 * (x3 * y3) := by
  unfold v4
  grind

set_option maxHeartbeats 4000000 in
theorem wide_any (x0 x1 x2 x3 y0 y1 y2 y3 : Nat) (w : World) (hx : lt4 x0 x1 x2 x3) (hy : lt4 y0 y1 y2 y3) :
    Calls Tryd.prog 53 #[L4 x0 x1 x2 x3, L4 y0 y1 y2 y3] w
      fun e w' => ∃ z0 z1 z2 z3 z4 z5 z6 z7 : Nat, e = .returned (.agg #[.int .u64 (z0 : Int), .int .u64 (z1 : Int), .int .u64 (z2 : Int), .int .u64 (z3 : Int), .int .u64 (z4 : Int), .int .u64 (z5 : Int), .int .u64 (z6 : Int), .int .u64 (z7 : Int)]) ∧ Below w.heap.size w w' ∧
        Hid (lt8 z0 z1 z2 z3 z4 z5 z6 z7 ∧ v8 z0 z1 z2 z3 z4 z5 z6 z7 = v4 x0 x1 x2 x3 * v4 y0 y1 y2 y3) := by
  have Bx0 : Hid _ := hx.1
  have Bx1 : Hid _ := hx.2.1
  have Bx2 : Hid _ := hx.2.2.1
  have Bx3 : Hid _ := hx.2.2.2
  have By0 : Hid _ := hy.1
  have By1 : Hid _ := hy.2.1
  have By2 : Hid _ := hy.2.2.1
  have By3 : Hid _ := hy.2.2.2
  clear hx hy
  unfold L4
  have ixx0 : ∀ w, (Instr.index 41 (.agg #[.int .u64 (x0 : Int), .int .u64 (x1 : Int), .int .u64 (x2 : Int), .int .u64 (x3 : Int)]) (.int .i64 0)).run Tryd.prog w = .ok (.int .u64 (x0 : Int)) w := fun _ => by kernel_rfl
  have ixx1 : ∀ w, (Instr.index 41 (.agg #[.int .u64 (x0 : Int), .int .u64 (x1 : Int), .int .u64 (x2 : Int), .int .u64 (x3 : Int)]) (.int .i64 1)).run Tryd.prog w = .ok (.int .u64 (x1 : Int)) w := fun _ => by kernel_rfl
  have ixx2 : ∀ w, (Instr.index 41 (.agg #[.int .u64 (x0 : Int), .int .u64 (x1 : Int), .int .u64 (x2 : Int), .int .u64 (x3 : Int)]) (.int .i64 2)).run Tryd.prog w = .ok (.int .u64 (x2 : Int)) w := fun _ => by kernel_rfl
  have ixx3 : ∀ w, (Instr.index 41 (.agg #[.int .u64 (x0 : Int), .int .u64 (x1 : Int), .int .u64 (x2 : Int), .int .u64 (x3 : Int)]) (.int .i64 3)).run Tryd.prog w = .ok (.int .u64 (x3 : Int)) w := fun _ => by kernel_rfl
  have ixy0 : ∀ w, (Instr.index 41 (.agg #[.int .u64 (y0 : Int), .int .u64 (y1 : Int), .int .u64 (y2 : Int), .int .u64 (y3 : Int)]) (.int .i64 0)).run Tryd.prog w = .ok (.int .u64 (y0 : Int)) w := fun _ => by kernel_rfl
  have ixy1 : ∀ w, (Instr.index 41 (.agg #[.int .u64 (y0 : Int), .int .u64 (y1 : Int), .int .u64 (y2 : Int), .int .u64 (y3 : Int)]) (.int .i64 1)).run Tryd.prog w = .ok (.int .u64 (y1 : Int)) w := fun _ => by kernel_rfl
  have ixy2 : ∀ w, (Instr.index 41 (.agg #[.int .u64 (y0 : Int), .int .u64 (y1 : Int), .int .u64 (y2 : Int), .int .u64 (y3 : Int)]) (.int .i64 2)).run Tryd.prog w = .ok (.int .u64 (y2 : Int)) w := fun _ => by kernel_rfl
  have ixy3 : ∀ w, (Instr.index 41 (.agg #[.int .u64 (y0 : Int), .int .u64 (y1 : Int), .int .u64 (y2 : Int), .int .u64 (y3 : Int)]) (.int .i64 3)).run Tryd.prog w = .ok (.int .u64 (y3 : Int)) w := fun _ => by kernel_rfl
  go_enter Tryd.func53, Tryd.ntmps53
  go_wp2_with fail
  refine wp_loop_rounds 5 ?_
  rw [rounds_succ]
  go_wp2_with fail
  refine wp_loop_rounds 5 ?_
  rw [rounds_succ]
  go_wp2_with fail
  refine (step_at _ _ _ _ 0 x0 y0 0 _ rfl rfl rfl rfl (by omega) Bx0.out By0.out (by omega)).mono ?_
  rintro e w_ ⟨l00, u00, rfl, rfl, H00⟩
  have Bl00 : Hid _ := H00.out.1
  have Bu00 : Hid _ := H00.out.2.1
  go_wp2_with fail
  rw [rounds_succ]
  go_wp2_with fail
  refine (step_at _ _ _ _ 0 x1 y0 u00 _ rfl rfl rfl rfl (by omega) Bx1.out By0.out Bu00.out).mono ?_
  rintro e w_ ⟨l01, u01, rfl, rfl, H01⟩
  have Bl01 : Hid _ := H01.out.1
  have Bu01 : Hid _ := H01.out.2.1
  go_wp2_with fail
  rw [rounds_succ]
  go_wp2_with fail
  refine (step_at _ _ _ _ 0 x2 y0 u01 _ rfl rfl rfl rfl (by omega) Bx2.out By0.out Bu01.out).mono ?_
  rintro e w_ ⟨l02, u02, rfl, rfl, H02⟩
  have Bl02 : Hid _ := H02.out.1
  have Bu02 : Hid _ := H02.out.2.1
  go_wp2_with fail
  rw [rounds_succ]
  go_wp2_with fail
  refine (step_at _ _ _ _ 0 x3 y0 u02 _ rfl rfl rfl rfl (by omega) Bx3.out By0.out Bu02.out).mono ?_
  rintro e w_ ⟨l03, u03, rfl, rfl, H03⟩
  have Bl03 : Hid _ := H03.out.1
  have Bu03 : Hid _ := H03.out.2.1
  go_wp2_with fail
  rw [rounds_succ]
  go_wp2_with fail
  rw [rounds_succ]
  go_wp2_with fail
  refine wp_loop_rounds 5 ?_
  rw [rounds_succ]
  go_wp2_with fail
  refine (step_at _ _ _ _ l01 x0 y1 0 _ rfl rfl rfl rfl Bl01.out Bx0.out By1.out (by omega)).mono ?_
  rintro e w_ ⟨l10, u10, rfl, rfl, H10⟩
  have Bl10 : Hid _ := H10.out.1
  have Bu10 : Hid _ := H10.out.2.1
  go_wp2_with fail
  rw [rounds_succ]
  go_wp2_with fail
  refine (step_at _ _ _ _ l02 x1 y1 u10 _ rfl rfl rfl rfl Bl02.out Bx1.out By1.out Bu10.out).mono ?_
  rintro e w_ ⟨l11, u11, rfl, rfl, H11⟩
  have Bl11 : Hid _ := H11.out.1
  have Bu11 : Hid _ := H11.out.2.1
  go_wp2_with fail
  rw [rounds_succ]
  go_wp2_with fail
  refine (step_at _ _ _ _ l03 x2 y1 u11 _ rfl rfl rfl rfl Bl03.out Bx2.out By1.out Bu11.out).mono ?_
  rintro e w_ ⟨l12, u12, rfl, rfl, H12⟩
  have Bl12 : Hid _ := H12.out.1
  have Bu12 : Hid _ := H12.out.2.1
  go_wp2_with fail
  rw [rounds_succ]
  go_wp2_with fail
  refine (step_at _ _ _ _ u03 x3 y1 u12 _ rfl rfl rfl rfl Bu03.out Bx3.out By1.out Bu12.out).mono ?_
  rintro e w_ ⟨l13, u13, rfl, rfl, H13⟩
  have Bl13 : Hid _ := H13.out.1
  have Bu13 : Hid _ := H13.out.2.1
  go_wp2_with fail
  rw [rounds_succ]
  go_wp2_with fail
  rw [rounds_succ]
  go_wp2_with fail
  refine wp_loop_rounds 5 ?_
  rw [rounds_succ]
  go_wp2_with fail
  refine (step_at _ _ _ _ l11 x0 y2 0 _ rfl rfl rfl rfl Bl11.out Bx0.out By2.out (by omega)).mono ?_
  rintro e w_ ⟨l20, u20, rfl, rfl, H20⟩
  have Bl20 : Hid _ := H20.out.1
  have Bu20 : Hid _ := H20.out.2.1
  go_wp2_with fail
  rw [rounds_succ]
  go_wp2_with fail
  refine (step_at _ _ _ _ l12 x1 y2 u20 _ rfl rfl rfl rfl Bl12.out Bx1.out By2.out Bu20.out).mono ?_
  rintro e w_ ⟨l21, u21, rfl, rfl, H21⟩
  have Bl21 : Hid _ := H21.out.1
  have Bu21 : Hid _ := H21.out.2.1
  go_wp2_with fail
  rw [rounds_succ]
  go_wp2_with fail
  refine (step_at _ _ _ _ l13 x2 y2 u21 _ rfl rfl rfl rfl Bl13.out Bx2.out By2.out Bu21.out).mono ?_
  rintro e w_ ⟨l22, u22, rfl, rfl, H22⟩
  have Bl22 : Hid _ := H22.out.1
  have Bu22 : Hid _ := H22.out.2.1
  go_wp2_with fail
  rw [rounds_succ]
  go_wp2_with fail
  refine (step_at _ _ _ _ u13 x3 y2 u22 _ rfl rfl rfl rfl Bu13.out Bx3.out By2.out Bu22.out).mono ?_
  rintro e w_ ⟨l23, u23, rfl, rfl, H23⟩
  have Bl23 : Hid _ := H23.out.1
  have Bu23 : Hid _ := H23.out.2.1
  go_wp2_with fail
  rw [rounds_succ]
  go_wp2_with fail
  rw [rounds_succ]
  go_wp2_with fail
  refine wp_loop_rounds 5 ?_
  rw [rounds_succ]
  go_wp2_with fail
  refine (step_at _ _ _ _ l21 x0 y3 0 _ rfl rfl rfl rfl Bl21.out Bx0.out By3.out (by omega)).mono ?_
  rintro e w_ ⟨l30, u30, rfl, rfl, H30⟩
  have Bl30 : Hid _ := H30.out.1
  have Bu30 : Hid _ := H30.out.2.1
  go_wp2_with fail
  rw [rounds_succ]
  go_wp2_with fail
  refine (step_at _ _ _ _ l22 x1 y3 u30 _ rfl rfl rfl rfl Bl22.out Bx1.out By3.out Bu30.out).mono ?_
  rintro e w_ ⟨l31, u31, rfl, rfl, H31⟩
  have Bl31 : Hid _ := H31.out.1
  have Bu31 : Hid _ := H31.out.2.1
  go_wp2_with fail
  rw [rounds_succ]
  go_wp2_with fail
  refine (step_at _ _ _ _ l23 x2 y3 u31 _ rfl rfl rfl rfl Bl23.out Bx2.out By3.out Bu31.out).mono ?_
  rintro e w_ ⟨l32, u32, rfl, rfl, H32⟩
  have Bl32 : Hid _ := H32.out.1
  have Bu32 : Hid _ := H32.out.2.1
  go_wp2_with fail
  rw [rounds_succ]
  go_wp2_with fail
  refine (step_at _ _ _ _ u23 x3 y3 u32 _ rfl rfl rfl rfl Bu23.out Bx3.out By3.out Bu32.out).mono ?_
  rintro e w_ ⟨l33, u33, rfl, rfl, H33⟩
  have Bl33 : Hid _ := H33.out.1
  have Bu33 : Hid _ := H33.out.2.1
  go_wp2_with fail
  rw [rounds_succ]
  go_wp2_with fail
  rw [rounds_succ]
  go_wp2_with fail
  refine bodyPost_ret (v := .agg #[.int .u64 (l00 : Int), .int .u64 (l10 : Int), .int .u64 (l20 : Int), .int .u64 (l30 : Int), .int .u64 (l31 : Int), .int .u64 (l32 : Int), .int .u64 (l33 : Int), .int .u64 (u33 : Int)]) (by simp [results, Tryd.results53, go_sem]) rfl ⟨l00, l10, l20, l30, l31, l32, l33, u33, rfl, ?_, ?_⟩
  · repeat (first | with_reducible exact Below.refl _ _ | with_reducible assumption | with_reducible refine Below.drew ?_ | (with_reducible refine Below.alloc ?_ ?hB _; (case hB => first | omega | (simp <;> omega))) | (with_reducible refine Below.setCell ?_ ?hB _; (case hB => first | omega | (simp <;> omega))))
  · refine ⟨⟨H00.out.1, H10.out.1, H20.out.1, H30.out.1, H31.out.1, H32.out.1, H33.out.1, H33.out.2.1⟩, ?_⟩
    rw [mul_v4]
    have e00 := H00.out.2.2
    have e01 := H01.out.2.2
    have e02 := H02.out.2.2
    have e03 := H03.out.2.2
    have e10 := H10.out.2.2
    have e11 := H11.out.2.2
    have e12 := H12.out.2.2
    have e13 := H13.out.2.2
    have e20 := H20.out.2.2
    have e21 := H21.out.2.2
    have e22 := H22.out.2.2
    have e23 := H23.out.2.2
    have e30 := H30.out.2.2
    have e31 := H31.out.2.2
    have e32 := H32.out.2.2
    have e33 := H33.out.2.2
    unfold v8
    generalize x0 * y0 = p00 at *
    generalize x1 * y0 = p01 at *
    generalize x2 * y0 = p02 at *
    generalize x3 * y0 = p03 at *
    generalize x0 * y1 = p10 at *
    generalize x1 * y1 = p11 at *
    generalize x2 * y1 = p12 at *
    generalize x3 * y1 = p13 at *
    generalize x0 * y2 = p20 at *
    generalize x1 * y2 = p21 at *
    generalize x2 * y2 = p22 at *
    generalize x3 * y2 = p23 at *
    generalize x0 * y3 = p30 at *
    generalize x1 * y3 = p31 at *
    generalize x2 * y3 = p32 at *
    generalize x3 * y3 = p33 at *
    omega
end Go.Proofs.YtanfjkmkfcekmaaDoor
