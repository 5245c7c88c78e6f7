/-
  General pieces, joined: W4 W5 W3.
-/
import Derived.Test.YtkibojjbghopkaaDoorG02
import Derived.Deep.RegionWith
import Derived.Deep.DeepCutAuto
import Derived.Deep.CutBlock
/-
  What package limb does with four words: products.
-/
namespace Go.Proofs.YtkibojjbghopkaaDoor
open Go.RowKit
set_option linter.unusedSimpArgs false
set_option linter.unusedVariables false

theorem step_at (X Y U M : Value) (x y u m : Nat) (w : World) (hX : X = .int .u64 (x : Int)) (hY : Y = .int .u64 (y : Int)) (hU : U = .int .u64 (u : Int)) (hM : M = .int .u64 (m : Int)) (hx : x < 18446744073709551616) (hy : y < 18446744073709551616) (hu : u < 18446744073709551616) (hm : m < 18446744073709551616) :
    Calls Tryd.prog 66 #[X, Y, U, M] w fun e w' => ∃ lo hi : Nat, e = .returned (.tuple #[.int .u64 (lo : Int), .int .u64 (hi : Int)]) ∧ w' = w ∧
      Hid (lo < 18446744073709551616 ∧ hi < 18446744073709551616 ∧ lo + 18446744073709551616 * hi = x + y * u + m) := by
  subst hX hY hU hM; exact step_any x y u m w hx hy hu hm

def v8 (z0 z1 z2 z3 z4 z5 z6 z7 : Nat) : Nat := z0 + 18446744073709551616 * z1 + 340282366920938463463374607431768211456 * z2 + 6277101735386680763835789423207666416102355444464034512896 * z3 + 115792089237316195423570985008687907853269984665640564039457584007913129639936 * z4 + 2135987035920910082395021706169552114602704522356652769947041607822219725780640550022962086936576 * z5 + 39402006196394479212279040100143613805079739270465446667948293404245721771497210611414266254884915640806627990306816 * z6 + 726838724295606890549323807888004534353641360687318060281490199180639288113397923326191050713763565560762521606266177933534601628614656 * z7
def lt8 (z0 z1 z2 z3 z4 z5 z6 z7 : Nat) : Prop := z0 < 18446744073709551616 ∧ z1 < 18446744073709551616 ∧ z2 < 18446744073709551616 ∧ z3 < 18446744073709551616 ∧ z4 < 18446744073709551616 ∧ z5 < 18446744073709551616 ∧ z6 < 18446744073709551616 ∧ z7 < 18446744073709551616

theorem mul_v4 (x0 x1 x2 x3 y0 y1 y2 y3 : Nat) : v4 x0 x1 x2 x3 * v4 y0 y1 y2 y3 = 1 * (x0 * y0) + 18446744073709551616 * (x1 * y0) + 340282366920938463463374607431768211456 * (x2 * y0) + 6277101735386680763835789423207666416102355444464034512896 * (x3 * y0) + 18446744073709551616 * (x0 * y1) + 340282366920938463463374607431768211456 * (x1 * y1) + 6277101735386680763835789423207666416102355444464034512896 * (x2 * y1) + 115792089237316195423570985008687907853269984665640564039457584007913129639936 * (x3 * y1) + 340282366920938463463374607431768211456 * (x0 * y2) + 6277101735386680763835789423207666416102355444464034512896 * (x1 * y2) + 115792089237316195423570985008687907853269984665640564039457584007913129639936 * (x2 * y2) + 2135987035920910082395021706169552114602704522356652769947041607822219725780640550022962086936576 * (x3 * y2) + 6277101735386680763835789423207666416102355444464034512896 * (x0 * y3) + 115792089237316195423570985008687907853269984665640564039457584007913129639936 * (x1 * y3) + 2135987035920910082395021706169552114602704522356652769947041607822219725780640550022962086936576 * (x2 * y3) + 39402006196394479212279040100143613805079739270465446667948293404245721771497210611414266254884915640806627990306816 * (x3 * y3) := by
  unfold v4
  grind

set_option maxHeartbeats 4000000 in
theorem wide_any (x0 x1 x2 x3 y0 y1 y2 y3 : Nat) (w : World) (hx : lt4 x0 x1 x2 x3) (hy : lt4 y0 y1 y2 y3) :
    Calls Tryd.prog 65 #[L4 x0 x1 x2 x3, L4 y0 y1 y2 y3] w
      fun e w' => ∃ z0 z1 z2 z3 z4 z5 z6 z7 : Nat, e = .returned (.agg #[.int .u64 (z0 : Int), .int .u64 (z1 : Int), .int .u64 (z2 : Int), .int .u64 (z3 : Int), .int .u64 (z4 : Int), .int .u64 (z5 : Int), .int .u64 (z6 : Int), .int .u64 (z7 : Int)]) ∧ Below w.heap.size w w' ∧
        Hid (lt8 z0 z1 z2 z3 z4 z5 z6 z7 ∧ v8 z0 z1 z2 z3 z4 z5 z6 z7 = v4 x0 x1 x2 x3 * v4 y0 y1 y2 y3) := by
  have Bx0 : Hid _ := hx.1
  have Bx1 : Hid _ := hx.2.1
  have Bx2 : Hid _ := hx.2.2.1
  have Bx3 : Hid _ := hx.2.2.2
  have By0 : Hid _ := hy.1
  have By1 : Hid _ := hy.2.1
  have By2 : Hid _ := hy.2.2.1
  have By3 : Hid _ := hy.2.2.2
  clear hx hy
  unfold L4
  have ixx0 : ∀ w, (Instr.index 75 (.agg #[.int .u64 (x0 : Int), .int .u64 (x1 : Int), .int .u64 (x2 : Int), .int .u64 (x3 : Int)]) (.int .i64 0)).run Tryd.prog w = .ok (.int .u64 (x0 : Int)) w := fun _ => by kernel_rfl
  have ixx1 : ∀ w, (Instr.index 75 (.agg #[.int .u64 (x0 : Int), .int .u64 (x1 : Int), .int .u64 (x2 : Int), .int .u64 (x3 : Int)]) (.int .i64 1)).run Tryd.prog w = .ok (.int .u64 (x1 : Int)) w := fun _ => by kernel_rfl
  have ixx2 : ∀ w, (Instr.index 75 (.agg #[.int .u64 (x0 : Int), .int .u64 (x1 : Int), .int .u64 (x2 : Int), .int .u64 (x3 : Int)]) (.int .i64 2)).run Tryd.prog w = .ok (.int .u64 (x2 : Int)) w := fun _ => by kernel_rfl
  have ixx3 : ∀ w, (Instr.index 75 (.agg #[.int .u64 (x0 : Int), .int .u64 (x1 : Int), .int .u64 (x2 : Int), .int .u64 (x3 : Int)]) (.int .i64 3)).run Tryd.prog w = .ok (.int .u64 (x3 : Int)) w := fun _ => by kernel_rfl
  have ixy0 : ∀ w, (Instr.index 75 (.agg #[.int .u64 (y0 : Int), .int .u64 (y1 : Int), .int .u64 (y2 : Int), .int .u64 (y3 : Int)]) (.int .i64 0)).run Tryd.prog w = .ok (.int .u64 (y0 : Int)) w := fun _ => by kernel_rfl
  have ixy1 : ∀ w, (Instr.index 75 (.agg #[.int .u64 (y0 : Int), .int .u64 (y1 : Int), .int .u64 (y2 : Int), .int .u64 (y3 : Int)]) (.int .i64 1)).run Tryd.prog w = .ok (.int .u64 (y1 : Int)) w := fun _ => by kernel_rfl
  have ixy2 : ∀ w, (Instr.index 75 (.agg #[.int .u64 (y0 : Int), .int .u64 (y1 : Int), .int .u64 (y2 : Int), .int .u64 (y3 : Int)]) (.int .i64 2)).run Tryd.prog w = .ok (.int .u64 (y2 : Int)) w := fun _ => by kernel_rfl
  have ixy3 : ∀ w, (Instr.index 75 (.agg #[.int .u64 (y0 : Int), .int .u64 (y1 : Int), .int .u64 (y2 : Int), .int .u64 (y3 : Int)]) (.int .i64 3)).run Tryd.prog w = .ok (.int .u64 (y3 : Int)) w := fun _ => by kernel_rfl
  go_enter Tryd.func65, Tryd.ntmps65
  go_wp2_with fail
  refine wp_loop_rounds 5 ?_
  rw [rounds_succ]
  go_wp2_with fail
  refine wp_loop_rounds 5 ?_
  rw [rounds_succ]
  go_wp2_with fail
  refine (step_at _ _ _ _ 0 x0 y0 0 _ rfl rfl rfl rfl (by omega) Bx0.out By0.out (by omega)).mono ?_
  rintro e w_ ⟨l00, u00, rfl, rfl, H00⟩
  have Bl00 : Hid _ := H00.out.1
  have Bu00 : Hid _ := H00.out.2.1
  go_wp2_with fail
  rw [rounds_succ]
  go_wp2_with fail
  refine (step_at _ _ _ _ 0 x1 y0 u00 _ rfl rfl rfl rfl (by omega) Bx1.out By0.out Bu00.out).mono ?_
  rintro e w_ ⟨l01, u01, rfl, rfl, H01⟩
  have Bl01 : Hid _ := H01.out.1
  have Bu01 : Hid _ := H01.out.2.1
  go_wp2_with fail
  rw [rounds_succ]
  go_wp2_with fail
  refine (step_at _ _ _ _ 0 x2 y0 u01 _ rfl rfl rfl rfl (by omega) Bx2.out By0.out Bu01.out).mono ?_
  rintro e w_ ⟨l02, u02, rfl, rfl, H02⟩
  have Bl02 : Hid _ := H02.out.1
  have Bu02 : Hid _ := H02.out.2.1
  go_wp2_with fail
  rw [rounds_succ]
  go_wp2_with fail
  refine (step_at _ _ _ _ 0 x3 y0 u02 _ rfl rfl rfl rfl (by omega) Bx3.out By0.out Bu02.out).mono ?_
  rintro e w_ ⟨l03, u03, rfl, rfl, H03⟩
  have Bl03 : Hid _ := H03.out.1
  have Bu03 : Hid _ := H03.out.2.1
  go_wp2_with fail
  rw [rounds_succ]
  go_wp2_with fail
  rw [rounds_succ]
  go_wp2_with fail
  refine wp_loop_rounds 5 ?_
  rw [rounds_succ]
  go_wp2_with fail
  refine (step_at _ _ _ _ l01 x0 y1 0 _ rfl rfl rfl rfl Bl01.out Bx0.out By1.out (by omega)).mono ?_
  rintro e w_ ⟨l10, u10, rfl, rfl, H10⟩
  have Bl10 : Hid _ := H10.out.1
  have Bu10 : Hid _ := H10.out.2.1
  go_wp2_with fail
  rw [rounds_succ]
  go_wp2_with fail
  refine (step_at _ _ _ _ l02 x1 y1 u10 _ rfl rfl rfl rfl Bl02.out Bx1.out By1.out Bu10.out).mono ?_
  rintro e w_ ⟨l11, u11, rfl, rfl, H11⟩
  have Bl11 : Hid _ := H11.out.1
  have Bu11 : Hid _ := H11.out.2.1
  go_wp2_with fail
  rw [rounds_succ]
  go_wp2_with fail
  refine (step_at _ _ _ _ l03 x2 y1 u11 _ rfl rfl rfl rfl Bl03.out Bx2.out By1.out Bu11.out).mono ?_
  rintro e w_ ⟨l12, u12, rfl, rfl, H12⟩
  have Bl12 : Hid _ := H12.out.1
  have Bu12 : Hid _ := H12.out.2.1
  go_wp2_with fail
  rw [rounds_succ]
  go_wp2_with fail
  refine (step_at _ _ _ _ u03 x3 y1 u12 _ rfl rfl rfl rfl Bu03.out Bx3.out By1.out Bu12.out).mono ?_
  rintro e w_ ⟨l13, u13, rfl, rfl, H13⟩
  have Bl13 : Hid _ := H13.out.1
  have Bu13 : Hid _ := H13.out.2.1
  go_wp2_with fail
  rw [rounds_succ]
  go_wp2_with fail
  rw [rounds_succ]
  go_wp2_with fail
  refine wp_loop_rounds 5 ?_
  rw [rounds_succ]
  go_wp2_with fail
  refine (step_at _ _ _ _ l11 x0 y2 0 _ rfl rfl rfl rfl Bl11.out Bx0.out By2.out (by omega)).mono ?_
  rintro e w_ ⟨l20, u20, rfl, rfl, H20⟩
  have Bl20 : Hid _ := H20.out.1
  have Bu20 : Hid _ := H20.out.2.1
  go_wp2_with fail
  rw [rounds_succ]
  go_wp2_with fail
  refine (step_at _ _ _ _ l12 x1 y2 u20 _ rfl rfl rfl rfl Bl12.out Bx1.out By2.out Bu20.out).mono ?_
  rintro e w_ ⟨l21, u21, rfl, rfl, H21⟩
  have Bl21 : Hid _ := H21.out.1
  have Bu21 : Hid _ := H21.out.2.1
  go_wp2_with fail
  rw [rounds_succ]
  go_wp2_with fail
  refine (step_at _ _ _ _ l13 x2 y2 u21 _ rfl rfl rfl rfl Bl13.out Bx2.out By2.out Bu21.out).mono ?_
  rintro e w_ ⟨l22, u22, rfl, rfl, H22⟩
  have Bl22 : Hid _ := H22.out.1
  have Bu22 : Hid _ := H22.out.2.1
  go_wp2_with fail
  rw [rounds_succ]
  go_wp2_with fail
  refine (step_at _ _ _ _ u13 x3 y2 u22 _ rfl rfl rfl rfl Bu13.out Bx3.out By2.out Bu22.out).mono ?_
  rintro e w_ ⟨l23, u23, rfl, rfl, H23⟩
  have Bl23 : Hid _ := H23.out.1
  have Bu23 : Hid _ := H23.out.2.1
  go_wp2_with fail
  rw [rounds_succ]
  go_wp2_with fail
  rw [rounds_succ]
  go_wp2_with fail
  refine wp_loop_rounds 5 ?_
  rw [rounds_succ]
  go_wp2_with fail
  refine (step_at _ _ _ _ l21 x0 y3 0 _ rfl rfl rfl rfl Bl21.out Bx0.out By3.out (by omega)).mono ?_
  rintro e w_ ⟨l30, u30, rfl, rfl, H30⟩
  have Bl30 : Hid _ := H30.out.1
  have Bu30 : Hid _ := H30.out.2.1
  go_wp2_with fail
  rw [rounds_succ]
  go_wp2_with fail
  refine (step_at _ _ _ _ l22 x1 y3 u30 _ rfl rfl rfl rfl Bl22.out Bx1.out By3.out Bu30.out).mono ?_
  rintro e w_ ⟨l31, u31, rfl, rfl, H31⟩
  have Bl31 : Hid _ := H31.out.1
  have Bu31 : Hid _ := H31.out.2.1
  go_wp2_with fail
  rw [rounds_succ]
  go_wp2_with fail
  refine (step_at _ _ _ _ l23 x2 y3 u31 _ rfl rfl rfl rfl Bl23.out Bx2.out By3.out Bu31.out).mono ?_
  rintro e w_ ⟨l32, u32, rfl, rfl, H32⟩
  have Bl32 : Hid _ := H32.out.1
  have Bu32 : Hid _ := H32.out.2.1
  go_wp2_with fail
  rw [rounds_succ]
  go_wp2_with fail
  refine (step_at _ _ _ _ u23 x3 y3 u32 _ rfl rfl rfl rfl Bu23.out Bx3.out By3.out Bu32.out).mono ?_
  rintro e w_ ⟨l33, u33, rfl, rfl, H33⟩
  have Bl33 : Hid _ := H33.out.1
  have Bu33 : Hid _ := H33.out.2.1
  go_wp2_with fail
  rw [rounds_succ]
  go_wp2_with fail
  rw [rounds_succ]
  go_wp2_with fail
  refine bodyPost_ret (v := .agg #[.int .u64 (l00 : Int), .int .u64 (l10 : Int), .int .u64 (l20 : Int), .int .u64 (l30 : Int), .int .u64 (l31 : Int), .int .u64 (l32 : Int), .int .u64 (l33 : Int), .int .u64 (u33 : Int)]) (by simp [results, Tryd.results65, go_sem]) rfl ⟨l00, l10, l20, l30, l31, l32, l33, u33, rfl, ?_, ?_⟩
  · repeat (first | with_reducible exact Below.refl _ _ | with_reducible assumption | with_reducible refine Below.drew ?_ | (with_reducible refine Below.alloc ?_ ?hB _; (case hB => first | omega | (simp <;> omega))) | (with_reducible refine Below.setCell ?_ ?hB _; (case hB => first | omega | (simp <;> omega))))
  · refine ⟨⟨H00.out.1, H10.out.1, H20.out.1, H30.out.1, H31.out.1, H32.out.1, H33.out.1, H33.out.2.1⟩, ?_⟩
    rw [mul_v4]
    have e00 := H00.out.2.2
    have e01 := H01.out.2.2
    have e02 := H02.out.2.2
    have e03 := H03.out.2.2
    have e10 := H10.out.2.2
    have e11 := H11.out.2.2
    have e12 := H12.out.2.2
    have e13 := H13.out.2.2
    have e20 := H20.out.2.2
    have e21 := H21.out.2.2
    have e22 := H22.out.2.2
    have e23 := H23.out.2.2
    have e30 := H30.out.2.2
    have e31 := H31.out.2.2
    have e32 := H32.out.2.2
    have e33 := H33.out.2.2
    unfold v8
    generalize x0 * y0 = p00 at *
    generalize x1 * y0 = p01 at *
    generalize x2 * y0 = p02 at *
    generalize x3 * y0 = p03 at *
    generalize x0 * y1 = p10 at *
    generalize x1 * y1 = p11 at *
    generalize x2 * y1 = p12 at *
    generalize x3 * y1 = p13 at *
    generalize x0 * y2 = p20 at *
    generalize x1 * y2 = p21 at *
    generalize x2 * y2 = p22 at *
    generalize x3 * y2 = p23 at *
    generalize x0 * y3 = p30 at *
    generalize x1 * y3 = p31 at *
    generalize x2 * y3 = p32 at *
    generalize x3 * y3 = p33 at *
    omega
end Go.Proofs.YtkibojjbghopkaaDoor
/-
  What package limb does with four words: products modulo p.
-/
namespace Go.Proofs.YtkibojjbghopkaaDoor
open Go.RowKit
set_option linter.unusedSimpArgs false
set_option linter.unusedVariables false

theorem wide_at (X Y : Value) (x0 x1 x2 x3 y0 y1 y2 y3 : Nat) (w : World) (hX : X = L4 x0 x1 x2 x3) (hY : Y = L4 y0 y1 y2 y3) (hx : lt4 x0 x1 x2 x3) (hy : lt4 y0 y1 y2 y3) :
    Calls Tryd.prog 65 #[X, Y] w
      fun e w' => ∃ z0 z1 z2 z3 z4 z5 z6 z7 : Nat, e = .returned (.agg #[.int .u64 (z0 : Int), .int .u64 (z1 : Int), .int .u64 (z2 : Int), .int .u64 (z3 : Int), .int .u64 (z4 : Int), .int .u64 (z5 : Int), .int .u64 (z6 : Int), .int .u64 (z7 : Int)]) ∧ Below w.heap.size w w' ∧
        Hid (lt8 z0 z1 z2 z3 z4 z5 z6 z7 ∧ v8 z0 z1 z2 z3 z4 z5 z6 z7 = v4 x0 x1 x2 x3 * v4 y0 y1 y2 y3) := by
  subst hX hY; exact wide_any x0 x1 x2 x3 y0 y1 y2 y3 w hx hy

theorem product_arith (z0 z1 z2 z3 z4 z5 z6 z7 l0 l1 l2 l3 u0 u1 u2 u3 : Nat) (hz : lt8 z0 z1 z2 z3 z4 z5 z6 z7)
    (h0 : l0 < 18446744073709551616 ∧ u0 < 18446744073709551616 ∧ l0 + 18446744073709551616 * u0 = z0 + z4 * 38 + 0) (h1 : l1 < 18446744073709551616 ∧ u1 < 18446744073709551616 ∧ l1 + 18446744073709551616 * u1 = z1 + z5 * 38 + u0)
    (h2 : l2 < 18446744073709551616 ∧ u2 < 18446744073709551616 ∧ l2 + 18446744073709551616 * u2 = z2 + z6 * 38 + u1) (h3 : l3 < 18446744073709551616 ∧ u3 < 18446744073709551616 ∧ l3 + 18446744073709551616 * u3 = z3 + z7 * 38 + u2) :
    u3 ≤ 38 ∧ (v4 l0 l1 l2 l3 + 115792089237316195423570985008687907853269984665640564039457584007913129639936 * u3) % 57896044618658097711785492504343953926634992332820282019728792003956564819949 = v8 z0 z1 z2 z3 z4 z5 z6 z7 % 57896044618658097711785492504343953926634992332820282019728792003956564819949 := by
  constructor
  · unfold lt8 at hz; omega
  · have e : v8 z0 z1 z2 z3 z4 z5 z6 z7 = v4 l0 l1 l2 l3 + 115792089237316195423570985008687907853269984665640564039457584007913129639936 * u3 + 57896044618658097711785492504343953926634992332820282019728792003956564819949 * (2 * v4 z4 z5 z6 z7) := by unfold v8 v4; omega
    rw [e, Nat.add_mul_mod_self_left]

set_option maxHeartbeats 4000000 in
theorem product_any (x0 x1 x2 x3 y0 y1 y2 y3 : Nat) (w : World) (hx : lt4 x0 x1 x2 x3) (hy : lt4 y0 y1 y2 y3) :
    Calls Tryd.prog 42 #[L4 x0 x1 x2 x3, L4 y0 y1 y2 y3] w
      fun e w' => ∃ z0 z1 z2 z3 : Nat, e = .returned (.agg #[.int .u64 (z0 : Int), .int .u64 (z1 : Int), .int .u64 (z2 : Int), .int .u64 (z3 : Int)]) ∧
        Below w.heap.size w w' ∧ Hid (lt4 z0 z1 z2 z3 ∧ v4 z0 z1 z2 z3 = (v4 x0 x1 x2 x3 * v4 y0 y1 y2 y3) % 57896044618658097711785492504343953926634992332820282019728792003956564819949) := by
  have HX : Hid _ := hx
  have HY : Hid _ := hy
  clear hx hy
  unfold L4
  go_enter Tryd.func42, Tryd.ntmps42
  go_wp2_with fail
  refine (wide_at _ _ x0 x1 x2 x3 y0 y1 y2 y3 _ rfl rfl HX.out HY.out).mono ?_
  rintro e w1 ⟨z0, z1, z2, z3, z4, z5, z6, z7, rfl, hb1, HZ⟩
  have QB : Hid (Below w.heap.size w w1) := Below.trans (by (repeat (first | with_reducible exact Below.refl _ _ | with_reducible assumption | with_reducible refine Below.drew ?_ | (with_reducible refine Below.alloc ?_ ?hB _; (case hB => first | omega | (simp <;> omega))) | (with_reducible refine Below.setCell ?_ ?hB _; (case hB => first | omega | (simp <;> omega)))))) (hb1.mono (by first | omega | (simp <;> omega)))
  have cr := after4 hb1 (w.heap.size + 1 + 1) (by first | omega | (simp <;> omega))
  have fr := after_f hb1 (w.heap.size + 1 + 1) (by first | omega | (simp <;> omega))
  have zz := hb1.size
  simp [go_sem] at cr fr zz
  have n1 : w.heap.size + 1 + 1 ≠ w1.heap.size := by omega
  have n2 : w1.heap.size ≠ w.heap.size + 1 + 1 := by omega
  have n3 : w.heap.size + 1 + 1 < w1.heap.size := by omega
  have n4 : w.heap.size ≤ w1.heap.size := by omega
  clear hb1 zz
  go_wp2_with fail
  refine wp_loop_rounds 5 ?_
  rw [rounds_succ]
  go_upto_block 1 with fail
  go_cut [6] (fun s6 wc => ∃ l0 u0 : Nat, s6 = .int .u64 (u0 : Int) ∧ wc = (w1.alloc (.cells #[.int .u64 (l0 : Int), .int .u64 (z1 : Int), .int .u64 (z2 : Int), .int .u64 (z3 : Int), .int .u64 (z4 : Int), .int .u64 (z5 : Int), .int .u64 (z6 : Int), .int .u64 (z7 : Int)] 101)).drew ∧ Hid (l0 < 18446744073709551616 ∧ u0 < 18446744073709551616 ∧ l0 + 18446744073709551616 * u0 = z0 + z4 * 38 + 0))
  case first =>
    go_upto_region 6 with fail
    go_region_with (go_at_call 66; go_must (refine (step_at _ _ _ _ z0 z4 38 0 _ rfl rfl rfl rfl HZ.out.1.1 HZ.out.1.2.2.2.2.1 (by omega) (by omega)).mono ?_; rintro e w_ ⟨l0, u0, rfl, rfl, H0⟩))
    all_goals (go_wp2_with fail; go_meet; exact ⟨l0, u0, rfl, rfl, H0⟩)
  case rest =>
  obtain ⟨l0, u0, rfl, rfl, H0⟩ := hcut
  go_wp2_with fail
  rw [rounds_succ]
  go_upto_block 1 with fail
  go_cut [6] (fun s6 wc => ∃ l1 u1 : Nat, s6 = .int .u64 (u1 : Int) ∧ wc = (w1.alloc (.cells #[.int .u64 (l0 : Int), .int .u64 (l1 : Int), .int .u64 (z2 : Int), .int .u64 (z3 : Int), .int .u64 (z4 : Int), .int .u64 (z5 : Int), .int .u64 (z6 : Int), .int .u64 (z7 : Int)] 101)).drew.drew ∧ Hid (l1 < 18446744073709551616 ∧ u1 < 18446744073709551616 ∧ l1 + 18446744073709551616 * u1 = z1 + z5 * 38 + u0))
  case first =>
    go_upto_region 6 with fail
    go_region_with (go_at_call 66; go_must (refine (step_at _ _ _ _ z1 z5 38 u0 _ rfl rfl rfl rfl HZ.out.1.2.1 HZ.out.1.2.2.2.2.2.1 (by omega) H0.out.2.1).mono ?_; rintro e w_ ⟨l1, u1, rfl, rfl, H1⟩))
    all_goals (go_wp2_with fail; go_meet; exact ⟨l1, u1, rfl, rfl, H1⟩)
  case rest =>
  obtain ⟨l1, u1, rfl, rfl, H1⟩ := hcut
  go_wp2_with fail
  rw [rounds_succ]
  go_upto_block 1 with fail
  go_cut [6] (fun s6 wc => ∃ l2 u2 : Nat, s6 = .int .u64 (u2 : Int) ∧ wc = (w1.alloc (.cells #[.int .u64 (l0 : Int), .int .u64 (l1 : Int), .int .u64 (l2 : Int), .int .u64 (z3 : Int), .int .u64 (z4 : Int), .int .u64 (z5 : Int), .int .u64 (z6 : Int), .int .u64 (z7 : Int)] 101)).drew.drew.drew ∧ Hid (l2 < 18446744073709551616 ∧ u2 < 18446744073709551616 ∧ l2 + 18446744073709551616 * u2 = z2 + z6 * 38 + u1))
  case first =>
    go_upto_region 6 with fail
    go_region_with (go_at_call 66; go_must (refine (step_at _ _ _ _ z2 z6 38 u1 _ rfl rfl rfl rfl HZ.out.1.2.2.1 HZ.out.1.2.2.2.2.2.2.1 (by omega) H1.out.2.1).mono ?_; rintro e w_ ⟨l2, u2, rfl, rfl, H2⟩))
    all_goals (go_wp2_with fail; go_meet; exact ⟨l2, u2, rfl, rfl, H2⟩)
  case rest =>
  obtain ⟨l2, u2, rfl, rfl, H2⟩ := hcut
  go_wp2_with fail
  rw [rounds_succ]
  go_upto_block 1 with fail
  go_cut [6] (fun s6 wc => ∃ l3 u3 : Nat, s6 = .int .u64 (u3 : Int) ∧ wc = (w1.alloc (.cells #[.int .u64 (l0 : Int), .int .u64 (l1 : Int), .int .u64 (l2 : Int), .int .u64 (l3 : Int), .int .u64 (z4 : Int), .int .u64 (z5 : Int), .int .u64 (z6 : Int), .int .u64 (z7 : Int)] 101)).drew.drew.drew.drew ∧ Hid (l3 < 18446744073709551616 ∧ u3 < 18446744073709551616 ∧ l3 + 18446744073709551616 * u3 = z3 + z7 * 38 + u2))
  case first =>
    go_upto_region 6 with fail
    go_region_with (go_at_call 66; go_must (refine (step_at _ _ _ _ z3 z7 38 u2 _ rfl rfl rfl rfl HZ.out.1.2.2.2.1 HZ.out.1.2.2.2.2.2.2.2 (by omega) H2.out.2.1).mono ?_; rintro e w_ ⟨l3, u3, rfl, rfl, H3⟩))
    all_goals (go_wp2_with fail; go_meet; exact ⟨l3, u3, rfl, rfl, H3⟩)
  case rest =>
  obtain ⟨l3, u3, rfl, rfl, H3⟩ := hcut
  go_wp2_with fail
  rw [rounds_succ]
  go_wp2_with fail
  refine (fold_at _ _ l0 l1 l2 l3 u3 _ rfl rfl ⟨H0.out.1, H1.out.1, H2.out.1, H3.out.1⟩ (product_arith _ _ _ _ _ _ _ _ _ _ _ _ _ _ _ _ HZ.out.1 H0.out H1.out H2.out H3.out).1).mono ?_
  rintro e w2 ⟨r0, r1, r2, r3, rfl, hb2, HF⟩
  have QB2 : Hid (Below w.heap.size w w2) := (have q := QB.out; Below.trans (by (repeat (first | with_reducible exact Below.refl _ _ | with_reducible assumption | with_reducible refine Below.drew ?_ | (with_reducible refine Below.alloc ?_ ?hB _; (case hB => first | omega | (simp <;> omega))) | (with_reducible refine Below.setCell ?_ ?hB _; (case hB => first | omega | (simp <;> omega)))))) (hb2.mono (by first | omega | (simp <;> omega))))
  have cr2 := after4 hb2 (w.heap.size + 1 + 1) (by first | omega | (simp <;> omega))
  have fr2 := after_f hb2 (w.heap.size + 1 + 1) (by first | omega | (simp <;> omega))
  simp [go_sem, cr, fr, n1, n2, n3] at cr2 fr2
  clear hb2
  go_wp2
  refine bodyPost_ret (v := .agg #[.int .u64 (r0 : Int), .int .u64 (r1 : Int), .int .u64 (r2 : Int), .int .u64 (r3 : Int)]) (by simp [results, Tryd.results42, go_sem, cr2, fr2]) rfl ⟨r0, r1, r2, r3, rfl, ?_, HF.out.1, ?_⟩
  · have q := QB2.out
    repeat (first | with_reducible exact Below.refl _ _ | with_reducible assumption | with_reducible refine Below.drew ?_ | (with_reducible refine Below.alloc ?_ ?hB _; (case hB => first | omega | (simp <;> omega))) | (with_reducible refine Below.setCell ?_ ?hB _; (case hB => first | omega | (simp <;> omega))))
  · rw [HF.out.2, (product_arith _ _ _ _ _ _ _ _ _ _ _ _ _ _ _ _ HZ.out.1 H0.out H1.out H2.out H3.out).2, HZ.out.2]

theorem product_at (X Y : Value) (x0 x1 x2 x3 y0 y1 y2 y3 : Nat) (w : World) (hX : X = L4 x0 x1 x2 x3) (hY : Y = L4 y0 y1 y2 y3) (hx : lt4 x0 x1 x2 x3) (hy : lt4 y0 y1 y2 y3) :
    Calls Tryd.prog 42 #[X, Y] w
      fun e w' => ∃ z0 z1 z2 z3 : Nat, e = .returned (.agg #[.int .u64 (z0 : Int), .int .u64 (z1 : Int), .int .u64 (z2 : Int), .int .u64 (z3 : Int)]) ∧
        Below w.heap.size w w' ∧ Hid (lt4 z0 z1 z2 z3 ∧ v4 z0 z1 z2 z3 = (v4 x0 x1 x2 x3 * v4 y0 y1 y2 y3) % 57896044618658097711785492504343953926634992332820282019728792003956564819949) := by
  subst hX hY; exact product_any x0 x1 x2 x3 y0 y1 y2 y3 w hx hy
end Go.Proofs.YtkibojjbghopkaaDoor
/-
  What package limb does with four words: sums, and what is taken off p.
-/
namespace Go.Proofs.YtkibojjbghopkaaDoor
open Go.RowKit
set_option linter.unusedSimpArgs false
set_option linter.unusedVariables false

set_option maxHeartbeats 1000000 in
theorem sum_any (x0 x1 x2 x3 y0 y1 y2 y3 : Nat) (w : World) (hx : lt4 x0 x1 x2 x3) (hy : lt4 y0 y1 y2 y3) :
    Calls Tryd.prog 63 #[L4 x0 x1 x2 x3, L4 y0 y1 y2 y3] w
      fun e w' => ∃ z0 z1 z2 z3 : Nat, e = .returned (.agg #[.int .u64 (z0 : Int), .int .u64 (z1 : Int), .int .u64 (z2 : Int), .int .u64 (z3 : Int)]) ∧
        Below w.heap.size w w' ∧ Hid (lt4 z0 z1 z2 z3 ∧ v4 z0 z1 z2 z3 = (v4 x0 x1 x2 x3 + v4 y0 y1 y2 y3) % 57896044618658097711785492504343953926634992332820282019728792003956564819949) := by
  have HX := (show Hid _ from hx)
  have HY := (show Hid _ from hy)
  unfold L4
  clear hx hy
  go_enter Tryd.func63, Tryd.ntmps63
  go_wp2_with fail
  refine (add_at _ _ x0 x1 x2 x3 y0 y1 y2 y3 _ rfl rfl HX.out HY.out).mono ?_
  rintro e w1 ⟨s0, s1, s2, s3, c, rfl, hb1, H1⟩
  have HC : Hid (c ≤ 38) := by
    have h1 := H1.out; have hy := HY.out; have hx := HX.out
    show c ≤ 38
    unfold lt4 v4 at *; omega
  have B1 : Hid (Below w.heap.size w w1) := Below.trans (by (repeat (first | with_reducible exact Below.refl _ _ | with_reducible assumption | with_reducible refine Below.drew ?_ | (with_reducible refine Below.alloc ?_ ?hB _; (case hB => first | omega | (simp <;> omega))) | (with_reducible refine Below.setCell ?_ ?hB _; (case hB => first | omega | (simp <;> omega)))))) (hb1.mono (by first | omega | (simp <;> omega)))
  have c1c := after4 hb1 (w.heap.size + 1 + 1) (by first | omega | (simp <;> omega))
  have f1c := after_f hb1 (w.heap.size + 1 + 1) (by first | omega | (simp <;> omega))
  try simp [go_sem] at c1c f1c
  obtain ⟨c1c0, c1c1, c1c2, c1c3⟩ := c1c
  have zz1 := hb1.size
  try simp at zz1
  have l1c : w.heap.size + 1 + 1 < w1.heap.size := by omega
  have n1c : w.heap.size + 1 + 1 ≠ w1.heap.size := by omega
  clear hb1 zz1
  go_wp2_with fail
  refine (fold_at _ _ s0 s1 s2 s3 c _ rfl rfl H1.out.1 HC.out).mono ?_
  rintro e w2 ⟨z0, z1, z2, z3, rfl, hb2, H2⟩
  have q1 := B1.out
  have B2 : Hid (Below w.heap.size w w2) := Below.trans (by (repeat (first | with_reducible exact Below.refl _ _ | with_reducible assumption | with_reducible refine Below.drew ?_ | (with_reducible refine Below.alloc ?_ ?hB _; (case hB => first | omega | (simp <;> omega))) | (with_reducible refine Below.setCell ?_ ?hB _; (case hB => first | omega | (simp <;> omega)))))) (hb2.mono (by first | omega | (simp <;> omega)))
  clear q1
  have c2c := after4 hb2 (w.heap.size + 1 + 1) (by first | omega | (simp <;> omega))
  have f2c := after_f hb2 (w.heap.size + 1 + 1) (by first | omega | (simp <;> omega))
  try simp [go_sem, c1c0, c1c1, c1c2, c1c3, f1c, l1c, n1c] at c2c f2c
  obtain ⟨c2c0, c2c1, c2c2, c2c3⟩ := c2c
  have zz2 := hb2.size
  try simp at zz2
  have l2c : w.heap.size + 1 + 1 < w2.heap.size := by omega
  have n2c : w.heap.size + 1 + 1 ≠ w2.heap.size := by omega
  clear hb2 zz2
  clear c1c0 c1c1 c1c2 c1c3 f1c l1c n1c
  go_wp2
  refine bodyPost_ret (v := .agg #[.int .u64 (z0 : Int), .int .u64 (z1 : Int), .int .u64 (z2 : Int), .int .u64 (z3 : Int)]) (by simp [results, Tryd.results63, go_sem, c2c0, c2c1, c2c2, c2c3, f2c, l2c, n2c]) rfl ⟨z0, z1, z2, z3, rfl, ?_, H2.out.1, ?_⟩
  · have q2 := B2.out
    repeat (first | with_reducible exact Below.refl _ _ | with_reducible assumption | with_reducible refine Below.drew ?_ | (with_reducible refine Below.alloc ?_ ?hB _; (case hB => first | omega | (simp <;> omega))) | (with_reducible refine Below.setCell ?_ ?hB _; (case hB => first | omega | (simp <;> omega))))
  · rw [H2.out.2, H1.out.2]

/-- The program's variable that holds p. -/
def PrimeAt (w : World) : Prop := w.cell? ⟨0, 0, none⟩ = some (.int .u64 18446744073709551597) ∧ w.cell? ⟨0, 1, none⟩ = some (.int .u64 18446744073709551615) ∧ w.cell? ⟨0, 2, none⟩ = some (.int .u64 18446744073709551615) ∧ w.cell? ⟨0, 3, none⟩ = some (.int .u64 9223372036854775807)
theorem PrimeAt.lt {w : World} (h : PrimeAt w) : 0 < w.heap.size := block_lt_of_cell h.1
theorem PrimeAt.below {w w' : World} (h : PrimeAt w) (hb : Below w.heap.size w w') : PrimeAt w' :=
  ⟨(hb.cell (p := ⟨0, 0, none⟩) h.lt).trans h.1, (hb.cell (p := ⟨0, 1, none⟩) h.lt).trans h.2.1, (hb.cell (p := ⟨0, 2, none⟩) h.lt).trans h.2.2.1, (hb.cell (p := ⟨0, 3, none⟩) h.lt).trans h.2.2.2⟩

theorem call_sub64_lit (X : Int) (x y b : Nat) (hX : X = x) (hb : b ≤ 1) (hx : x < 18446744073709551616) (hy : y < 18446744073709551616) : ∃ lo hi : Nat, (∀ w, (callFunc 82 #[.int .u64 X, .int .u64 (y : Int), .int .u64 (b : Int)]).run Tryd.prog w = .ok (.value (.tuple #[.int .u64 (lo : Int), .int .u64 (hi : Int)])) w) ∧
    Hid (lo < 18446744073709551616 ∧ hi ≤ 1 ∧ x + 18446744073709551616 * hi = lo + y + b) := by
  subst hX; exact call_sub64 x y b hb hx hy
theorem call_sub64_lit0 (X : Int) (x y : Nat) (hX : X = x) (hx : x < 18446744073709551616) (hy : y < 18446744073709551616) : ∃ lo hi : Nat, (∀ w, (callFunc 82 #[.int .u64 X, .int .u64 (y : Int), .int .u64 0]).run Tryd.prog w = .ok (.value (.tuple #[.int .u64 (lo : Int), .int .u64 (hi : Int)])) w) ∧
    Hid (lo < 18446744073709551616 ∧ hi ≤ 1 ∧ x + 18446744073709551616 * hi = lo + y) := by
  subst hX; exact call_sub64_0 x y hx hy

theorem negative_arith (r0 r1 r2 r3 z0 z1 z2 z3 c0 c1 c2 c3 : Nat) (hr : lt4 r0 r1 r2 r3) (hp : v4 r0 r1 r2 r3 < 57896044618658097711785492504343953926634992332820282019728792003956564819949)
    (h0 : z0 < 18446744073709551616 ∧ c0 ≤ 1 ∧ 18446744073709551597 + 18446744073709551616 * c0 = z0 + r0) (h1 : z1 < 18446744073709551616 ∧ c1 ≤ 1 ∧ 18446744073709551615 + 18446744073709551616 * c1 = z1 + r1 + c0)
    (h2 : z2 < 18446744073709551616 ∧ c2 ≤ 1 ∧ 18446744073709551615 + 18446744073709551616 * c2 = z2 + r2 + c1) (h3 : z3 < 18446744073709551616 ∧ c3 ≤ 1 ∧ 9223372036854775807 + 18446744073709551616 * c3 = z3 + r3 + c2) :
    v4 z0 z1 z2 z3 + v4 r0 r1 r2 r3 = 57896044618658097711785492504343953926634992332820282019728792003956564819949 := by
  have e : v4 z0 z1 z2 z3 + v4 r0 r1 r2 r3 = 57896044618658097711785492504343953926634992332820282019728792003956564819949 + 115792089237316195423570985008687907853269984665640564039457584007913129639936 * c3 := by unfold v4; omega
  have l : v4 z0 z1 z2 z3 < 115792089237316195423570985008687907853269984665640564039457584007913129639936 := by unfold v4; omega
  omega

set_option maxHeartbeats 8000000 in
theorem negative_any (x0 x1 x2 x3 : Nat) (w : World) (hx : lt4 x0 x1 x2 x3) (hp : PrimeAt w) :
    Calls Tryd.prog 64 #[L4 x0 x1 x2 x3] w
      fun e w' => ∃ z0 z1 z2 z3 : Nat, e = .returned (.agg #[.int .u64 (z0 : Int), .int .u64 (z1 : Int), .int .u64 (z2 : Int), .int .u64 (z3 : Int)]) ∧
        Below w.heap.size w w' ∧ Hid (lt4 z0 z1 z2 z3 ∧ v4 z0 z1 z2 z3 + v4 x0 x1 x2 x3 % 57896044618658097711785492504343953926634992332820282019728792003956564819949 = 57896044618658097711785492504343953926634992332820282019728792003956564819949) := by
  have HX := (show Hid _ from hx)
  have hlt := hp.lt
  have hne : w.heap.size ≠ 0 := by omega
  have hne' : 0 ≠ w.heap.size := by omega
  obtain ⟨p0, p1, p2, p3⟩ := hp
  unfold L4
  clear hx
  go_enter Tryd.func64, Tryd.ntmps64
  go_wp2
  go_cut [3] (fun s3 wc => ∃ g r0 r1 r2 r3 : Nat, s3 = .pointer (some ⟨g, 0, none⟩) ∧ w.heap.size + 1 < g ∧ g < wc.heap.size ∧ w.heap.size + 1 < wc.heap.size ∧
    (wc.cell? ⟨w.heap.size, 0, none⟩ = some (.int .u64 (r0 : Int)) ∧ wc.cell? ⟨w.heap.size, 1, none⟩ = some (.int .u64 (r1 : Int)) ∧ wc.cell? ⟨w.heap.size, 2, none⟩ = some (.int .u64 (r2 : Int)) ∧ wc.cell? ⟨w.heap.size, 3, none⟩ = some (.int .u64 (r3 : Int))) ∧
    (wc.cell? ⟨w.heap.size + 1, 0, none⟩ = some (.int .u64 0) ∧ wc.cell? ⟨w.heap.size + 1, 1, none⟩ = some (.int .u64 0) ∧ wc.cell? ⟨w.heap.size + 1, 2, none⟩ = some (.int .u64 0) ∧ wc.cell? ⟨w.heap.size + 1, 3, none⟩ = some (.int .u64 0)) ∧
    (wc.cell? ⟨g, 0, none⟩ = some (.int .u64 18446744073709551597) ∧ wc.cell? ⟨g, 1, none⟩ = some (.int .u64 18446744073709551615) ∧ wc.cell? ⟨g, 2, none⟩ = some (.int .u64 18446744073709551615) ∧ wc.cell? ⟨g, 3, none⟩ = some (.int .u64 9223372036854775807)) ∧
    (∀ j, wc.frozen? ⟨w.heap.size, j, none⟩ = false) ∧ (∀ j, wc.frozen? ⟨w.heap.size + 1, j, none⟩ = false) ∧ (∀ j, wc.frozen? ⟨g, j, none⟩ = false) ∧ Below w.heap.size w wc ∧
    Hid (lt4 r0 r1 r2 r3 ∧ v4 r0 r1 r2 r3 = v4 x0 x1 x2 x3 % 57896044618658097711785492504343953926634992332820282019728792003956564819949))
  case first =>
    go_region_with (go_at_call 45; go_must (refine (reduce_at _ x0 x1 x2 x3 _ rfl HX.out).mono ?_; rintro e w1 ⟨r0, r1, r2, r3, rfl, hb1, H1⟩; have Q : Hid (Below w.heap.size w w1) := (Below.trans (by (repeat (first | with_reducible exact Below.refl _ _ | with_reducible assumption | with_reducible refine Below.drew ?_ | (with_reducible refine Below.alloc ?_ ?hB _; (case hB => first | omega | (simp <;> omega))) | (with_reducible refine Below.setCell ?_ ?hB _; (case hB => first | omega | (simp <;> omega)))))) (hb1.mono (by first | omega | (simp <;> omega)))); have ZZ : Hid _ := hb1.size; have ca := after4 hb1 w.heap.size (by first | omega | (simp <;> omega)); have cb := after4 hb1 (w.heap.size + 1) (by first | omega | (simp <;> omega)); have cp := after4 hb1 0 (by first | omega | (simp <;> omega)); have fa := after_f hb1 w.heap.size (by first | omega | (simp <;> omega)); have fb := after_f hb1 (w.heap.size + 1) (by first | omega | (simp <;> omega)); have zz := hb1.size; simp [go_sem, p0, p1, p2, p3, hlt, hne, hne'] at ca cb cp fa fb zz; have lp : 0 < w1.heap.size := (by omega); have np : 0 ≠ w1.heap.size := (by omega); have np2 : w1.heap.size ≠ 0 := (by omega); have la : w.heap.size < w1.heap.size := (by omega); have na : w.heap.size ≠ w1.heap.size := (by omega); have lb : w.heap.size + 1 < w1.heap.size := (by omega); have nb : w.heap.size + 1 ≠ w1.heap.size := (by omega); have na' : w1.heap.size ≠ w.heap.size := (by omega); have nb' : w1.heap.size ≠ w.heap.size + 1 := (by omega); have cc := (fun hq => after4 hb1 (w.heap.size + 1 + 1) hq); have fc := (fun hq => after_f hb1 (w.heap.size + 1 + 1) hq); try simp [go_sem, p0, p1, p2, p3, hlt, hne, hne'] at cc; try simp [go_sem, p0, p1, p2, p3, hlt, hne, hne'] at fc; clear hb1 zz))
    all_goals (go_wp2_with fail; go_meet; refine ⟨_, r0, r1, r2, r3, rfl, ?_, ?_, ?_, ?_, ?_, ?_, ?_, ?_, ?_, ?_, H1⟩)
    all_goals try (first | omega | (simp; omega))
    all_goals try (first | (simp [go_sem, ca, cb, cp, fa, fb, la, lb, na, nb, na', nb', lp, np, np2, hlt, hne, hne', p0, p1, p2, p3, cc, fc]; done) | (simp [go_sem, ca, cb, cp, fa, fb, la, lb, na, nb, na', nb', lp, np, np2, hlt, hne, hne', p0, p1, p2, p3]; done))
    all_goals try (intro j; first | (simp [go_sem, ca, cb, cp, fa, fb, la, lb, na, nb, na', nb', lp, np, np2, hlt, hne, hne', p0, p1, p2, p3, cc, fc]; done) | (simp [go_sem, ca, cb, cp, fa, fb, la, lb, na, nb, na', nb', lp, np, np2, hlt, hne, hne', p0, p1, p2, p3]; done))
    all_goals have q1 := Q.out
    all_goals have z := ZZ.out
    all_goals simp at z
    all_goals first | (with_reducible refine Below.alloc ?_ ?hB _; (case hB => simp; omega); (repeat (first | with_reducible exact Below.refl _ _ | with_reducible assumption | with_reducible refine Below.drew ?_ | (with_reducible refine Below.alloc ?_ ?hB _; (case hB => first | omega | (simp <;> omega))) | (with_reducible refine Below.setCell ?_ ?hB _; (case hB => first | omega | (simp <;> omega)))))) | (with_reducible refine Below.setCell ?_ ?hB _; (case hB => simp; omega); (repeat (first | with_reducible exact Below.refl _ _ | with_reducible assumption | with_reducible refine Below.drew ?_ | (with_reducible refine Below.alloc ?_ ?hB _; (case hB => first | omega | (simp <;> omega))) | (with_reducible refine Below.setCell ?_ ?hB _; (case hB => first | omega | (simp <;> omega)))))) | (simp; omega)
  case rest =>
    obtain ⟨g, r0, r1, r2, r3, rfl, g1, g2, g3, ca, cb, cg, fa, fb, fg, hB, HR⟩ := hcut
    have QB : Hid _ := hB
    clear hB p0 p1 p2 p3 hlt hne hne'
    have n1 : w.heap.size ≠ g := by omega
    have n2 : w.heap.size + 1 ≠ g := by omega
    have n3 : g ≠ w.heap.size := by omega
    have n4 : g ≠ w.heap.size + 1 := by omega
    have GE : Hid (w.heap.size ≤ g) := Nat.le_of_lt (by omega)
    clear g1 g2 g3
    obtain ⟨z0, c0, h0, H0⟩ := call_sub64_lit0 18446744073709551597 18446744073709551597 r0 rfl (by omega) HR.out.1.1
    obtain ⟨z1, c1, h1, H1⟩ := call_sub64_lit 18446744073709551615 18446744073709551615 r1 c0 rfl H0.out.2.1 (by omega) HR.out.1.2.1
    obtain ⟨z2, c2, h2, H2⟩ := call_sub64_lit 18446744073709551615 18446744073709551615 r2 c1 rfl H1.out.2.1 (by omega) HR.out.1.2.2.1
    obtain ⟨z3, c3, h3, H3⟩ := call_sub64_lit 9223372036854775807 9223372036854775807 r3 c2 rfl H2.out.2.1 (by omega) HR.out.1.2.2.2
    go_wp2
    refine wp_loop_rounds 5 ?_
    rw [rounds_succ]
    go_wp2
    go_region
    go_wp2
    rw [rounds_succ]
    go_wp2
    go_region
    go_wp2
    rw [rounds_succ]
    go_wp2
    go_region
    go_wp2
    rw [rounds_succ]
    go_wp2
    go_region
    go_wp2
    rw [rounds_succ]
    go_wp2
    refine bodyPost_ret (v := .agg #[.int .u64 (z0 : Int), .int .u64 (z1 : Int), .int .u64 (z2 : Int), .int .u64 (z3 : Int)]) (by simp [results, Tryd.results64, go_sem, ca, cb, cg, fa, fb, fg, n1, n2, n3, n4]) rfl ⟨z0, z1, z2, z3, rfl, ?_, ?_, ?_⟩
    · have q := QB.out
      have ge := GE.out
      repeat (first | with_reducible exact Below.refl _ _ | with_reducible assumption | with_reducible refine Below.drew ?_ | (with_reducible refine Below.alloc ?_ ?hB _; (case hB => first | omega | (simp <;> omega))) | (with_reducible refine Below.setCell ?_ ?hB _; (case hB => first | omega | (simp <;> omega))))
    · exact ⟨H0.out.1, H1.out.1, H2.out.1, H3.out.1⟩
    · rw [← HR.out.2]
      exact negative_arith _ _ _ _ _ _ _ _ _ _ _ _ HR.out.1 (by rw [HR.out.2]; exact Nat.mod_lt _ (by omega)) H0.out H1.out H2.out H3.out
end Go.Proofs.YtkibojjbghopkaaDoor
