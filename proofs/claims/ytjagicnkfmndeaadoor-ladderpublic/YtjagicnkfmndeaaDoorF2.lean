/-
  What the reference's X answers: the same numbers as the ladder's.
-/
import Derived.Test.YtjagicnkfmndeaaDoorF1
namespace Go.Proofs.YtjagicnkfmndeaaDoor
open Go Go.RowKit
set_option linter.unusedVariables false
set_option linter.unusedSimpArgs false

theorem buildS2 (n0 n2 n3 : Nat) (w : World) : (Instr.build 54 #[(0, .agg (numA n0)), (2, .agg (numA n2)), (3, .agg (numA n3))]).run Tryd.prog w = .ok (.agg (rowA [n0, 0, n2, n3])) w := by kernel_rfl
theorem l_bs2 {ops : Array Oper} {Q : Exit → Act → World → Prop} {a : Act} {o : Oper} {rest : List Oper} {w : World} (hg : o.guard = none) (x0 x2 x3 : Operand) (ho : o.op = .build 54 #[(0, x0), (2, x2), (3, x3)]) (n0 n2 n3 : Nat) (h0 : a.eval x0 = .agg (numA n0)) (h2 : a.eval x2 = .agg (numA n2)) (h3 : a.eval x3 = .agg (numA n3)) (h : wpList Tryd.prog ops Q rest (a.put o.dst (.agg (rowA [n0, 0, n2, n3]))) w) : wpList Tryd.prog ops Q (o :: rest) a w :=
  l_val hg _ (by unfold execOp; simp [ho, h0, h2, h3, buildS2]) h

set_option maxHeartbeats 2000000 in
theorem rX_any (k u : Nat) (w : World) (lk : k < 115792089237316195423570985008687907853269984665640564039457584007913129639936) (lu : u < 115792089237316195423570985008687907853269984665640564039457584007913129639936) (hp : PrimeAt w) :
    Calls Tryd.prog 27 #[.agg (numA k), .agg (numA u)] w fun e w' => e = .returned (.agg (numA (XN k u))) ∧ Below w.heap.size w w' := by
  obtain ⟨r, hr⟩ : ∃ r, r = XN k u := ⟨_, rfl⟩
  rw [← hr]
  have KX : Kept _ := ⟨hr⟩
  have Lk : Kept _ := ⟨lk⟩
  have Lu : Kept _ := ⟨lu⟩
  have HP : Kept _ := ⟨hp⟩
  obtain ⟨n, hn⟩ : ∃ n, n = clampN k := ⟨_, rfl⟩
  have En : Kept (n = clampN k) := ⟨hn⟩
  obtain ⟨q, hq⟩ : ∃ q, q = lowN u := ⟨_, rfl⟩
  have LQ : Kept (q < 115792089237316195423570985008687907853269984665640564039457584007913129639936) := ⟨by rw [hq]; exact lowN_lt u⟩
  obtain ⟨x, hx⟩ : ∃ x, x = q % 57896044618658097711785492504343953926634992332820282019728792003956564819949 := ⟨_, rfl⟩
  have Ex : Kept (x = lowN u % 57896044618658097711785492504343953926634992332820282019728792003956564819949) := ⟨by rw [hx, hq]⟩
  have Eq : Kept (x = q % 57896044618658097711785492504343953926634992332820282019728792003956564819949) := ⟨hx⟩
  have Lx : Kept (x < 115792089237316195423570985008687907853269984665640564039457584007913129639936) := ⟨by rw [hx]; exact Nat.lt_trans (Nat.mod_lt _ (by decide)) (by decide)⟩
  obtain ⟨y, hy⟩ : ∃ y, y = u / 452312848583266388373324160190187140051835877600158453279131187530910662656 % 256 := ⟨_, rfl⟩
  have hyl : y < 256 := by omega
  have g31 : (numA u)[31]? = some (.int .u8 (y : Int)) := by rw [numA_get u 31 (by decide), hy, show (256 : Nat) ^ 31 = 452312848583266388373324160190187140051835877600158453279131187530910662656 from by decide]
  have KF0 : Kept ((numA u).setIfInBounds 31 (.int .u8 ((y % 128 : Nat) : Int)) = numA q) := ⟨by
    rw [numA_top u _ lu (by omega), hq]
    unfold lowN
    congr 2; omega⟩
  clear lk lu hp hr hn hq hx hy
  go_enter Tryd.func27, Tryd.ntmps27
  obtain ⟨AK, AU, RR0, QB0⟩ := three_nums w k u _ rfl
  go_wp2_with (first | (refine wpList_get rfl (.tmp 2) rfl _ k rfl AK ?_))
  have hc := rClamp_any k (((w.alloc (.cells (numA k) 22)).alloc (.cells (numA u) 22)).alloc (.cells #[.int .u8 0, .int .u8 0, .int .u8 0, .int .u8 0, .int .u8 0, .int .u8 0, .int .u8 0, .int .u8 0, .int .u8 0, .int .u8 0, .int .u8 0, .int .u8 0, .int .u8 0, .int .u8 0, .int .u8 0, .int .u8 0, .int .u8 0, .int .u8 0, .int .u8 0, .int .u8 0, .int .u8 0, .int .u8 0, .int .u8 0, .int .u8 0, .int .u8 0, .int .u8 0, .int .u8 0, .int .u8 0, .int .u8 0, .int .u8 0, .int .u8 0, .int .u8 0] 22)) Lk.out
  rw [← En.out] at hc
  refine hc.mono ?_
  clear hc
  rintro e w1 ⟨rfl, hb⟩
  have AU1 := AU.under hb
  have RR1 := RR0.under hb
  have QB1 := QB0.trans (hb.mono QB0.size)
  clear AK AU RR0 QB0 hb
  go_wp2_with (first | (refine wpList_put rfl (.tmp 5) (.tmp 10) rfl _ n rfl rfl (room_top _ _ rfl) ?_))
  intro w2 AN2 P2
  have AU2 := P2.at (AU1.alloc _) (Nat.ne_of_lt AU1.lt)
  have RR2 := P2.room (RR1.alloc _) (Nat.ne_of_lt RR1.lt)
  have QB2 : Below w.heap.size w w2 := (QB1.alloc QB1.size _).trans (P2.below QB1.size)
  clear P2 AU1 RR1 QB1
  generalize w1.heap.size = gn at *
  go_wp2_with (first | (refine wpList_get rfl (.tmp 3) rfl _ u rfl AU2 ?_) | (refine wpList_put rfl (.tmp 6) (.tmp 11) rfl _ u rfl rfl (room_top _ _ rfl) ?_))
  intro w3 AX3 P3
  have AN3 := P3.at (AN2.alloc _) (Nat.ne_of_lt AN2.lt)
  have RR3 := P3.room (RR2.alloc _) (Nat.ne_of_lt RR2.lt)
  have QB3 : Below w.heap.size w w3 := (QB2.alloc QB2.size _).trans (P3.below QB2.size)
  have hgx : w.heap.size ≤ w2.heap.size := QB2.size
  have hnx : gn ≠ w2.heap.size := Nat.ne_of_lt AN2.lt
  have hrx : w.heap.size + 1 + 1 ≠ w2.heap.size := Nat.ne_of_lt RR2.lt
  clear P3 AN2 RR2 QB2 AU2
  generalize w2.heap.size = gx at *
  go_wp2_with (first | (refine wpList_byte rfl (.tmp 12) rfl _ 31 rfl (numA u) _ AX3 g31 ?_) | (refine wpList_setbyte rfl (.tmp 15) (.tmp 14) rfl _ 31 _ rfl rfl (numA u) AX3 (by rw [numA_size]; decide) ?_))
  intro w4 AX4' P4
  rw [show ((y : Int) % 128) = ((y % 128 : Nat) : Int) from by omega, KF0.out] at AX4'
  have AX4 : At w4 gx q := AX4'
  have AN4 := P4.at AN3 hnx
  have RR4 := P4.room RR3 hrx
  have QB4 : Below w.heap.size w w4 := QB3.trans (P4.below hgx)
  clear P4 AN3 RR3 QB3 AX3 AX4' g31 KF0
  go_wp2_with (first | (refine wpList_get rfl (.tmp 6) rfl _ q rfl AX4 ?_))
  have hc := rReduce_any q w4 LQ.out
  rw [← Eq.out] at hc
  refine hc.mono ?_
  clear hc
  rintro e w5 ⟨rfl, hb⟩
  have AX5 := AX4.under hb
  have AN5 := AN4.under hb
  have RR5 := RR4.under hb
  have QB5 := QB4.trans (hb.mono QB4.size)
  clear AX4 AN4 RR4 QB4 hb
  go_wp2_with (first | (refine wpList_put rfl (.tmp 6) (.tmp 17) rfl _ x rfl rfl AX5.room ?_))
  intro w6 AX6 P6
  have AN6 := P6.at AN5 hnx
  have RR6 := P6.room RR5 hrx
  have QB6 : Below w.heap.size w w6 := QB5.trans (P6.below hgx)
  clear P6 AN5 RR5 QB5 AX5
  go_wp2_with (first | (refine l_build rfl 1 1 rfl rfl b1 ?_; simp only [Act.put, List.setIfInBounds_toArray, List.set_cons_succ, List.set_cons_zero]) | (refine wpList_get rfl (.tmp 6) rfl _ x rfl AX6 ?_) | (refine l_bs2 rfl (.tmp 18) (.tmp 19) (.tmp 20) rfl 1 x 1 rfl rfl rfl ?_; simp only [Act.put, List.setIfInBounds_toArray, List.set_cons_succ, List.set_cons_zero]) | (refine wpList_qput iQ2 rfl (.tmp 7) (.tmp 21) rfl _ 1 0 x 1 rfl rfl (roomQ_top _ _ _ (by kernel_rfl) _ rfl) ?_))
  intro w7 AR0 P7
  have AX0 := P7.at (AX6.alloc _) (Nat.ne_of_lt AX6.lt)
  have AN0 := P7.at (AN6.alloc _) (Nat.ne_of_lt AN6.lt)
  have RR7 := P7.room (RR6.alloc _) (Nat.ne_of_lt RR6.lt)
  have QB7 : Below w.heap.size w w7 := (QB6.alloc QB6.size _).trans (P7.below QB6.size)
  have hxr : gx ≠ w6.heap.size := Nat.ne_of_lt AX6.lt
  have hnr : gn ≠ w6.heap.size := Nat.ne_of_lt AN6.lt
  have hrr : w.heap.size + 1 + 1 ≠ w6.heap.size := Nat.ne_of_lt RR6.lt
  have hgr : w.heap.size ≤ w6.heap.size := QB6.size
  clear P7 AX6 AN6 RR6 QB6 hgx hnx hrx
  generalize w6.heap.size = gr at *
  obtain ⟨R, hR⟩ : ∃ R, R = runL n x 255 [1, 0, x, 1] := ⟨_, rfl⟩
  have KR0 : Kept (runL n x 255 [1, 0, x, 1] = R) := ⟨hR.symm⟩
  have KXR : Kept (R = runL n x 255 [1, 0, x, 1]) := ⟨hR⟩
  clear hR
  go_wp2
  go_loopg [8] 255 (fun j s8 wr => j ≤ 255 ∧ s8 = .int .i64 ((j : Int) - 1) ∧ ∃ a b c d : Nat, AtQ 54 wr gr [a, b, c, d] ∧ At wr gn n ∧ At wr gx x ∧ Room wr (w.heap.size + 1 + 1) ∧ Below w.heap.size w wr ∧ Kept (a < 115792089237316195423570985008687907853269984665640564039457584007913129639936 ∧ b < 115792089237316195423570985008687907853269984665640564039457584007913129639936 ∧ c < 115792089237316195423570985008687907853269984665640564039457584007913129639936 ∧ d < 115792089237316195423570985008687907853269984665640564039457584007913129639936) ∧ Kept (runL n x j [a, b, c, d] = R))
  case atStart => exact ⟨Nat.le_refl _, rfl, 1, 0, x, 1, AR0, AN0, AX0, RR7, QB7, ⟨by decide, by decide, Lx.out, by decide⟩, KR0⟩
  case round =>
    obtain ⟨hj, rfl, a, b, c, d, AR, AN, AX, RR, QB, KL, KR⟩ := hrel
    clear AR0 AN0 AX0 RR7 QB7
    have La : Kept (a < 115792089237316195423570985008687907853269984665640564039457584007913129639936) := ⟨KL.out.1⟩
    have Lb : Kept (b < 115792089237316195423570985008687907853269984665640564039457584007913129639936) := ⟨KL.out.2.1⟩
    have Lc : Kept (c < 115792089237316195423570985008687907853269984665640564039457584007913129639936) := ⟨KL.out.2.2.1⟩
    have Ld : Kept (d < 115792089237316195423570985008687907853269984665640564039457584007913129639936) := ⟨KL.out.2.2.2⟩
    clear KL
    cases gk with
    | zero =>
      go_wp2_with fail
      generalize wr = wi at *
      have HPW : Kept _ := ⟨PrimeAt.below HP.out QB⟩
      replace KR : Kept ([a, b, c, d] = runL n x 255 [1, 0, x, 1]) := ⟨by rw [← KXR.out]; exact KR.out⟩
      obtain ⟨iv, eiv⟩ : ∃ iv, iv = invOf b := ⟨_, rfl⟩
      have Eiv : Kept _ := ⟨eiv⟩
      have Liv : Kept (iv < 115792089237316195423570985008687907853269984665640564039457584007913129639936) := ⟨by rw [eiv]; exact invOf_lt _⟩
      clear eiv
      have KF : Kept (r = a * iv % 57896044618658097711785492504343953926634992332820282019728792003956564819949) := ⟨by rw [KX.out, XN_eq, ← En.out, ← Ex.out, ← KR.out, Eiv.out]; rfl⟩
      have CI : Kept (∀ w', Below wi.heap.size wi w' → Calls Tryd.prog 25 [.agg (numA b)].toArray w' fun e w2 => e = .returned (.agg (numA iv)) ∧ Below wi.heap.size wi w2) := ⟨fun w' hb => by rw [Eiv.out]; exact (rInv_any b w' Lb.out).mono fun e w2 hh => ⟨hh.1, hb.trans (hh.2.mono hb.size)⟩⟩
      have CM : Kept (∀ w', Below wi.heap.size wi w' → Calls Tryd.prog 22 [.agg (numA a), .agg (numA iv)].toArray w' fun e w2 => e = .returned (.agg (numA r)) ∧ Below wi.heap.size wi w2) := ⟨fun w' hb => by rw [KF.out]; exact (rMul_any a iv w' La.out Liv.out).mono fun e w2 hh => ⟨hh.1, hb.trans (hh.2.mono hb.size)⟩⟩
      refine wp_region_quiet_cut (C := fun w' => Below wi.heap.size wi w') 6 rfl (by kernel_rfl) (by kernel_rfl) (by kernel_rfl) (by kernel_rfl) (by kernel_rfl) (Below.drew (Below.refl _ _)) ?_
      dsimp only [List.take_succ_cons, List.take_zero]
      refine q_val (by kernel_rfl) (.pointer (some ⟨gr, 0, none⟩)) (fun w' => by kernel_rfl) ?_
      simp only [Act.put, List.setIfInBounds_toArray, List.set_cons_succ, List.set_cons_zero]
      refine q_part (by kernel_rfl) (.tmp 37) gr 0 a 54 (rowA [a, b, c, d]) rfl (by kernel_rfl) (fun w' hb => AtQ.under AR hb) (rowA_part _ (i := 0) rfl) ?_
      simp only [Act.put, List.setIfInBounds_toArray, List.set_cons_succ, List.set_cons_zero]
      refine q_val (by kernel_rfl) (.pointer (some ⟨gr, 32, none⟩)) (fun w' => by kernel_rfl) ?_
      simp only [Act.put, List.setIfInBounds_toArray, List.set_cons_succ, List.set_cons_zero]
      refine q_part (by kernel_rfl) (.tmp 39) gr 32 b 54 (rowA [a, b, c, d]) rfl (by kernel_rfl) (fun w' hb => AtQ.under AR hb) (rowA_part _ (i := 1) rfl) ?_
      simp only [Act.put, List.setIfInBounds_toArray, List.set_cons_succ, List.set_cons_zero]
      refine q_call (by kernel_rfl) 25 Tryd.f25 _ _ _ [.agg (numA b)] (.agg (numA iv)) rfl (by kernel_rfl) Tryd.func25 (by kernel_rfl) rfl CI.out ?_
      simp only [Act.put, List.setIfInBounds_toArray, List.set_cons_succ, List.set_cons_zero]
      refine q_call (by kernel_rfl) 22 Tryd.f22 _ _ _ [.agg (numA a), .agg (numA iv)] (.agg (numA r)) rfl (by kernel_rfl) Tryd.func22 (by kernel_rfl) rfl CM.out ?_
      simp only [Act.put, List.setIfInBounds_toArray, List.set_cons_succ, List.set_cons_zero]
      refine wpQuiet_nil ?_
      intro wz hz
      have RRz := RR.under hz
      have QBz := QB.trans (hz.mono QB.size)
      refine wpList_put rfl (.tmp 4) (.tmp 42) rfl (w.heap.size + 1 + 1) r (by kernel_rfl) (by kernel_rfl) RRz ?_
      intro wy AY PY
      have QBy : Below w.heap.size w wy := QBz.trans (PY.below (by omega))
      clear hz RRz QBz PY AX AN RR QB AR CI CM HPW
      go_wp2_with fail
      exact bodyPost_ret (v := .agg (numA r)) (ret_num (Q := fun _ _ => True) Tryd.results27 _ [] _ _ r rfl AY) rfl ⟨rfl, QBy⟩
    | succ i =>
      have e1 : (((i + 1 : Nat) : Int) - 1) = (i : Int) := by omega
      rw [e1]
      have hi : i < 256 := by omega
      clear e1
      go_wp2_with (first | (refine wpList_get rfl (.tmp 5) rfl _ n rfl AN ?_))
      by_cases hbit : n / 2 ^ i % 2 = 1
      · have hc := rbit_any n i wr hi
        rw [decide_eq_true hbit] at hc
        refine hc.mono ?_
        clear hc
        rintro e wi ⟨rfl, hb⟩
        replace AR := AR.under hb
        replace AN := AN.under hb
        replace AX := AX.under hb
        replace RR := RR.under hb
        replace QB := QB.trans (hb.mono QB.size)
        have HPW : Kept _ := ⟨PrimeAt.below HP.out QB⟩
        clear hb
        go_wp2_with fail
        obtain ⟨a1, b1, c1, d1, hst, la1, lb1, lc1, ld1⟩ := stepL_shape c d a b x
        have KN : Kept (runL n x i [c1, d1, a1, b1] = R) := ⟨by rw [← KR.out, runL_true n x i a b c d hbit, hst]⟩
        have CS : Kept (∀ w', Below wi.heap.size wi w' → Calls Tryd.prog 46 [.agg (rowA [c, d, a, b]), .agg (numA x)].toArray w' fun e w2 => e = .returned (.agg (rowA [a1, b1, c1, d1])) ∧ Below wi.heap.size wi w2) := ⟨fun w' hb => by rw [← hst]; exact (rstep_any c d a b x w' Lc.out Ld.out La.out Lb.out Lx.out (PrimeAt.below HPW.out hb)).mono fun e w2 hh => ⟨hh.1, hb.trans (hh.2.mono hb.size)⟩⟩
        have K1 : Kept (a1 < 115792089237316195423570985008687907853269984665640564039457584007913129639936 ∧ b1 < 115792089237316195423570985008687907853269984665640564039457584007913129639936 ∧ c1 < 115792089237316195423570985008687907853269984665640564039457584007913129639936 ∧ d1 < 115792089237316195423570985008687907853269984665640564039457584007913129639936) := ⟨la1, lb1, lc1, ld1⟩
        clear hst la1 lb1 lc1 ld1
        refine wp_region_quiet_cut (C := fun w' => Below wi.heap.size wi w') 5 rfl (by kernel_rfl) (by kernel_rfl) (by kernel_rfl) (by kernel_rfl) (by kernel_rfl) (Below.drew (Below.refl _ _)) ?_
        dsimp only [List.take_succ_cons, List.take_zero]
        refine q_load (by kernel_rfl) 54 _ gr 54 (rowA [a, b, c, d]) (0, 0) _ rfl (by kernel_rfl) (fun w' hb => AtQ.under AR hb) Tryd.underlying54 rfl (by rw [rowA_size]; exact iQ2) ?_
        simp only [Act.put, List.setIfInBounds_toArray, List.set_cons_succ, List.set_cons_zero]
        refine q_callx (by kernel_rfl) 45 Tryd.f45 _ (.func 45) [.tmp 29] _ [.agg (rowA [a, b, c, d])] (.agg (rowA [c, d, a, b])) rfl rfl (by kernel_rfl) Tryd.func45 (by kernel_rfl) rfl (fun w' hb => (turned_any a b c d w').mono fun e w2 hh => ⟨hh.1, hb.trans (hh.2.mono hb.size)⟩) ?_
        simp only [Act.put, List.setIfInBounds_toArray, List.set_cons_succ, List.set_cons_zero]
        refine q_load (by kernel_rfl) 22 _ gx 22 (numA x) (0, 0) _ rfl (by kernel_rfl) (fun w' hb => At.under AX hb) Tryd.underlying22 rfl (by rw [numA_size]; kernel_rfl) ?_
        simp only [Act.put, List.setIfInBounds_toArray, List.set_cons_succ, List.set_cons_zero]
        refine q_callx (by kernel_rfl) 46 Tryd.f46 _ (.func 46) [.tmp 30, .tmp 31] _ [.agg (rowA [c, d, a, b]), .agg (numA x)] (.agg (rowA [a1, b1, c1, d1])) rfl rfl (by kernel_rfl) Tryd.func46 (by kernel_rfl) rfl CS.out ?_
        simp only [Act.put, List.setIfInBounds_toArray, List.set_cons_succ, List.set_cons_zero]
        refine q_callx (by kernel_rfl) 45 Tryd.f45 _ (.func 45) [.tmp 32] _ [.agg (rowA [a1, b1, c1, d1])] (.agg (rowA [c1, d1, a1, b1])) rfl rfl (by kernel_rfl) Tryd.func45 (by kernel_rfl) rfl (fun w' hb => (turned_any a1 b1 c1 d1 w').mono fun e w2 hh => ⟨hh.1, hb.trans (hh.2.mono hb.size)⟩) ?_
        simp only [Act.put, List.setIfInBounds_toArray, List.set_cons_succ, List.set_cons_zero]
        refine wpQuiet_nil ?_
        intro wz hz
        have AXz := AX.under hz
        have ANz := AN.under hz
        have RRz := RR.under hz
        have QBz := QB.trans (hz.mono QB.size)
        refine wpList_qput iQ2 rfl (.tmp 7) (.tmp 33) rfl gr c1 d1 a1 b1 (by kernel_rfl) (by kernel_rfl) (AR.under hz).room ?_
        intro wy AY PY
        have AXy := PY.at AXz hxr
        have ANy := PY.at ANz hnr
        have RRy := PY.room RRz hrr
        have QBy : Below w.heap.size w wy := QBz.trans (PY.below hgr)
        clear hz AXz ANz RRz QBz PY AX AN RR QB AR CS HPW KR La Lb Lc Ld hbit
        go_wp2_with fail
        go_roundg i
        case rel => exact ⟨by omega, rfl, c1, d1, a1, b1, AY, ANy, AXy, RRy, QBy, ⟨K1.out.2.2.1, K1.out.2.2.2, K1.out.1, K1.out.2.1⟩, KN⟩
        case measure => omega
      · have hc := rbit_any n i wr hi
        rw [decide_eq_false hbit] at hc
        refine hc.mono ?_
        clear hc
        rintro e wi ⟨rfl, hb⟩
        replace AR := AR.under hb
        replace AN := AN.under hb
        replace AX := AX.under hb
        replace RR := RR.under hb
        replace QB := QB.trans (hb.mono QB.size)
        have HPW : Kept _ := ⟨PrimeAt.below HP.out QB⟩
        clear hb
        obtain ⟨a1, b1, c1, d1, hst, la1, lb1, lc1, ld1⟩ := stepL_shape a b c d x
        have KN : Kept (runL n x i [a1, b1, c1, d1] = R) := ⟨by rw [← KR.out, runL_false n x i a b c d hbit, hst]⟩
        go_wp2_with (first | (refine wpList_qall Tryd.underlying54 iQ2 rfl (.tmp 7) rfl _ a b c d rfl AR ?_) | (refine wpList_get rfl (.tmp 6) rfl _ x rfl AX ?_))
        have hc := rstep_any a b c d x wi La.out Lb.out Lc.out Ld.out Lx.out HPW.out
        rw [hst] at hc
        refine hc.mono ?_
        clear hc hst
        rintro e wz ⟨rfl, hz⟩
        have K1 : Kept (a1 < 115792089237316195423570985008687907853269984665640564039457584007913129639936 ∧ b1 < 115792089237316195423570985008687907853269984665640564039457584007913129639936 ∧ c1 < 115792089237316195423570985008687907853269984665640564039457584007913129639936 ∧ d1 < 115792089237316195423570985008687907853269984665640564039457584007913129639936) := ⟨la1, lb1, lc1, ld1⟩
        clear la1 lb1 lc1 ld1
        have ARz := AR.under hz
        have AXz := AX.under hz
        have ANz := AN.under hz
        have RRz := RR.under hz
        have QBz := QB.trans (hz.mono QB.size)
        clear hz AR AX AN RR QB HPW KR La Lb Lc Ld hbit
        go_wp2_with (first | (refine wpList_qput iQ2 rfl (.tmp 7) (.tmp 36) rfl _ a1 b1 c1 d1 rfl rfl ARz.room ?_))
        intro wy AY PY
        have AXy := PY.at AXz hxr
        have ANy := PY.at ANz hnr
        have RRy := PY.room RRz hrr
        have QBy : Below w.heap.size w wy := QBz.trans (PY.below hgr)
        clear AXz ANz RRz QBz ARz PY
        go_wp2_with fail
        go_roundg i
        case rel => exact ⟨by omega, rfl, a1, b1, c1, d1, AY, ANy, AXy, RRy, QBy, K1, KN⟩
        case measure => omega
end Go.Proofs.YtjagicnkfmndeaaDoor
