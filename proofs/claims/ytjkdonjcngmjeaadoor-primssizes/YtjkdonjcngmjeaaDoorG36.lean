/-
  General pieces, joined: NE NF NG.
-/
import Derived.Test.YtjkdonjcngmjeaaDoorG35
import Derived.Test.YtjkdonjcngmjeaaDoorG08
import Derived.Deep.LoopGhost
import Derived.Test.YtjkdonjcngmjeaaDoorG09
import Derived.Test.YtjkdonjcngmjeaaDoorG32
/-
  What the ladder answers, whatever limb.prime holds.
-/
namespace Go.Proofs.YtjkdonjcngmjeaaDoor
open Go Go.RowKit
set_option linter.unusedVariables false
set_option linter.unusedSimpArgs false
set_option maxRecDepth 100000

theorem stepP_shape (pA pB pC pD : Nat) (a b c d x : Nat) : ∃ a1 b1 c1 d1, stepP pA pB pC pD a b c d x = [a1, b1, c1, d1] ∧ a1 < 115792089237316195423570985008687907853269984665640564039457584007913129639936 ∧ b1 < 115792089237316195423570985008687907853269984665640564039457584007913129639936 ∧ c1 < 115792089237316195423570985008687907853269984665640564039457584007913129639936 ∧ d1 < 115792089237316195423570985008687907853269984665640564039457584007913129639936 :=
  ⟨_, _, _, _, rfl, nMul_lt _ _, nMul_lt _ _, nMul_lt _ _, nMul_lt _ _⟩
def bitP (pA pB pC pD : Nat) (is : Bool) (x : Nat) : List Nat → List Nat
  | [a, b, c, d] => if is then (match stepP pA pB pC pD c d a b x with | [a1, b1, c1, d1] => [c1, d1, a1, b1] | l => l) else stepP pA pB pC pD a b c d x
  | l => l
/-- The rounds from bit k - 1 down. -/
def runP (pA pB pC pD : Nat) (n x : Nat) : Nat → List Nat → List Nat
  | 0, l => l
  | k + 1, l => runP pA pB pC pD n x k (bitP pA pB pC pD (decide (n / 2 ^ k % 2 = 1)) x l)
theorem runP_true (pA pB pC pD : Nat) (n x k a b c d : Nat) (h : n / 2 ^ k % 2 = 1) : runP pA pB pC pD n x (k + 1) [a, b, c, d] = runP pA pB pC pD n x k (match stepP pA pB pC pD c d a b x with | [a1, b1, c1, d1] => [c1, d1, a1, b1] | l => l) := by
  rw [runP, decide_eq_true h]; rfl
theorem runP_false (pA pB pC pD : Nat) (n x k a b c d : Nat) (h : ¬ n / 2 ^ k % 2 = 1) : runP pA pB pC pD n x (k + 1) [a, b, c, d] = runP pA pB pC pD n x k (stepP pA pB pC pD a b c d x) := by
  rw [runP, decide_eq_false h]; rfl
/-- What two of the four come to at the end. -/
def quotP (pA pB pC pD : Nat) : List Nat → Nat
  | [a, b, _, _] => a * invP pA pB pC pD b % 57896044618658097711785492504343953926634992332820282019728792003956564819949
  | _ => 0
def XP (pA pB pC pD : Nat) (k u : Nat) : Nat := quotP pA pB pC pD (runP pA pB pC pD (clampN k) (lowN u % 57896044618658097711785492504343953926634992332820282019728792003956564819949) 255 [1, 0, lowN u % 57896044618658097711785492504343953926634992332820282019728792003956564819949, 1])
theorem XP_eq (pA pB pC pD : Nat) (k u : Nat) : XP pA pB pC pD k u = quotP pA pB pC pD (runP pA pB pC pD (clampN k) (lowN u % 57896044618658097711785492504343953926634992332820282019728792003956564819949) 255 [1, 0, lowN u % 57896044618658097711785492504343953926634992332820282019728792003956564819949, 1]) := rfl

set_option maxHeartbeats 2000000 in
theorem XP_any (pA pB pC pD : Nat) (k u : Nat) (w : World) (lk : k < 115792089237316195423570985008687907853269984665640564039457584007913129639936) (lu : u < 115792089237316195423570985008687907853269984665640564039457584007913129639936) (hp : PrimeP pA pB pC pD w) :
    Calls Tryd.prog 72 #[.agg (numA k), .agg (numA u)] w fun e w' => e = .returned (.agg (numA (XP pA pB pC pD k u))) ∧ Below w.heap.size w w' := by
  obtain ⟨r, hr⟩ : ∃ r, r = XP pA pB pC pD k u := ⟨_, rfl⟩
  rw [← hr]
  have KX : Kept _ := ⟨hr⟩
  have Lk : Kept _ := ⟨lk⟩
  have Lu : Kept _ := ⟨lu⟩
  have HP : Kept _ := ⟨hp⟩
  clear lk lu hp hr
  go_enter Tryd.func72, Tryd.ntmps72
  go_wp2_with fail
  generalize hW : ((w.alloc (.cells (numA k) 22)).alloc (.cells (numA u) 22)).alloc (.cells #[.int .u8 0, .int .u8 0, .int .u8 0, .int .u8 0, .int .u8 0, .int .u8 0, .int .u8 0, .int .u8 0, .int .u8 0, .int .u8 0, .int .u8 0, .int .u8 0, .int .u8 0, .int .u8 0, .int .u8 0, .int .u8 0, .int .u8 0, .int .u8 0, .int .u8 0, .int .u8 0, .int .u8 0, .int .u8 0, .int .u8 0, .int .u8 0, .int .u8 0, .int .u8 0, .int .u8 0, .int .u8 0, .int .u8 0, .int .u8 0, .int .u8 0, .int .u8 0] 22) = w0
  obtain ⟨AK, AU, RR0, QB0⟩ := three_nums w k u w0 hW
  clear hW
  obtain ⟨n, en⟩ : ∃ n, n = clampN k := ⟨_, rfl⟩
  have En : Kept (n = clampN k) := ⟨en⟩
  have Ln : Kept (n < 115792089237316195423570985008687907853269984665640564039457584007913129639936) := ⟨by rw [en]; exact clampN_lt _⟩
  clear en
  have C0 : Kept (∀ w, Below w0.heap.size w0 w → Calls Tryd.prog 77 [.agg (numA k)].toArray w fun e w2 => e = .returned (.agg (numA n)) ∧ Below w.heap.size w w2) := ⟨fun w hb => by rw [En.out]; exact Clamp_any k w Lk.out⟩
  obtain ⟨x, ex⟩ : ∃ x, x = lowN u % 57896044618658097711785492504343953926634992332820282019728792003956564819949 := ⟨_, rfl⟩
  have Ex : Kept (x = lowN u % 57896044618658097711785492504343953926634992332820282019728792003956564819949) := ⟨ex⟩
  have Lx : Kept (x < 115792089237316195423570985008687907853269984665640564039457584007913129639936) := ⟨by rw [ex]; exact Nat.lt_trans (Nat.mod_lt _ (by decide)) (by decide)⟩
  clear ex
  have C1 : Kept (∀ w, Below w0.heap.size w0 w → Calls Tryd.prog 78 [.agg (numA u)].toArray w fun e w2 => e = .returned (.agg (numA x)) ∧ Below w.heap.size w w2) := ⟨fun w hb => by rw [Ex.out]; exact place_any u w Lu.out⟩
  refine region_made2 (W0 := w0) [(10, .agg (numA k)), (11, .agg (numA n)), (12, .agg (numA u)), (13, .agg (numA x))] 4 5 6 7 5 6 n x (by kernel_rfl) (by kernel_rfl) (by kernel_rfl) (by kernel_rfl) (by kernel_rfl) (by kernel_rfl) (by kernel_rfl) (by kernel_rfl) (by kernel_rfl) (by kernel_rfl) (by kernel_rfl) (by kernel_rfl) (Below.refl _ _) ⟨ok_get (by rfl) 10 (w.heap.size) k (.tmp 2) rfl (by kernel_rfl) rfl (by kernel_rfl) (fun w hb => At.under AK hb), ok_call (by rfl) 11 77 Tryd.f77 _ (.func 77) [.tmp 10] _ [.agg (numA k)] (.agg (numA n)) rfl (by kernel_rfl) rfl (by kernel_rfl) (by kernel_rfl) Tryd.func77 (by kernel_rfl) rfl C0.out, ok_get (by rfl) 12 (w.heap.size + 1) u (.tmp 3) rfl (by kernel_rfl) rfl (by kernel_rfl) (fun w hb => At.under AU hb), ok_call (by rfl) 13 78 Tryd.f78 _ (.func 78) [.tmp 12] _ [.agg (numA u)] (.agg (numA x)) rfl (by kernel_rfl) rfl (by kernel_rfl) (by kernel_rfl) Tryd.func78 (by kernel_rfl) rfl C1.out, ok_new (by rfl) 5 rfl zero32 rfl makes_num, ok_new (by rfl) 6 rfl zero32 rfl makes_num, ok_put 4 n 5 11 (by rfl) rfl rfl (by kernel_rfl) (by rfl) (by kernel_rfl) (by kernel_rfl) (by kernel_rfl), ok_put 5 x 6 13 (by rfl) rfl rfl (by kernel_rfl) (by rfl) (by kernel_rfl) (by kernel_rfl) (by kernel_rfl), trivial⟩ ?_
  intro gn gx w1 hgn hgx hnegn Agn Agx hbw1
  simp only [putAll, List.foldl_cons, List.foldl_nil, Act.put, List.setIfInBounds_toArray, List.set_cons_succ, List.set_cons_zero]
  clear C0 C1
  have RR1 := RR0.under hbw1
  have QB1 := QB0.trans (hbw1.mono QB0.size)
  have hlr : w.heap.size + 1 + 1 < w0.heap.size := RR0.lt
  clear RR0 QB0 hbw1 AK AU
  go_wp2_with (first | (refine l_build rfl 1 1 rfl rfl b1 ?_; simp only [Act.put, List.setIfInBounds_toArray, List.set_cons_succ, List.set_cons_zero]) | (refine wpList_get rfl (.tmp 6) rfl _ x rfl Agx ?_) | (refine l_bs1 rfl (.tmp 14) (.tmp 15) (.tmp 16) rfl 1 x 1 rfl rfl rfl ?_; simp only [Act.put, List.setIfInBounds_toArray, List.set_cons_succ, List.set_cons_zero]) | (refine wpList_qput iQ1 rfl (.tmp 7) (.tmp 17) rfl _ 1 0 x 1 rfl rfl (roomQ_top _ _ _ (by kernel_rfl) _ rfl) ?_))
  intro w2 AR0 P2
  have AX0 := P2.at (Agx.alloc _) (Nat.ne_of_lt Agx.lt)
  have AN0 := P2.at (Agn.alloc _) (Nat.ne_of_lt Agn.lt)
  have RR2 := P2.room (RR1.alloc _) (Nat.ne_of_lt RR1.lt)
  have QB2 : Below w.heap.size w w2 := (QB1.alloc QB1.size _).trans (P2.below QB1.size)
  have hxr : gx ≠ w1.heap.size := Nat.ne_of_lt Agx.lt
  have hnr : gn ≠ w1.heap.size := Nat.ne_of_lt Agn.lt
  have hrr : w.heap.size + 1 + 1 ≠ w1.heap.size := Nat.ne_of_lt RR1.lt
  have hgr : w.heap.size ≤ w1.heap.size := QB1.size
  clear P2 Agx Agn RR1 QB1 hgn hgx hnegn hlr
  generalize w1.heap.size = gr at *
  obtain ⟨R, hR⟩ : ∃ R, R = runP pA pB pC pD n x 255 [1, 0, x, 1] := ⟨_, rfl⟩
  have KR0 : Kept (runP pA pB pC pD n x 255 [1, 0, x, 1] = R) := ⟨hR.symm⟩
  have KXR : Kept (R = runP pA pB pC pD n x 255 [1, 0, x, 1]) := ⟨hR⟩
  clear hR
  go_wp2
  go_loopg [8] 255 (fun j s8 wr => j ≤ 255 ∧ s8 = .int .i64 ((j : Int) - 1) ∧ ∃ a b c d : Nat, AtQ 133 wr gr [a, b, c, d] ∧ At wr gn n ∧ At wr gx x ∧ Room wr (w.heap.size + 1 + 1) ∧ Below w.heap.size w wr ∧ Kept (a < 115792089237316195423570985008687907853269984665640564039457584007913129639936 ∧ b < 115792089237316195423570985008687907853269984665640564039457584007913129639936 ∧ c < 115792089237316195423570985008687907853269984665640564039457584007913129639936 ∧ d < 115792089237316195423570985008687907853269984665640564039457584007913129639936) ∧ Kept (runP pA pB pC pD n x j [a, b, c, d] = R))
  case atStart => exact ⟨Nat.le_refl _, rfl, 1, 0, x, 1, AR0, AN0, AX0, RR2, QB2, ⟨by decide, by decide, Lx.out, by decide⟩, KR0⟩
  case round =>
    obtain ⟨hj, rfl, a, b, c, d, AR, AN, AX, RR, QB, KL, KR⟩ := hrel
    clear AR0 AN0 AX0 RR2 QB2
    have La : Kept (a < 115792089237316195423570985008687907853269984665640564039457584007913129639936) := ⟨KL.out.1⟩
    have Lb : Kept (b < 115792089237316195423570985008687907853269984665640564039457584007913129639936) := ⟨KL.out.2.1⟩
    have Lc : Kept (c < 115792089237316195423570985008687907853269984665640564039457584007913129639936) := ⟨KL.out.2.2.1⟩
    have Ld : Kept (d < 115792089237316195423570985008687907853269984665640564039457584007913129639936) := ⟨KL.out.2.2.2⟩
    clear KL
    cases gk with
    | zero =>
      go_wp2_with fail
      generalize wr = wi at *
      have HPW : Kept _ := ⟨PrimeP.below HP.out QB⟩
      replace KR : Kept ([a, b, c, d] = runP pA pB pC pD n x 255 [1, 0, x, 1]) := ⟨by rw [← KXR.out]; exact KR.out⟩
      obtain ⟨iv, eiv⟩ : ∃ iv, iv = invP pA pB pC pD b := ⟨_, rfl⟩
      have Eiv : Kept _ := ⟨eiv⟩
      have Liv : Kept (iv < 115792089237316195423570985008687907853269984665640564039457584007913129639936) := ⟨by rw [eiv]; exact invP_lt _ _ _ _ _⟩
      clear eiv
      have KF : Kept (r = a * iv % 57896044618658097711785492504343953926634992332820282019728792003956564819949) := ⟨by rw [KX.out, XP_eq pA pB pC pD, ← En.out, ← Ex.out, ← KR.out, Eiv.out]; rfl⟩
      have CI : Kept (∀ w', Below wi.heap.size wi w' → Calls Tryd.prog 83 [.agg (numA b)].toArray w' fun e w2 => e = .returned (.agg (numA iv)) ∧ Below wi.heap.size wi w2) := ⟨fun w' hb => by rw [Eiv.out]; exact (InvP_any pA pB pC pD b w' Lb.out (PrimeP.below HPW.out hb)).mono fun e w2 hh => ⟨hh.1, hb.trans (hh.2.mono hb.size)⟩⟩
      have CM : Kept (∀ w', Below wi.heap.size wi w' → Calls Tryd.prog 82 [.agg (numA a), .agg (numA iv)].toArray w' fun e w2 => e = .returned (.agg (numA r)) ∧ Below wi.heap.size wi w2) := ⟨fun w' hb => by rw [KF.out]; exact (Mul_any a iv w' La.out Liv.out).mono fun e w2 hh => ⟨hh.1, hb.trans (hh.2.mono hb.size)⟩⟩
      refine wp_region_quiet_cut (C := fun w' => Below wi.heap.size wi w') 6 rfl (by kernel_rfl) (by kernel_rfl) (by kernel_rfl) (by kernel_rfl) (by kernel_rfl) (Below.drew (Below.refl _ _)) ?_
      dsimp only [List.take_succ_cons, List.take_zero]
      refine q_val (by kernel_rfl) (.pointer (some ⟨gr, 0, none⟩)) (fun w' => by kernel_rfl) ?_
      simp only [Act.put, List.setIfInBounds_toArray, List.set_cons_succ, List.set_cons_zero]
      refine q_part (by kernel_rfl) (.tmp 32) gr 0 a 133 (rowA [a, b, c, d]) rfl (by kernel_rfl) (fun w' hb => AtQ.under AR hb) (rowA_part _ (i := 0) rfl) ?_
      simp only [Act.put, List.setIfInBounds_toArray, List.set_cons_succ, List.set_cons_zero]
      refine q_val (by kernel_rfl) (.pointer (some ⟨gr, 32, none⟩)) (fun w' => by kernel_rfl) ?_
      simp only [Act.put, List.setIfInBounds_toArray, List.set_cons_succ, List.set_cons_zero]
      refine q_part (by kernel_rfl) (.tmp 34) gr 32 b 133 (rowA [a, b, c, d]) rfl (by kernel_rfl) (fun w' hb => AtQ.under AR hb) (rowA_part _ (i := 1) rfl) ?_
      simp only [Act.put, List.setIfInBounds_toArray, List.set_cons_succ, List.set_cons_zero]
      refine q_call (by kernel_rfl) 83 Tryd.f83 _ _ _ [.agg (numA b)] (.agg (numA iv)) rfl (by kernel_rfl) Tryd.func83 (by kernel_rfl) rfl CI.out ?_
      simp only [Act.put, List.setIfInBounds_toArray, List.set_cons_succ, List.set_cons_zero]
      refine q_call (by kernel_rfl) 82 Tryd.f82 _ _ _ [.agg (numA a), .agg (numA iv)] (.agg (numA r)) rfl (by kernel_rfl) Tryd.func82 (by kernel_rfl) rfl CM.out ?_
      simp only [Act.put, List.setIfInBounds_toArray, List.set_cons_succ, List.set_cons_zero]
      refine wpQuiet_nil ?_
      intro wz hz
      have RRz := RR.under hz
      have QBz := QB.trans (hz.mono QB.size)
      refine wpList_put rfl (.tmp 4) (.tmp 37) rfl (w.heap.size + 1 + 1) r (by kernel_rfl) (by kernel_rfl) RRz ?_
      intro wy AY PY
      have QBy : Below w.heap.size w wy := QBz.trans (PY.below (by omega))
      clear hz RRz QBz PY AX AN RR QB AR CI CM HPW
      go_wp2_with fail
      exact bodyPost_ret (v := .agg (numA r)) (ret_num (Q := fun _ _ => True) Tryd.results72 _ [] _ _ r rfl AY) rfl ⟨rfl, QBy⟩
    | succ i =>
      have e1 : (((i + 1 : Nat) : Int) - 1) = (i : Int) := by omega
      rw [e1]
      have hi : i < 256 := by omega
      clear e1
      go_wp2_with (first | (refine wpList_get rfl (.tmp 5) rfl _ n rfl AN ?_))
      by_cases hbit : n / 2 ^ i % 2 = 1
      · have hc := bit_any n i wr hi
        rw [decide_eq_true hbit] at hc
        refine hc.mono ?_
        clear hc
        rintro e wi ⟨rfl, hb⟩
        replace AR := AR.under hb
        replace AN := AN.under hb
        replace AX := AX.under hb
        replace RR := RR.under hb
        replace QB := QB.trans (hb.mono QB.size)
        have HPW : Kept _ := ⟨PrimeP.below HP.out QB⟩
        clear hb
        go_wp2_with fail
        obtain ⟨a1, b1, c1, d1, hst, la1, lb1, lc1, ld1⟩ := stepP_shape pA pB pC pD c d a b x
        have KN : Kept (runP pA pB pC pD n x i [c1, d1, a1, b1] = R) := ⟨by rw [← KR.out, runP_true pA pB pC pD n x i a b c d hbit, hst]⟩
        have CS : Kept (∀ w', Below wi.heap.size wi w' → Calls Tryd.prog 81 [.agg (rowA [c, d, a, b]), .agg (numA x)].toArray w' fun e w2 => e = .returned (.agg (rowA [a1, b1, c1, d1])) ∧ Below wi.heap.size wi w2) := ⟨fun w' hb => by rw [← hst]; exact (rungP_any pA pB pC pD c d a b x w' Lc.out Ld.out La.out Lb.out Lx.out (PrimeP.below HPW.out hb)).mono fun e w2 hh => ⟨hh.1, hb.trans (hh.2.mono hb.size)⟩⟩
        have K1 : Kept (a1 < 115792089237316195423570985008687907853269984665640564039457584007913129639936 ∧ b1 < 115792089237316195423570985008687907853269984665640564039457584007913129639936 ∧ c1 < 115792089237316195423570985008687907853269984665640564039457584007913129639936 ∧ d1 < 115792089237316195423570985008687907853269984665640564039457584007913129639936) := ⟨la1, lb1, lc1, ld1⟩
        clear hst la1 lb1 lc1 ld1
        refine wp_region_quiet_cut (C := fun w' => Below wi.heap.size wi w') 7 rfl (by kernel_rfl) (by kernel_rfl) (by kernel_rfl) (by kernel_rfl) (by kernel_rfl) (Below.drew (Below.refl _ _)) ?_
        dsimp only [List.take_succ_cons, List.take_zero]
        refine q_load (by kernel_rfl) 133 _ gr 133 (rowA [a, b, c, d]) (0, 0) _ rfl (by kernel_rfl) (fun w' hb => AtQ.under AR hb) Tryd.underlying133 rfl (by rw [rowA_size]; exact iQ1) ?_
        simp only [Act.put, List.setIfInBounds_toArray, List.set_cons_succ, List.set_cons_zero]
        refine q_val (by kernel_rfl) (.bool true) (fun w' => by kernel_rfl) ?_
        simp only [Act.put, List.setIfInBounds_toArray, List.set_cons_succ, List.set_cons_zero]
        refine q_callx (by kernel_rfl) 80 Tryd.f80 _ (.func 80) [.tmp 25, .tmp 26] _ [.agg (rowA [a, b, c, d]), .bool true] (.agg (rowA [c, d, a, b])) rfl rfl (by kernel_rfl) Tryd.func80 (by kernel_rfl) rfl (fun w' hb => (swap_true a b c d w').mono fun e w2 hh => ⟨hh.1, hb.trans (hh.2.mono hb.size)⟩) ?_
        simp only [Act.put, List.setIfInBounds_toArray, List.set_cons_succ, List.set_cons_zero]
        refine q_load (by kernel_rfl) 22 _ gx 22 (numA x) (0, 0) _ rfl (by kernel_rfl) (fun w' hb => At.under AX hb) Tryd.underlying22 rfl (by rw [numA_size]; kernel_rfl) ?_
        simp only [Act.put, List.setIfInBounds_toArray, List.set_cons_succ, List.set_cons_zero]
        refine q_callx (by kernel_rfl) 81 Tryd.f81 _ (.func 81) [.tmp 27, .tmp 28] _ [.agg (rowA [c, d, a, b]), .agg (numA x)] (.agg (rowA [a1, b1, c1, d1])) rfl rfl (by kernel_rfl) Tryd.func81 (by kernel_rfl) rfl CS.out ?_
        simp only [Act.put, List.setIfInBounds_toArray, List.set_cons_succ, List.set_cons_zero]
        refine q_val (by kernel_rfl) (.bool true) (fun w' => by kernel_rfl) ?_
        simp only [Act.put, List.setIfInBounds_toArray, List.set_cons_succ, List.set_cons_zero]
        refine q_callx (by kernel_rfl) 80 Tryd.f80 _ (.func 80) [.tmp 29, .tmp 30] _ [.agg (rowA [a1, b1, c1, d1]), .bool true] (.agg (rowA [c1, d1, a1, b1])) rfl rfl (by kernel_rfl) Tryd.func80 (by kernel_rfl) rfl (fun w' hb => (swap_true a1 b1 c1 d1 w').mono fun e w2 hh => ⟨hh.1, hb.trans (hh.2.mono hb.size)⟩) ?_
        simp only [Act.put, List.setIfInBounds_toArray, List.set_cons_succ, List.set_cons_zero]
        refine wpQuiet_nil ?_
        intro wz hz
        have AXz := AX.under hz
        have ANz := AN.under hz
        have RRz := RR.under hz
        have QBz := QB.trans (hz.mono QB.size)
        refine wpList_qput iQ1 rfl (.tmp 7) (.tmp 31) rfl gr c1 d1 a1 b1 (by kernel_rfl) (by kernel_rfl) (AR.under hz).room ?_
        intro wy AY PY
        have AXy := PY.at AXz hxr
        have ANy := PY.at ANz hnr
        have RRy := PY.room RRz hrr
        have QBy : Below w.heap.size w wy := QBz.trans (PY.below hgr)
        clear hz AXz ANz RRz QBz PY AX AN RR QB AR CS HPW KR La Lb Lc Ld hbit
        go_wp2_with fail
        go_roundg i
        case rel => exact ⟨by omega, rfl, c1, d1, a1, b1, AY, ANy, AXy, RRy, QBy, ⟨K1.out.2.2.1, K1.out.2.2.2, K1.out.1, K1.out.2.1⟩, KN⟩
        case measure => omega
      · have hc := bit_any n i wr hi
        rw [decide_eq_false hbit] at hc
        refine hc.mono ?_
        clear hc
        rintro e wi ⟨rfl, hb⟩
        replace AR := AR.under hb
        replace AN := AN.under hb
        replace AX := AX.under hb
        replace RR := RR.under hb
        replace QB := QB.trans (hb.mono QB.size)
        have HPW : Kept _ := ⟨PrimeP.below HP.out QB⟩
        clear hb
        go_wp2_with fail
        obtain ⟨a1, b1, c1, d1, hst, la1, lb1, lc1, ld1⟩ := stepP_shape pA pB pC pD a b c d x
        have KN : Kept (runP pA pB pC pD n x i [a1, b1, c1, d1] = R) := ⟨by rw [← KR.out, runP_false pA pB pC pD n x i a b c d hbit, hst]⟩
        have CS : Kept (∀ w', Below wi.heap.size wi w' → Calls Tryd.prog 81 [.agg (rowA [a, b, c, d]), .agg (numA x)].toArray w' fun e w2 => e = .returned (.agg (rowA [a1, b1, c1, d1])) ∧ Below wi.heap.size wi w2) := ⟨fun w' hb => by rw [← hst]; exact (rungP_any pA pB pC pD a b c d x w' La.out Lb.out Lc.out Ld.out Lx.out (PrimeP.below HPW.out hb)).mono fun e w2 hh => ⟨hh.1, hb.trans (hh.2.mono hb.size)⟩⟩
        have K1 : Kept (a1 < 115792089237316195423570985008687907853269984665640564039457584007913129639936 ∧ b1 < 115792089237316195423570985008687907853269984665640564039457584007913129639936 ∧ c1 < 115792089237316195423570985008687907853269984665640564039457584007913129639936 ∧ d1 < 115792089237316195423570985008687907853269984665640564039457584007913129639936) := ⟨la1, lb1, lc1, ld1⟩
        clear hst la1 lb1 lc1 ld1
        refine wp_region_quiet_cut (C := fun w' => Below wi.heap.size wi w') 7 rfl (by kernel_rfl) (by kernel_rfl) (by kernel_rfl) (by kernel_rfl) (by kernel_rfl) (Below.drew (Below.refl _ _)) ?_
        dsimp only [List.take_succ_cons, List.take_zero]
        refine q_load (by kernel_rfl) 133 _ gr 133 (rowA [a, b, c, d]) (0, 0) _ rfl (by kernel_rfl) (fun w' hb => AtQ.under AR hb) Tryd.underlying133 rfl (by rw [rowA_size]; exact iQ1) ?_
        simp only [Act.put, List.setIfInBounds_toArray, List.set_cons_succ, List.set_cons_zero]
        refine q_val (by kernel_rfl) (.bool false) (fun w' => by kernel_rfl) ?_
        simp only [Act.put, List.setIfInBounds_toArray, List.set_cons_succ, List.set_cons_zero]
        refine q_callx (by kernel_rfl) 80 Tryd.f80 _ (.func 80) [.tmp 25, .tmp 26] _ [.agg (rowA [a, b, c, d]), .bool false] (.agg (rowA [a, b, c, d])) rfl rfl (by kernel_rfl) Tryd.func80 (by kernel_rfl) rfl (fun w' hb => (swap_false a b c d w').mono fun e w2 hh => ⟨hh.1, hb.trans (hh.2.mono hb.size)⟩) ?_
        simp only [Act.put, List.setIfInBounds_toArray, List.set_cons_succ, List.set_cons_zero]
        refine q_load (by kernel_rfl) 22 _ gx 22 (numA x) (0, 0) _ rfl (by kernel_rfl) (fun w' hb => At.under AX hb) Tryd.underlying22 rfl (by rw [numA_size]; kernel_rfl) ?_
        simp only [Act.put, List.setIfInBounds_toArray, List.set_cons_succ, List.set_cons_zero]
        refine q_callx (by kernel_rfl) 81 Tryd.f81 _ (.func 81) [.tmp 27, .tmp 28] _ [.agg (rowA [a, b, c, d]), .agg (numA x)] (.agg (rowA [a1, b1, c1, d1])) rfl rfl (by kernel_rfl) Tryd.func81 (by kernel_rfl) rfl CS.out ?_
        simp only [Act.put, List.setIfInBounds_toArray, List.set_cons_succ, List.set_cons_zero]
        refine q_val (by kernel_rfl) (.bool false) (fun w' => by kernel_rfl) ?_
        simp only [Act.put, List.setIfInBounds_toArray, List.set_cons_succ, List.set_cons_zero]
        refine q_callx (by kernel_rfl) 80 Tryd.f80 _ (.func 80) [.tmp 29, .tmp 30] _ [.agg (rowA [a1, b1, c1, d1]), .bool false] (.agg (rowA [a1, b1, c1, d1])) rfl rfl (by kernel_rfl) Tryd.func80 (by kernel_rfl) rfl (fun w' hb => (swap_false a1 b1 c1 d1 w').mono fun e w2 hh => ⟨hh.1, hb.trans (hh.2.mono hb.size)⟩) ?_
        simp only [Act.put, List.setIfInBounds_toArray, List.set_cons_succ, List.set_cons_zero]
        refine wpQuiet_nil ?_
        intro wz hz
        have AXz := AX.under hz
        have ANz := AN.under hz
        have RRz := RR.under hz
        have QBz := QB.trans (hz.mono QB.size)
        refine wpList_qput iQ1 rfl (.tmp 7) (.tmp 31) rfl gr a1 b1 c1 d1 (by kernel_rfl) (by kernel_rfl) (AR.under hz).room ?_
        intro wy AY PY
        have AXy := PY.at AXz hxr
        have ANy := PY.at ANz hnr
        have RRy := PY.room RRz hrr
        have QBy : Below w.heap.size w wy := QBz.trans (PY.below hgr)
        clear hz AXz ANz RRz QBz PY AX AN RR QB AR CS HPW KR La Lb Lc Ld hbit
        go_wp2_with fail
        go_roundg i
        case rel => exact ⟨by omega, rfl, a1, b1, c1, d1, AY, ANy, AXy, RRy, QBy, ⟨K1.out.1, K1.out.2.1, K1.out.2.2.1, K1.out.2.2.2⟩, KN⟩
        case measure => omega
end Go.Proofs.YtjkdonjcngmjeaaDoor
/-
  Pub and Shared, whatever limb.prime holds.
-/
namespace Go.Proofs.YtjkdonjcngmjeaaDoor
open Go Go.RowKit
set_option linter.unusedVariables false
set_option linter.unusedSimpArgs false
set_option maxRecDepth 100000

theorem PubP_any (pA pB pC pD : Nat) (n : Nat) (w : World) (hn : n < 115792089237316195423570985008687907853269984665640564039457584007913129639936) (hp : PrimeP pA pB pC pD w) :
    Calls Tryd.prog 68 #[.agg (numA n)] w fun e w' => e = .returned (.agg (numA (XP pA pB pC pD n 9))) ∧ Below w.heap.size w w' := by
  have L : Kept _ := ⟨hn⟩
  have HP : Kept _ := ⟨hp⟩
  obtain ⟨r, hr⟩ : ∃ r, r = XP pA pB pC pD n 9 := ⟨_, rfl⟩
  rw [← hr]
  have E : Kept _ := ⟨hr⟩
  clear hn hr hp
  have A0 : At ((w.alloc (.cells (numA n) 22)).alloc (.cells #[.int .u8 0, .int .u8 0, .int .u8 0, .int .u8 0, .int .u8 0, .int .u8 0, .int .u8 0, .int .u8 0, .int .u8 0, .int .u8 0, .int .u8 0, .int .u8 0, .int .u8 0, .int .u8 0, .int .u8 0, .int .u8 0, .int .u8 0, .int .u8 0, .int .u8 0, .int .u8 0, .int .u8 0, .int .u8 0, .int .u8 0, .int .u8 0, .int .u8 0, .int .u8 0, .int .u8 0, .int .u8 0, .int .u8 0, .int .u8 0, .int .u8 0, .int .u8 0] 22)) w.heap.size n := (at_new w n).alloc _
  have R1 : Room ((w.alloc (.cells (numA n) 22)).alloc (.cells #[.int .u8 0, .int .u8 0, .int .u8 0, .int .u8 0, .int .u8 0, .int .u8 0, .int .u8 0, .int .u8 0, .int .u8 0, .int .u8 0, .int .u8 0, .int .u8 0, .int .u8 0, .int .u8 0, .int .u8 0, .int .u8 0, .int .u8 0, .int .u8 0, .int .u8 0, .int .u8 0, .int .u8 0, .int .u8 0, .int .u8 0, .int .u8 0, .int .u8 0, .int .u8 0, .int .u8 0, .int .u8 0, .int .u8 0, .int .u8 0, .int .u8 0, .int .u8 0] 22)) (w.heap.size + 1) := room_top _ _ (by simp)
  have QB : Below w.heap.size w ((w.alloc (.cells (numA n) 22)).alloc (.cells #[.int .u8 0, .int .u8 0, .int .u8 0, .int .u8 0, .int .u8 0, .int .u8 0, .int .u8 0, .int .u8 0, .int .u8 0, .int .u8 0, .int .u8 0, .int .u8 0, .int .u8 0, .int .u8 0, .int .u8 0, .int .u8 0, .int .u8 0, .int .u8 0, .int .u8 0, .int .u8 0, .int .u8 0, .int .u8 0, .int .u8 0, .int .u8 0, .int .u8 0, .int .u8 0, .int .u8 0, .int .u8 0, .int .u8 0, .int .u8 0, .int .u8 0, .int .u8 0] 22)) := ((Below.refl _ _).alloc (Nat.le_refl _) _).alloc (by simp) _
  go_enter Tryd.func68, Tryd.ntmps68
  go_wp2_with (first | (refine wpList_get rfl (.tmp 1) rfl _ n rfl A0 ?_) | (refine l_build rfl 9 9 rfl rfl b9 ?_; simp only [Act.put, List.setIfInBounds_toArray, List.set_cons_succ, List.set_cons_zero]))
  have hc := XP_any pA pB pC pD n 9 ((w.alloc (.cells (numA n) 22)).alloc (.cells #[.int .u8 0, .int .u8 0, .int .u8 0, .int .u8 0, .int .u8 0, .int .u8 0, .int .u8 0, .int .u8 0, .int .u8 0, .int .u8 0, .int .u8 0, .int .u8 0, .int .u8 0, .int .u8 0, .int .u8 0, .int .u8 0, .int .u8 0, .int .u8 0, .int .u8 0, .int .u8 0, .int .u8 0, .int .u8 0, .int .u8 0, .int .u8 0, .int .u8 0, .int .u8 0, .int .u8 0, .int .u8 0, .int .u8 0, .int .u8 0, .int .u8 0, .int .u8 0] 22)) L.out (by decide) (PrimeP.below HP.out QB)
  rw [← E.out] at hc
  refine hc.mono ?_
  rintro e w1 ⟨rfl, hb⟩
  have R2 := R1.under hb
  have QC := QB.trans (hb.mono QB.size)
  clear hc A0 R1 QB hb
  go_wp2_with (refine wpList_put rfl (.tmp 2) (.tmp 5) rfl _ r rfl rfl R2 ?_)
  intro w2 A2 P2
  go_wp2
  exact bodyPost_ret (v := .agg (numA r)) (ret_num (Q := fun _ _ => True) Tryd.results68 _ [] _ _ r rfl A2) rfl ⟨rfl, QC.trans (P2.below (by omega))⟩

end Go.Proofs.YtjkdonjcngmjeaaDoor
/-
  Prims of bytes: a public key, whatever limb.prime holds.
-/
namespace Go.Proofs.YtjkdonjcngmjeaaDoor.sh
open Go Go.RowKit
set_option linter.unusedVariables false
set_option linter.unusedSimpArgs false

theorem numA_intsP (n : Nat) : numA n = ints .u8 (digs n 32) := by simp [numA, ints, digs]
theorem ints_numP {k : List Nat} (hk : k.length = 32) (hy : Bytes k) : ints .u8 k = numA (val k) := by
  have h := digs_val k hy.all
  rw [hk] at h
  rw [numA_intsP, h]
theorem val_ltP {k : List Nat} (hk : k.length = 32) (hy : Bytes k) : val k < 115792089237316195423570985008687907853269984665640564039457584007913129639936 := by
  have h := val_lt k hy.all
  rw [hk] at h
  exact Nat.lt_of_lt_of_le h (by decide)
def pubP (pA pB pC pD : Nat) (k : List Nat) : List Nat := digs (XP pA pB pC pD (val k) 9) 32
theorem pubP_len (pA pB pC pD : Nat) (k : List Nat) : (pubP pA pB pC pD k).length = 32 := digs_len _ _
theorem cPubP {pA pB pC pD : Nat} {k : List Nat} {w : World} (hk : k.length = 32) (hy : Bytes k) (hp : PrimeP pA pB pC pD w) :
    Calls Tryd.prog 68 #[.agg (ints .u8 k)] w fun e w' => e = .returned (.agg (ints .u8 (pubP pA pB pC pD k))) ∧ Below w.heap.size w w' := by
  have h := PubP_any pA pB pC pD (val k) w (val_ltP hk hy) hp
  rw [← ints_numP hk hy, numA_intsP] at h
  exact h

set_option maxRecDepth 100000 in
theorem PubRP {pA pB pC pD : Nat} {s : List Nat} {w : World} (hs : Bytes s) (h32 : s.length = 32) (hp : PrimeP pA pB pC pD w) :
    Calls Tryd.prog 64 #[.agg #[], .string (strOf s)] w fun e w' => e = .returned (.string (strOf (pubP pA pB pC pD s))) ∧ Below w.heap.size w w' := by
  obtain ⟨Y, hY⟩ : ∃ y, y = pubP pA pB pC pD s := ⟨_, rfl⟩
  have LY : Kept (Y.length = 32) := ⟨by rw [hY]; exact digs_len _ _⟩
  have IY : Kept ((Tryd.prog.info? 22).map (·.size) = some (ints .u8 Y).size ∧ (ints .u8 Y).size = 32) := ⟨by rw [ints_size, LY.out]; exact ⟨t32_info, rfl⟩⟩
  have CK : Kept (∀ w, Calls Tryd.prog 66 [.string (strOf s)].toArray w fun e w' => e = .returned (.tuple #[.agg (ints .u8 s), .bool true]) ∧ Below w.heap.size w w') := ⟨fun w => keyOf_ok hs h32⟩
  have L32 : Kept (s.length = 32) := ⟨h32⟩
  have Ys : Kept _ := ⟨hs⟩
  have IZ : Kept ((Tryd.prog.info? 22).map (·.size) = some (ints .u8 s).size ∧ (ints .u8 s).size = 32) := ⟨by rw [ints_size, h32]; exact ⟨t32_info, rfl⟩⟩
  have CP : Kept (∀ w', Below w.heap.size w w' → Calls Tryd.prog 68 [.agg (ints .u8 s)].toArray w' fun e w2 => e = .returned (.agg (ints .u8 Y)) ∧ Below w'.heap.size w' w2) := ⟨fun w' hb => by rw [hY]; exact cPubP h32 hs (PrimeP.below hp hb)⟩
  rw [← hY]
  clear hs h32 hp hY
  go_enter Tryd.func64, Tryd.ntmps64
  go_wp2_with fail
  refine (CK.out _).mono ?_
  rintro e w1 ⟨rfl, hb1⟩
  have Q1 : Kept (Below w.heap.size w w1) := ⟨((Below.refl w.heap.size w).alloc (Nat.le_refl _) _).trans (hb1.mono (by simp))⟩
  clear hb1
  go_wp2_with (first | (refine wl_store rfl 22 (.tmp 5) (.tmp 11) rfl w1.heap.size (ints .u8 s) rfl rfl _ (blk_new _ _ _) IZ.out.1 (by rw [IZ.out.2]; rfl) (ints_one _ _) ?_; intro w5 hB5 hp5; simp only [Act.put, List.setIfInBounds_toArray, List.set_cons_succ, List.set_cons_zero]) | ((with_reducible refine wv_row (d := 15) ?hd ?hw 22 (.tmp 5) ?ho (w1.heap.size) ?hx (t' := 22) (ints .u8 s) _ _ Tryd.underlying22 ?hs ?hg ?_); (case hd => rfl); (case hw => kernel_rfl); (case ho => rfl); (case hx => kernel_rfl); (case hs => exact IZ.out.1); (case hg => exact hB5); simp only [Act.put, List.setIfInBounds_toArray, List.set_cons_succ, List.set_cons_zero]))
  have p5 := (Q1.out.alloc Q1.out.size _).trans (hp5.below Q1.out.size)
  refine (CP.out _ p5).mono ?_
  rintro e w6 ⟨rfl, q6⟩
  have Q6 : Kept (Below w.heap.size w w6) := ⟨p5.trans (q6.mono p5.size)⟩
  clear p5 q6 hB5 hp5
  go_wp2_with (first | (refine wl_store rfl 22 (.tmp 7) (.tmp 16) rfl w6.heap.size (ints .u8 Y) rfl rfl _ (blk_new _ _ _) IY.out.1 (by rw [IY.out.2]; rfl) (ints_one _ _) ?_; intro w7 hB7 hp7; simp only [Act.put, List.setIfInBounds_toArray, List.set_cons_succ, List.set_cons_zero]) | ((with_reducible refine wv_str (d := 18) ?hd ?hw (.tmp 17) ?ho (.slice (some ⟨w6.heap.size, 0, none⟩) 32 32) ?hx (Y) ?hl ?_); (case hd => rfl); (case hw => kernel_rfl); (case ho => rfl); (case hx => kernel_rfl); (case hl => exact blk_bytes hB7 LY.out); simp only [Act.put, List.setIfInBounds_toArray, List.set_cons_succ, List.set_cons_zero]))
  go_ret
  exact ⟨rfl, (Q6.out.alloc Q6.out.size _).trans (hp7.below Q6.out.size)⟩
end Go.Proofs.YtjkdonjcngmjeaaDoor.sh
