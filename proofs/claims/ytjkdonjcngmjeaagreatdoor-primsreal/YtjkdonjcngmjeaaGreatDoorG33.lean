/-
  General pieces, joined: D5 D6.
-/
import Derived.Test.YtjkdonjcngmjeaaGreatDoorG32
import Derived.Deep.LoopGhost
/-
  What the ladder's X answers: the numbers of its rounds.
-/
namespace Go.Proofs.YtjkdonjcngmjeaaGreatDoor
set_option maxRecDepth 100000
open Go Go.RowKit
set_option linter.unusedVariables false
set_option linter.unusedSimpArgs false

theorem nMul_lt (a b : Nat) : nMul a b < 115792089237316195423570985008687907853269984665640564039457584007913129639936 := Nat.lt_trans (Nat.mod_lt _ (by decide)) (by decide)
theorem stepL_shape (a b c d x : Nat) : ∃ a1 b1 c1 d1, stepL a b c d x = [a1, b1, c1, d1] ∧ a1 < 115792089237316195423570985008687907853269984665640564039457584007913129639936 ∧ b1 < 115792089237316195423570985008687907853269984665640564039457584007913129639936 ∧ c1 < 115792089237316195423570985008687907853269984665640564039457584007913129639936 ∧ d1 < 115792089237316195423570985008687907853269984665640564039457584007913129639936 :=
  ⟨_, _, _, _, rfl, nMul_lt _ _, nMul_lt _ _, nMul_lt _ _, nMul_lt _ _⟩
def bitL (is : Bool) (x : Nat) : List Nat → List Nat
  | [a, b, c, d] => if is then (match stepL c d a b x with | [a1, b1, c1, d1] => [c1, d1, a1, b1] | l => l) else stepL a b c d x
  | l => l
/-- The rounds from bit k - 1 down. -/
def runL (n x : Nat) : Nat → List Nat → List Nat
  | 0, l => l
  | k + 1, l => runL n x k (bitL (decide (n / 2 ^ k % 2 = 1)) x l)
theorem runL_true (n x k a b c d : Nat) (h : n / 2 ^ k % 2 = 1) : runL n x (k + 1) [a, b, c, d] = runL n x k (match stepL c d a b x with | [a1, b1, c1, d1] => [c1, d1, a1, b1] | l => l) := by
  rw [runL, decide_eq_true h]; rfl
theorem runL_false (n x k a b c d : Nat) (h : ¬ n / 2 ^ k % 2 = 1) : runL n x (k + 1) [a, b, c, d] = runL n x k (stepL a b c d x) := by
  rw [runL, decide_eq_false h]; rfl
/-- What two of the four come to at the end. -/
def quotL : List Nat → Nat
  | [a, b, _, _] => a * invOf b % 57896044618658097711785492504343953926634992332820282019728792003956564819949
  | _ => 0
def XN (k u : Nat) : Nat := quotL (runL (clampN k) (lowN u % 57896044618658097711785492504343953926634992332820282019728792003956564819949) 255 [1, 0, lowN u % 57896044618658097711785492504343953926634992332820282019728792003956564819949, 1])
theorem XN_eq (k u : Nat) : XN k u = quotL (runL (clampN k) (lowN u % 57896044618658097711785492504343953926634992332820282019728792003956564819949) 255 [1, 0, lowN u % 57896044618658097711785492504343953926634992332820282019728792003956564819949, 1]) := rfl

theorem q_part {ops : Array Oper} {C : World → Prop} {Q : Act → Prop} {a : Act} {o : Oper} {rest : List Oper} (hw : Region.wanted o (yielded ops a.tmps) = true) (x : Operand) (g off n : Nat) (t : TypeId) (cs : Array Value) (ho : o.op = .load 30 x) (hx : a.eval x = .pointer (some ⟨g, off, none⟩))
    (hC : ∀ w, C w → w.heap[g]? = some (.cells cs t (0, 0))) (hp : ∀ j v, (numA n)[j]? = some v → cs[off + j]? = some v)
    (h : wpQuiet Tryz.prog ops C Q rest (a.put o.dst (.agg (numA n)))) : wpQuiet Tryz.prog ops C Q (o :: rest) a := by
  refine BigFrame.wpQuiet_want hw fun K hK => ⟨.agg (numA n), fun w hc => ?_, hK _ h⟩
  unfold Oper.quietAt execOp
  simp only [ho, hx, Instr.loadAt, Instr.sureAddr, Sem.run_bind, Sem.run_pure, Result.andThen_ok, run_loadVar_at w g off t 30 cs (numA n) (0, 0) _ (hC w hc) hp Tryz.underlying30 rfl (by rw [numA_size]; kernel_rfl)]
  exact ⟨rfl, rfl⟩
theorem buildS1 (n0 n2 n3 : Nat) (w : World) : (Instr.build 98 #[(0, .agg (numA n0)), (2, .agg (numA n2)), (3, .agg (numA n3))]).run Tryz.prog w = .ok (.agg (rowA [n0, 0, n2, n3])) w := by kernel_rfl
theorem l_bs1 {ops : Array Oper} {Q : Exit → Act → World → Prop} {a : Act} {o : Oper} {rest : List Oper} {w : World} (hg : o.guard = none) (x0 x2 x3 : Operand) (ho : o.op = .build 98 #[(0, x0), (2, x2), (3, x3)]) (n0 n2 n3 : Nat) (h0 : a.eval x0 = .agg (numA n0)) (h2 : a.eval x2 = .agg (numA n2)) (h3 : a.eval x3 = .agg (numA n3)) (h : wpList Tryz.prog ops Q rest (a.put o.dst (.agg (rowA [n0, 0, n2, n3]))) w) : wpList Tryz.prog ops Q (o :: rest) a w :=
  l_val hg _ (by unfold execOp; simp [ho, h0, h2, h3, buildS1]) h
theorem roomQ_top (t : TypeId) (w : World) (z : Array Value) (hz : z.size = 128) (k : Nat) (h : k = w.heap.size) : RoomQ t (w.alloc (.cells z t)) k := by subst h; exact ⟨z, hz, heap_new _ _⟩
theorem three_nums (w : World) (k u : Nat) (W : World) (hW : ((w.alloc (.cells (numA k) 30)).alloc (.cells (numA u) 30)).alloc (.cells #[.int .u8 0, .int .u8 0, .int .u8 0, .int .u8 0, .int .u8 0, .int .u8 0, .int .u8 0, .int .u8 0, .int .u8 0, .int .u8 0, .int .u8 0, .int .u8 0, .int .u8 0, .int .u8 0, .int .u8 0, .int .u8 0, .int .u8 0, .int .u8 0, .int .u8 0, .int .u8 0, .int .u8 0, .int .u8 0, .int .u8 0, .int .u8 0, .int .u8 0, .int .u8 0, .int .u8 0, .int .u8 0, .int .u8 0, .int .u8 0, .int .u8 0, .int .u8 0] 30) = W) : At W w.heap.size k ∧ At W (w.heap.size + 1) u ∧ Room W (w.heap.size + 1 + 1) ∧ Below w.heap.size w W := by
  subst hW
  refine ⟨((at_new w k).alloc _).alloc _, ?_, room_top _ _ (by simp), (((Below.refl _ _).alloc (Nat.le_refl _) _).alloc (by simp) _).alloc (by simp; omega) _⟩
  have h := at_new (w.alloc (.cells (numA k) 30)) u
  rw [show (w.alloc (.cells (numA k) 30)).heap.size = w.heap.size + 1 from by simp] at h
  exact h.alloc _

set_option maxHeartbeats 2000000 in
theorem X_any (k u : Nat) (w : World) (lk : k < 115792089237316195423570985008687907853269984665640564039457584007913129639936) (lu : u < 115792089237316195423570985008687907853269984665640564039457584007913129639936) (hp : PrimeAt w) :
    Calls Tryz.prog 26 #[.agg (numA k), .agg (numA u)] w fun e w' => e = .returned (.agg (numA (XN k u))) ∧ Below w.heap.size w w' := by
  obtain ⟨r, hr⟩ : ∃ r, r = XN k u := ⟨_, rfl⟩
  rw [← hr]
  have KX : Kept _ := ⟨hr⟩
  have Lk : Kept _ := ⟨lk⟩
  have Lu : Kept _ := ⟨lu⟩
  have HP : Kept _ := ⟨hp⟩
  clear lk lu hp hr
  go_enter Tryz.func26, Tryz.ntmps26
  go_wp2_with fail
  generalize hW : ((w.alloc (.cells (numA k) 30)).alloc (.cells (numA u) 30)).alloc (.cells #[.int .u8 0, .int .u8 0, .int .u8 0, .int .u8 0, .int .u8 0, .int .u8 0, .int .u8 0, .int .u8 0, .int .u8 0, .int .u8 0, .int .u8 0, .int .u8 0, .int .u8 0, .int .u8 0, .int .u8 0, .int .u8 0, .int .u8 0, .int .u8 0, .int .u8 0, .int .u8 0, .int .u8 0, .int .u8 0, .int .u8 0, .int .u8 0, .int .u8 0, .int .u8 0, .int .u8 0, .int .u8 0, .int .u8 0, .int .u8 0, .int .u8 0, .int .u8 0] 30) = w0
  obtain ⟨AK, AU, RR0, QB0⟩ := three_nums w k u w0 hW
  clear hW
  obtain ⟨n, en⟩ : ∃ n, n = clampN k := ⟨_, rfl⟩
  have En : Kept (n = clampN k) := ⟨en⟩
  have Ln : Kept (n < 115792089237316195423570985008687907853269984665640564039457584007913129639936) := ⟨by rw [en]; exact clampN_lt _⟩
  clear en
  have C0 : Kept (∀ w, Below w0.heap.size w0 w → Calls Tryz.prog 41 [.agg (numA k)].toArray w fun e w2 => e = .returned (.agg (numA n)) ∧ Below w.heap.size w w2) := ⟨fun w hb => by rw [En.out]; exact Clamp_any k w Lk.out⟩
  obtain ⟨x, ex⟩ : ∃ x, x = lowN u % 57896044618658097711785492504343953926634992332820282019728792003956564819949 := ⟨_, rfl⟩
  have Ex : Kept (x = lowN u % 57896044618658097711785492504343953926634992332820282019728792003956564819949) := ⟨ex⟩
  have Lx : Kept (x < 115792089237316195423570985008687907853269984665640564039457584007913129639936) := ⟨by rw [ex]; exact Nat.lt_trans (Nat.mod_lt _ (by decide)) (by decide)⟩
  clear ex
  have C1 : Kept (∀ w, Below w0.heap.size w0 w → Calls Tryz.prog 42 [.agg (numA u)].toArray w fun e w2 => e = .returned (.agg (numA x)) ∧ Below w.heap.size w w2) := ⟨fun w hb => by rw [Ex.out]; exact place_any u w Lu.out⟩
  refine region_made2 (W0 := w0) [(10, .agg (numA k)), (11, .agg (numA n)), (12, .agg (numA u)), (13, .agg (numA x))] 4 5 6 7 5 6 n x (by kernel_rfl) (by kernel_rfl) (by kernel_rfl) (by kernel_rfl) (by kernel_rfl) (by kernel_rfl) (by kernel_rfl) (by kernel_rfl) (by kernel_rfl) (by kernel_rfl) (by kernel_rfl) (by kernel_rfl) (Below.refl _ _) ⟨ok_get (by rfl) 10 (w.heap.size) k (.tmp 2) rfl (by kernel_rfl) rfl (by kernel_rfl) (fun w hb => At.under AK hb), ok_call (by rfl) 11 41 Tryz.f41 _ (.func 41) [.tmp 10] _ [.agg (numA k)] (.agg (numA n)) rfl (by kernel_rfl) rfl (by kernel_rfl) (by kernel_rfl) Tryz.func41 (by kernel_rfl) rfl C0.out, ok_get (by rfl) 12 (w.heap.size + 1) u (.tmp 3) rfl (by kernel_rfl) rfl (by kernel_rfl) (fun w hb => At.under AU hb), ok_call (by rfl) 13 42 Tryz.f42 _ (.func 42) [.tmp 12] _ [.agg (numA u)] (.agg (numA x)) rfl (by kernel_rfl) rfl (by kernel_rfl) (by kernel_rfl) Tryz.func42 (by kernel_rfl) rfl C1.out, ok_new (by rfl) 5 rfl zero32 rfl makes_num, ok_new (by rfl) 6 rfl zero32 rfl makes_num, ok_put 4 n 5 11 (by rfl) rfl rfl (by kernel_rfl) (by rfl) (by kernel_rfl) (by kernel_rfl) (by kernel_rfl), ok_put 5 x 6 13 (by rfl) rfl rfl (by kernel_rfl) (by rfl) (by kernel_rfl) (by kernel_rfl) (by kernel_rfl), trivial⟩ ?_
  intro gn gx w1 hgn hgx hnegn Agn Agx hbw1
  simp only [putAll, List.foldl_cons, List.foldl_nil, Act.put, List.setIfInBounds_toArray, List.set_cons_succ, List.set_cons_zero]
  clear C0 C1
  have RR1 := RR0.under hbw1
  have QB1 := QB0.trans (hbw1.mono QB0.size)
  have hlr : w.heap.size + 1 + 1 < w0.heap.size := RR0.lt
  clear RR0 QB0 hbw1 AK AU
  go_wp2_with (first | (refine l_build rfl 1 1 rfl rfl b1 ?_; simp only [Act.put, List.setIfInBounds_toArray, List.set_cons_succ, List.set_cons_zero]) | (refine wpList_get rfl (.tmp 6) rfl _ x rfl Agx ?_) | (refine l_bs1 rfl (.tmp 14) (.tmp 15) (.tmp 16) rfl 1 x 1 rfl rfl rfl ?_; simp only [Act.put, List.setIfInBounds_toArray, List.set_cons_succ, List.set_cons_zero]) | (refine wpList_qput iQ1 rfl (.tmp 7) (.tmp 17) rfl _ 1 0 x 1 rfl rfl (roomQ_top _ _ _ (by kernel_rfl) _ rfl) ?_))
  intro w2 AR0 P2
  have AX0 := P2.at (Agx.alloc _) (Nat.ne_of_lt Agx.lt)
  have AN0 := P2.at (Agn.alloc _) (Nat.ne_of_lt Agn.lt)
  have RR2 := P2.room (RR1.alloc _) (Nat.ne_of_lt RR1.lt)
  have QB2 : Below w.heap.size w w2 := (QB1.alloc QB1.size _).trans (P2.below QB1.size)
  have hxr : gx ≠ w1.heap.size := Nat.ne_of_lt Agx.lt
  have hnr : gn ≠ w1.heap.size := Nat.ne_of_lt Agn.lt
  have hrr : w.heap.size + 1 + 1 ≠ w1.heap.size := Nat.ne_of_lt RR1.lt
  have hgr : w.heap.size ≤ w1.heap.size := QB1.size
  clear P2 Agx Agn RR1 QB1 hgn hgx hnegn hlr
  generalize w1.heap.size = gr at *
  obtain ⟨R, hR⟩ : ∃ R, R = runL n x 255 [1, 0, x, 1] := ⟨_, rfl⟩
  have KR0 : Kept (runL n x 255 [1, 0, x, 1] = R) := ⟨hR.symm⟩
  have KXR : Kept (R = runL n x 255 [1, 0, x, 1]) := ⟨hR⟩
  clear hR
  go_wp2
  go_loopg [8] 255 (fun j s8 wr => j ≤ 255 ∧ s8 = .int .i64 ((j : Int) - 1) ∧ ∃ a b c d : Nat, AtQ 98 wr gr [a, b, c, d] ∧ At wr gn n ∧ At wr gx x ∧ Room wr (w.heap.size + 1 + 1) ∧ Below w.heap.size w wr ∧ Kept (a < 115792089237316195423570985008687907853269984665640564039457584007913129639936 ∧ b < 115792089237316195423570985008687907853269984665640564039457584007913129639936 ∧ c < 115792089237316195423570985008687907853269984665640564039457584007913129639936 ∧ d < 115792089237316195423570985008687907853269984665640564039457584007913129639936) ∧ Kept (runL n x j [a, b, c, d] = R))
  case atStart => exact ⟨Nat.le_refl _, rfl, 1, 0, x, 1, AR0, AN0, AX0, RR2, QB2, ⟨by decide, by decide, Lx.out, by decide⟩, KR0⟩
  case round =>
    obtain ⟨hj, rfl, a, b, c, d, AR, AN, AX, RR, QB, KL, KR⟩ := hrel
    clear AR0 AN0 AX0 RR2 QB2
    have La : Kept (a < 115792089237316195423570985008687907853269984665640564039457584007913129639936) := ⟨KL.out.1⟩
    have Lb : Kept (b < 115792089237316195423570985008687907853269984665640564039457584007913129639936) := ⟨KL.out.2.1⟩
    have Lc : Kept (c < 115792089237316195423570985008687907853269984665640564039457584007913129639936) := ⟨KL.out.2.2.1⟩
    have Ld : Kept (d < 115792089237316195423570985008687907853269984665640564039457584007913129639936) := ⟨KL.out.2.2.2⟩
    clear KL
    cases gk with
    | zero =>
      go_wp2_with fail
      generalize wr = wi at *
      have HPW : Kept _ := ⟨PrimeAt.below HP.out QB⟩
      replace KR : Kept ([a, b, c, d] = runL n x 255 [1, 0, x, 1]) := ⟨by rw [← KXR.out]; exact KR.out⟩
      obtain ⟨iv, eiv⟩ : ∃ iv, iv = invOf b := ⟨_, rfl⟩
      have Eiv : Kept _ := ⟨eiv⟩
      have Liv : Kept (iv < 115792089237316195423570985008687907853269984665640564039457584007913129639936) := ⟨by rw [eiv]; exact invOf_lt _⟩
      clear eiv
      have KF : Kept (r = a * iv % 57896044618658097711785492504343953926634992332820282019728792003956564819949) := ⟨by rw [KX.out, XN_eq, ← En.out, ← Ex.out, ← KR.out, Eiv.out]; rfl⟩
      have CI : Kept (∀ w', Below wi.heap.size wi w' → Calls Tryz.prog 47 [.agg (numA b)].toArray w' fun e w2 => e = .returned (.agg (numA iv)) ∧ Below wi.heap.size wi w2) := ⟨fun w' hb => by rw [Eiv.out]; exact (Inv_any b w' Lb.out (PrimeAt.below HPW.out hb)).mono fun e w2 hh => ⟨hh.1, hb.trans (hh.2.mono hb.size)⟩⟩
      have CM : Kept (∀ w', Below wi.heap.size wi w' → Calls Tryz.prog 46 [.agg (numA a), .agg (numA iv)].toArray w' fun e w2 => e = .returned (.agg (numA r)) ∧ Below wi.heap.size wi w2) := ⟨fun w' hb => by rw [KF.out]; exact (Mul_any a iv w' La.out Liv.out).mono fun e w2 hh => ⟨hh.1, hb.trans (hh.2.mono hb.size)⟩⟩
      refine wp_region_quiet_cut (C := fun w' => Below wi.heap.size wi w') 6 rfl (by kernel_rfl) (by kernel_rfl) (by kernel_rfl) (by kernel_rfl) (by kernel_rfl) (Below.drew (Below.refl _ _)) ?_
      dsimp only [List.take_succ_cons, List.take_zero]
      refine q_val (by kernel_rfl) (.pointer (some ⟨gr, 0, none⟩)) (fun w' => by kernel_rfl) ?_
      simp only [Act.put, List.setIfInBounds_toArray, List.set_cons_succ, List.set_cons_zero]
      refine q_part (by kernel_rfl) (.tmp 32) gr 0 a 98 (rowA [a, b, c, d]) rfl (by kernel_rfl) (fun w' hb => AtQ.under AR hb) (rowA_part _ (i := 0) rfl) ?_
      simp only [Act.put, List.setIfInBounds_toArray, List.set_cons_succ, List.set_cons_zero]
      refine q_val (by kernel_rfl) (.pointer (some ⟨gr, 32, none⟩)) (fun w' => by kernel_rfl) ?_
      simp only [Act.put, List.setIfInBounds_toArray, List.set_cons_succ, List.set_cons_zero]
      refine q_part (by kernel_rfl) (.tmp 34) gr 32 b 98 (rowA [a, b, c, d]) rfl (by kernel_rfl) (fun w' hb => AtQ.under AR hb) (rowA_part _ (i := 1) rfl) ?_
      simp only [Act.put, List.setIfInBounds_toArray, List.set_cons_succ, List.set_cons_zero]
      refine q_call (by kernel_rfl) 47 Tryz.f47 _ _ _ [.agg (numA b)] (.agg (numA iv)) rfl (by kernel_rfl) Tryz.func47 (by kernel_rfl) rfl CI.out ?_
      simp only [Act.put, List.setIfInBounds_toArray, List.set_cons_succ, List.set_cons_zero]
      refine q_call (by kernel_rfl) 46 Tryz.f46 _ _ _ [.agg (numA a), .agg (numA iv)] (.agg (numA r)) rfl (by kernel_rfl) Tryz.func46 (by kernel_rfl) rfl CM.out ?_
      simp only [Act.put, List.setIfInBounds_toArray, List.set_cons_succ, List.set_cons_zero]
      refine wpQuiet_nil ?_
      intro wz hz
      have RRz := RR.under hz
      have QBz := QB.trans (hz.mono QB.size)
      refine wpList_put rfl (.tmp 4) (.tmp 37) rfl (w.heap.size + 1 + 1) r (by kernel_rfl) (by kernel_rfl) RRz ?_
      intro wy AY PY
      have QBy : Below w.heap.size w wy := QBz.trans (PY.below (by omega))
      clear hz RRz QBz PY AX AN RR QB AR CI CM HPW
      go_wp2_with fail
      exact bodyPost_ret (v := .agg (numA r)) (ret_num (Q := fun _ _ => True) Tryz.results26 _ [] _ _ r rfl AY) rfl ⟨rfl, QBy⟩
    | succ i =>
      have e1 : (((i + 1 : Nat) : Int) - 1) = (i : Int) := by omega
      rw [e1]
      have hi : i < 256 := by omega
      clear e1
      go_wp2_with (first | (refine wpList_get rfl (.tmp 5) rfl _ n rfl AN ?_))
      by_cases hbit : n / 2 ^ i % 2 = 1
      · have hc := bit_any n i wr hi
        rw [decide_eq_true hbit] at hc
        refine hc.mono ?_
        clear hc
        rintro e wi ⟨rfl, hb⟩
        replace AR := AR.under hb
        replace AN := AN.under hb
        replace AX := AX.under hb
        replace RR := RR.under hb
        replace QB := QB.trans (hb.mono QB.size)
        have HPW : Kept _ := ⟨PrimeAt.below HP.out QB⟩
        clear hb
        go_wp2_with fail
        obtain ⟨a1, b1, c1, d1, hst, la1, lb1, lc1, ld1⟩ := stepL_shape c d a b x
        have KN : Kept (runL n x i [c1, d1, a1, b1] = R) := ⟨by rw [← KR.out, runL_true n x i a b c d hbit, hst]⟩
        have CS : Kept (∀ w', Below wi.heap.size wi w' → Calls Tryz.prog 45 [.agg (rowA [c, d, a, b]), .agg (numA x)].toArray w' fun e w2 => e = .returned (.agg (rowA [a1, b1, c1, d1])) ∧ Below wi.heap.size wi w2) := ⟨fun w' hb => by rw [← hst]; exact (rung_any c d a b x w' Lc.out Ld.out La.out Lb.out Lx.out (PrimeAt.below HPW.out hb)).mono fun e w2 hh => ⟨hh.1, hb.trans (hh.2.mono hb.size)⟩⟩
        have K1 : Kept (a1 < 115792089237316195423570985008687907853269984665640564039457584007913129639936 ∧ b1 < 115792089237316195423570985008687907853269984665640564039457584007913129639936 ∧ c1 < 115792089237316195423570985008687907853269984665640564039457584007913129639936 ∧ d1 < 115792089237316195423570985008687907853269984665640564039457584007913129639936) := ⟨la1, lb1, lc1, ld1⟩
        clear hst la1 lb1 lc1 ld1
        refine wp_region_quiet_cut (C := fun w' => Below wi.heap.size wi w') 7 rfl (by kernel_rfl) (by kernel_rfl) (by kernel_rfl) (by kernel_rfl) (by kernel_rfl) (Below.drew (Below.refl _ _)) ?_
        dsimp only [List.take_succ_cons, List.take_zero]
        refine q_load (by kernel_rfl) 98 _ gr 98 (rowA [a, b, c, d]) (0, 0) _ rfl (by kernel_rfl) (fun w' hb => AtQ.under AR hb) Tryz.underlying98 rfl (by rw [rowA_size]; exact iQ1) ?_
        simp only [Act.put, List.setIfInBounds_toArray, List.set_cons_succ, List.set_cons_zero]
        refine q_val (by kernel_rfl) (.bool true) (fun w' => by kernel_rfl) ?_
        simp only [Act.put, List.setIfInBounds_toArray, List.set_cons_succ, List.set_cons_zero]
        refine q_callx (by kernel_rfl) 44 Tryz.f44 _ (.func 44) [.tmp 25, .tmp 26] _ [.agg (rowA [a, b, c, d]), .bool true] (.agg (rowA [c, d, a, b])) rfl rfl (by kernel_rfl) Tryz.func44 (by kernel_rfl) rfl (fun w' hb => (swap_true a b c d w').mono fun e w2 hh => ⟨hh.1, hb.trans (hh.2.mono hb.size)⟩) ?_
        simp only [Act.put, List.setIfInBounds_toArray, List.set_cons_succ, List.set_cons_zero]
        refine q_load (by kernel_rfl) 30 _ gx 30 (numA x) (0, 0) _ rfl (by kernel_rfl) (fun w' hb => At.under AX hb) Tryz.underlying30 rfl (by rw [numA_size]; kernel_rfl) ?_
        simp only [Act.put, List.setIfInBounds_toArray, List.set_cons_succ, List.set_cons_zero]
        refine q_callx (by kernel_rfl) 45 Tryz.f45 _ (.func 45) [.tmp 27, .tmp 28] _ [.agg (rowA [c, d, a, b]), .agg (numA x)] (.agg (rowA [a1, b1, c1, d1])) rfl rfl (by kernel_rfl) Tryz.func45 (by kernel_rfl) rfl CS.out ?_
        simp only [Act.put, List.setIfInBounds_toArray, List.set_cons_succ, List.set_cons_zero]
        refine q_val (by kernel_rfl) (.bool true) (fun w' => by kernel_rfl) ?_
        simp only [Act.put, List.setIfInBounds_toArray, List.set_cons_succ, List.set_cons_zero]
        refine q_callx (by kernel_rfl) 44 Tryz.f44 _ (.func 44) [.tmp 29, .tmp 30] _ [.agg (rowA [a1, b1, c1, d1]), .bool true] (.agg (rowA [c1, d1, a1, b1])) rfl rfl (by kernel_rfl) Tryz.func44 (by kernel_rfl) rfl (fun w' hb => (swap_true a1 b1 c1 d1 w').mono fun e w2 hh => ⟨hh.1, hb.trans (hh.2.mono hb.size)⟩) ?_
        simp only [Act.put, List.setIfInBounds_toArray, List.set_cons_succ, List.set_cons_zero]
        refine wpQuiet_nil ?_
        intro wz hz
        have AXz := AX.under hz
        have ANz := AN.under hz
        have RRz := RR.under hz
        have QBz := QB.trans (hz.mono QB.size)
        refine wpList_qput iQ1 rfl (.tmp 7) (.tmp 31) rfl gr c1 d1 a1 b1 (by kernel_rfl) (by kernel_rfl) (AR.under hz).room ?_
        intro wy AY PY
        have AXy := PY.at AXz hxr
        have ANy := PY.at ANz hnr
        have RRy := PY.room RRz hrr
        have QBy : Below w.heap.size w wy := QBz.trans (PY.below hgr)
        clear hz AXz ANz RRz QBz PY AX AN RR QB AR CS HPW KR La Lb Lc Ld hbit
        go_wp2_with fail
        go_roundg i
        case rel => exact ⟨by omega, rfl, c1, d1, a1, b1, AY, ANy, AXy, RRy, QBy, ⟨K1.out.2.2.1, K1.out.2.2.2, K1.out.1, K1.out.2.1⟩, KN⟩
        case measure => omega
      · have hc := bit_any n i wr hi
        rw [decide_eq_false hbit] at hc
        refine hc.mono ?_
        clear hc
        rintro e wi ⟨rfl, hb⟩
        replace AR := AR.under hb
        replace AN := AN.under hb
        replace AX := AX.under hb
        replace RR := RR.under hb
        replace QB := QB.trans (hb.mono QB.size)
        have HPW : Kept _ := ⟨PrimeAt.below HP.out QB⟩
        clear hb
        go_wp2_with fail
        obtain ⟨a1, b1, c1, d1, hst, la1, lb1, lc1, ld1⟩ := stepL_shape a b c d x
        have KN : Kept (runL n x i [a1, b1, c1, d1] = R) := ⟨by rw [← KR.out, runL_false n x i a b c d hbit, hst]⟩
        have CS : Kept (∀ w', Below wi.heap.size wi w' → Calls Tryz.prog 45 [.agg (rowA [a, b, c, d]), .agg (numA x)].toArray w' fun e w2 => e = .returned (.agg (rowA [a1, b1, c1, d1])) ∧ Below wi.heap.size wi w2) := ⟨fun w' hb => by rw [← hst]; exact (rung_any a b c d x w' La.out Lb.out Lc.out Ld.out Lx.out (PrimeAt.below HPW.out hb)).mono fun e w2 hh => ⟨hh.1, hb.trans (hh.2.mono hb.size)⟩⟩
        have K1 : Kept (a1 < 115792089237316195423570985008687907853269984665640564039457584007913129639936 ∧ b1 < 115792089237316195423570985008687907853269984665640564039457584007913129639936 ∧ c1 < 115792089237316195423570985008687907853269984665640564039457584007913129639936 ∧ d1 < 115792089237316195423570985008687907853269984665640564039457584007913129639936) := ⟨la1, lb1, lc1, ld1⟩
        clear hst la1 lb1 lc1 ld1
        refine wp_region_quiet_cut (C := fun w' => Below wi.heap.size wi w') 7 rfl (by kernel_rfl) (by kernel_rfl) (by kernel_rfl) (by kernel_rfl) (by kernel_rfl) (Below.drew (Below.refl _ _)) ?_
        dsimp only [List.take_succ_cons, List.take_zero]
        refine q_load (by kernel_rfl) 98 _ gr 98 (rowA [a, b, c, d]) (0, 0) _ rfl (by kernel_rfl) (fun w' hb => AtQ.under AR hb) Tryz.underlying98 rfl (by rw [rowA_size]; exact iQ1) ?_
        simp only [Act.put, List.setIfInBounds_toArray, List.set_cons_succ, List.set_cons_zero]
        refine q_val (by kernel_rfl) (.bool false) (fun w' => by kernel_rfl) ?_
        simp only [Act.put, List.setIfInBounds_toArray, List.set_cons_succ, List.set_cons_zero]
        refine q_callx (by kernel_rfl) 44 Tryz.f44 _ (.func 44) [.tmp 25, .tmp 26] _ [.agg (rowA [a, b, c, d]), .bool false] (.agg (rowA [a, b, c, d])) rfl rfl (by kernel_rfl) Tryz.func44 (by kernel_rfl) rfl (fun w' hb => (swap_false a b c d w').mono fun e w2 hh => ⟨hh.1, hb.trans (hh.2.mono hb.size)⟩) ?_
        simp only [Act.put, List.setIfInBounds_toArray, List.set_cons_succ, List.set_cons_zero]
        refine q_load (by kernel_rfl) 30 _ gx 30 (numA x) (0, 0) _ rfl (by kernel_rfl) (fun w' hb => At.under AX hb) Tryz.underlying30 rfl (by rw [numA_size]; kernel_rfl) ?_
        simp only [Act.put, List.setIfInBounds_toArray, List.set_cons_succ, List.set_cons_zero]
        refine q_callx (by kernel_rfl) 45 Tryz.f45 _ (.func 45) [.tmp 27, .tmp 28] _ [.agg (rowA [a, b, c, d]), .agg (numA x)] (.agg (rowA [a1, b1, c1, d1])) rfl rfl (by kernel_rfl) Tryz.func45 (by kernel_rfl) rfl CS.out ?_
        simp only [Act.put, List.setIfInBounds_toArray, List.set_cons_succ, List.set_cons_zero]
        refine q_val (by kernel_rfl) (.bool false) (fun w' => by kernel_rfl) ?_
        simp only [Act.put, List.setIfInBounds_toArray, List.set_cons_succ, List.set_cons_zero]
        refine q_callx (by kernel_rfl) 44 Tryz.f44 _ (.func 44) [.tmp 29, .tmp 30] _ [.agg (rowA [a1, b1, c1, d1]), .bool false] (.agg (rowA [a1, b1, c1, d1])) rfl rfl (by kernel_rfl) Tryz.func44 (by kernel_rfl) rfl (fun w' hb => (swap_false a1 b1 c1 d1 w').mono fun e w2 hh => ⟨hh.1, hb.trans (hh.2.mono hb.size)⟩) ?_
        simp only [Act.put, List.setIfInBounds_toArray, List.set_cons_succ, List.set_cons_zero]
        refine wpQuiet_nil ?_
        intro wz hz
        have AXz := AX.under hz
        have ANz := AN.under hz
        have RRz := RR.under hz
        have QBz := QB.trans (hz.mono QB.size)
        refine wpList_qput iQ1 rfl (.tmp 7) (.tmp 31) rfl gr a1 b1 c1 d1 (by kernel_rfl) (by kernel_rfl) (AR.under hz).room ?_
        intro wy AY PY
        have AXy := PY.at AXz hxr
        have ANy := PY.at ANz hnr
        have RRy := PY.room RRz hrr
        have QBy : Below w.heap.size w wy := QBz.trans (PY.below hgr)
        clear hz AXz ANz RRz QBz PY AX AN RR QB AR CS HPW KR La Lb Lc Ld hbit
        go_wp2_with fail
        go_roundg i
        case rel => exact ⟨by omega, rfl, a1, b1, c1, d1, AY, ANy, AXy, RRy, QBy, ⟨K1.out.1, K1.out.2.1, K1.out.2.2.1, K1.out.2.2.2⟩, KN⟩
        case measure => omega
end Go.Proofs.YtjkdonjcngmjeaaGreatDoor
/-
  The public key that the document fixes, reckoned.
-/
namespace Go.Proofs.YtjkdonjcngmjeaaGreatDoor
set_option maxRecDepth 100000
open Go Go.RowKit

end Go.Proofs.YtjkdonjcngmjeaaGreatDoor
