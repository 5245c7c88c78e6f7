/-
  What LadderBits answers: true, whatever the secret, the point and the bits are.
-/
import Derived.Test.YtjagicnkfmndeaaDoorE1
namespace Go.Proofs.YtjagicnkfmndeaaDoor
open Go Go.RowKit
set_option linter.unusedVariables false
set_option linter.unusedSimpArgs false

def bitsA (k u lo hi : Nat) : Array Value := numA k ++ numA u ++ #[.int .u8 (lo : Int), .int .u8 (hi : Int)]
theorem bits_k (k u lo hi j : Nat) (v : Value) (h : (numA k)[j]? = some v) : (bitsA k u lo hi)[0 + j]? = some v := by
  have hj : j < 32 := by have := (Array.getElem?_eq_some_iff.1 h).1; rw [numA_size] at this; exact this
  unfold bitsA
  rw [Nat.zero_add, Array.append_assoc, Array.getElem?_append_left (by rw [numA_size]; exact hj)]; exact h
theorem bits_u (k u lo hi j : Nat) (v : Value) (h : (numA u)[j]? = some v) : (bitsA k u lo hi)[32 + j]? = some v := by
  have hj : j < 32 := by have := (Array.getElem?_eq_some_iff.1 h).1; rw [numA_size] at this; exact this
  unfold bitsA
  rw [Array.append_assoc, Array.getElem?_append_right (by rw [numA_size]; omega), numA_size, Nat.add_sub_cancel_left, Array.getElem?_append_left (by rw [numA_size]; exact hj)]; exact h
theorem bits_lo (k u lo hi : Nat) : (bitsA k u lo hi)[64]? = some (.int .u8 (lo : Int)) := by
  unfold bitsA
  rw [Array.append_assoc, Array.getElem?_append_right (by rw [numA_size]; omega), Array.getElem?_append_right (by rw [numA_size, numA_size]; omega), numA_size, numA_size]; rfl
theorem bits_hi (k u lo hi : Nat) : (bitsA k u lo hi)[65]? = some (.int .u8 (hi : Int)) := by
  unfold bitsA
  rw [Array.append_assoc, Array.getElem?_append_right (by rw [numA_size]; omega), Array.getElem?_append_right (by rw [numA_size, numA_size]; omega), numA_size, numA_size]; rfl

theorem ok_byte {l : List Oper} {kd : Nat → Kd} {A : Act} {W0 : World} {i : Nat} {o : Oper} (hk : kd i = .q) (d g off : Nat) (v : Value) (x : Operand) (hd : o.dst = some d) (hv : A.tmps[d]? = some v) (ho : o.op = .load 5 x) (hx : A.eval x = .pointer (some ⟨g, off, none⟩)) (hg : ∀ w, Below W0.heap.size W0 w → w.cell? ⟨g, off, none⟩ = some v) : OpOk l kd A W0 i o := by
  unfold OpOk
  rw [hk]
  refine ⟨d, v, hd, hv, fun w hw => ?_⟩
  have hrun : (execOp A.eval o).run Tryd.prog w = .ok (.value v) w := by
    unfold execOp
    simp only [ho, hx, Instr.loadAt, Instr.sureAddr, Sem.run_bind, Sem.run_pure, Result.andThen_ok]
    simp [loadVar, ag5, go_sem, hg w hw]
  unfold Oper.quietAt
  rw [hrun]
  exact ⟨rfl, rfl⟩

theorem clamp_comp (d m h : Nat) (hd : d < 256) (hm : m < 1766847064778384329583297500742918515827483896875618958121606201292619776) (hh : h < 256) : clampN (comp d m h) = comp (d - d % 8) m (h % 64 + 64) := by
  have e1 : comp d m h % 256 = d := comp_low d m h hd
  have e2 : comp d m h % 8 = d % 8 := by unfold comp; omega
  have e3 : comp d m h / 256 % 1766847064778384329583297500742918515827483896875618958121606201292619776 = m := by unfold comp; omega
  have e4 : comp d m h / 452312848583266388373324160190187140051835877600158453279131187530910662656 % 64 = h % 64 := by unfold comp; omega
  unfold clampN
  rw [e1, e2, e3, e4]
theorem low_comp (d m h : Nat) (hd : d < 256) (hm : m < 1766847064778384329583297500742918515827483896875618958121606201292619776) (hh : h < 256) : lowN (comp d m h) = comp d m (h % 128) := by
  have e1 : comp d m h % 256 = d := comp_low d m h hd
  have e3 : comp d m h / 256 % 1766847064778384329583297500742918515827483896875618958121606201292619776 = m := by unfold comp; omega
  have e4 : comp d m h / 452312848583266388373324160190187140051835877600158453279131187530910662656 % 128 = h % 128 := by unfold comp; omega
  unfold lowN
  rw [e1, e3, e4]
theorem clamp_of (k : Nat) : clampN k = comp (k % 256 - k % 8) (k / 256 % 1766847064778384329583297500742918515827483896875618958121606201292619776) (k / 452312848583266388373324160190187140051835877600158453279131187530910662656 % 64 + 64) := rfl
theorem clamp_twice (k : Nat) : clampN (clampN k) = clampN k := by
  rw [clamp_of k, clamp_comp _ _ _ (by omega) (Nat.mod_lt _ (by decide)) (by omega)]
  congr 1 <;> omega
theorem XN_ck (k l u v : Nat) (h1 : clampN l = clampN k) (h2 : lowN v = lowN u) : XN l v = XN k u := by rw [XN_eq, XN_eq, h1, h2]

theorem xor_low : ∀ x : Fin 256, ∀ y : Fin 8, bits .xor .u8 (x.val : Int) (y.val : Int) = ((Nat.xor x.val y.val : Nat) : Int) ∧ Nat.xor x.val y.val < 256 ∧ Nat.xor x.val y.val - Nat.xor x.val y.val % 8 = x.val - x.val % 8 := by decide +kernel
theorem and_high : ∀ h : Fin 256, bits .and .u8 (h.val : Int) 192 = ((64 * (h.val / 64) : Nat) : Int) := by decide +kernel
theorem xor_high : ∀ y : Fin 256, ∀ c : Fin 4, bits .xor .u8 (y.val : Int) ((64 * c.val : Nat) : Int) = ((Nat.xor y.val (64 * c.val) : Nat) : Int) ∧ Nat.xor y.val (64 * c.val) < 256 ∧ Nat.xor y.val (64 * c.val) % 64 = y.val % 64 := by decide +kernel
theorem xor_top : ∀ y : Fin 256, bits .xor .u8 (y.val : Int) 128 = ((Nat.xor y.val 128 : Nat) : Int) ∧ Nat.xor y.val 128 < 256 ∧ Nat.xor y.val 128 % 128 = y.val % 128 := by decide +kernel

set_option maxHeartbeats 2000000 in
theorem bits_any (k u lo hi : Nat) (w : World) (lk : k < 115792089237316195423570985008687907853269984665640564039457584007913129639936) (lu : u < 115792089237316195423570985008687907853269984665640564039457584007913129639936) (hlo : lo < 256) (hhi : hi < 256) (hp : PrimeAt w) :
    Calls Tryd.prog 9 #[.agg (bitsA k u lo hi)] w fun e w' => e = .returned (.bool true) ∧ Below w.heap.size w w' := by
  have LK : Kept _ := ⟨lk⟩
  have LU : Kept _ := ⟨lu⟩
  have HP : Kept _ := ⟨hp⟩
  obtain ⟨c, hc⟩ : ∃ c, c = clampN k := ⟨_, rfl⟩
  have EC : Kept (c = clampN k) := ⟨hc⟩
  have LC : Kept (c < 115792089237316195423570985008687907853269984665640564039457584007913129639936) := ⟨by rw [hc]; exact clampN_lt k⟩
  obtain ⟨r, hr⟩ : ∃ r, r = XN k u := ⟨_, rfl⟩
  have ER : Kept (r = XN k u) := ⟨hr⟩
  have LR : Kept (r < 115792089237316195423570985008687907853269984665640564039457584007913129639936) := ⟨by rw [hr]; exact XN_lt _ _⟩
  obtain ⟨x0, hx0⟩ : ∃ x, x = k % 256 := ⟨_, rfl⟩
  obtain ⟨x31, hx31⟩ : ∃ x, x = k / 452312848583266388373324160190187140051835877600158453279131187530910662656 % 256 := ⟨_, rfl⟩
  obtain ⟨y31, hy31⟩ : ∃ x, x = u / 452312848583266388373324160190187140051835877600158453279131187530910662656 % 256 := ⟨_, rfl⟩
  have q1 := xor_low ⟨x0, by omega⟩ ⟨lo % 8, Nat.mod_lt _ (by decide)⟩
  have q2 := and_high ⟨hi, hhi⟩
  have q3 := xor_high ⟨x31, by omega⟩ ⟨hi / 64, by omega⟩
  have q4 := xor_top ⟨y31, by omega⟩
  simp only at q1 q2 q3 q4
  obtain ⟨z0, hz0⟩ : ∃ z, z = Nat.xor x0 (lo % 8) := ⟨_, rfl⟩
  obtain ⟨z31, hz31⟩ : ∃ z, z = Nat.xor x31 (64 * (hi / 64)) := ⟨_, rfl⟩
  obtain ⟨t31, ht31⟩ : ∃ z, z = Nat.xor y31 128 := ⟨_, rfl⟩
  rw [← hz0] at q1
  rw [← hz31] at q3
  rw [← ht31] at q4
  clear hz0 hz31 ht31
  obtain ⟨l, hl⟩ : ∃ l, l = comp z0 (k / 256 % 1766847064778384329583297500742918515827483896875618958121606201292619776) z31 := ⟨_, rfl⟩
  obtain ⟨v, hv⟩ : ∃ v, v = comp (u % 256) (u / 256 % 1766847064778384329583297500742918515827483896875618958121606201292619776) t31 := ⟨_, rfl⟩
  have hm : ∀ n : Nat, n / 256 % 1766847064778384329583297500742918515827483896875618958121606201292619776 < 1766847064778384329583297500742918515827483896875618958121606201292619776 := fun n => Nat.mod_lt _ (by decide)
  have LL : Kept (l < 115792089237316195423570985008687907853269984665640564039457584007913129639936) := ⟨by rw [hl]; exact comp_lt _ _ _ q1.2.1 (hm k) q3.2.1⟩
  have LV : Kept (v < 115792089237316195423570985008687907853269984665640564039457584007913129639936) := ⟨by rw [hv]; exact comp_lt _ _ _ (by omega) (hm u) q4.2.1⟩
  have KL : Kept (clampN l = clampN k) := ⟨by
    rw [hl, clamp_comp _ _ _ q1.2.1 (hm k) q3.2.1, clamp_of k, q1.2.2, q3.2.2]
    congr 1 <;> omega⟩
  have hlv : lowN v = lowN u := by
    rw [hv, low_comp _ _ _ (by omega) (hm u) q4.2.1, q4.2.2]
    unfold lowN
    congr 1; omega
  have KV : Kept (XN l v = XN k u) := ⟨XN_ck k l u v KL.out hlv⟩
  have KC : Kept (XN c u = XN k u) := ⟨XN_ck k c u u (by rw [hc]; exact clamp_twice k) rfl⟩
  have gk0 : Kept ((numA k)[0]? = some (.int .u8 (x0 : Int))) := ⟨by rw [numA_get k 0 (by decide), hx0, Nat.pow_zero, Nat.div_one]⟩
  have gk31 : Kept ((numA k)[31]? = some (.int .u8 (x31 : Int))) := ⟨by rw [numA_get k 31 (by decide), hx31, show (256 : Nat) ^ 31 = 452312848583266388373324160190187140051835877600158453279131187530910662656 from by decide]⟩
  have gu31 : Kept ((numA u)[31]? = some (.int .u8 (y31 : Int))) := ⟨by rw [numA_get u 31 (by decide), hy31, show (256 : Nat) ^ 31 = 452312848583266388373324160190187140051835877600158453279131187530910662656 from by decide]⟩
  have KF8 : Kept (((numA k).setIfInBounds 0 (.int .u8 (z0 : Int))).setIfInBounds 31 (.int .u8 (z31 : Int)) = numA l) := ⟨by rw [numA_ends k _ _ lk q1.2.1 q3.2.1, hl]⟩
  have KF9 : Kept ((numA u).setIfInBounds 31 (.int .u8 (t31 : Int)) = numA v) := ⟨by rw [numA_top u _ lu q4.2.1, hv]⟩
  obtain ⟨c0, hc0⟩ : ∃ x, x = c % 256 := ⟨_, rfl⟩
  obtain ⟨c31, hc31⟩ : ∃ x, x = c / 452312848583266388373324160190187140051835877600158453279131187530910662656 % 256 := ⟨_, rfl⟩
  have Gc0 : Kept ((numA c)[0]? = some (.int .u8 (c0 : Int))) := ⟨by rw [numA_get c 0 (by decide), hc0, Nat.pow_zero, Nat.div_one]⟩
  have Gc31 : Kept ((numA c)[31]? = some (.int .u8 (c31 : Int))) := ⟨by rw [numA_get c 31 (by decide), hc31, show (256 : Nat) ^ 31 = 452312848583266388373324160190187140051835877600158453279131187530910662656 from by decide]⟩
  have KC0 : Kept (c0 % 8 = 0 ∧ c0 < 256 ∧ 64 ≤ c31 ∧ c31 < 128) := ⟨by
    have e0 : c % 256 = k % 256 - k % 8 := by rw [hc, clamp_of k]; exact comp_low _ _ _ (by omega)
    have e1 : c / 452312848583266388373324160190187140051835877600158453279131187530910662656 % 256 = k / 452312848583266388373324160190187140051835877600158453279131187530910662656 % 64 + 64 := by
      have := comp_top (k % 256 - k % 8) (k / 256 % 1766847064778384329583297500742918515827483896875618958121606201292619776) (k / 452312848583266388373324160190187140051835877600158453279131187530910662656 % 64 + 64) (by omega) (hm k) (by omega)
      rw [show (256 : Nat) ^ 31 = 452312848583266388373324160190187140051835877600158453279131187530910662656 from by decide] at this
      rw [hc, clamp_of k]; exact this
    rw [hc0, hc31, e0, e1]
    omega⟩
  have Q1 : Kept _ := ⟨q1.1⟩
  have Q2 : Kept _ := ⟨q2⟩
  have Q3 : Kept _ := ⟨q3.1⟩
  have Q4 : Kept _ := ⟨q4.1⟩
  clear lk lu hp hc hr hx0 hx31 hy31 q1 q2 q3 q4 hl hv hm hlv hc0 hc31
  go_enter Tryd.func9, Tryd.ntmps9
  go_wp2_with fail
  generalize hW : w.alloc (.cells (bitsA k u lo hi) 37) = W
  have AB0 : W.heap[w.heap.size]? = some (.cells (bitsA k u lo hi) 37 (0, 0)) := by subst hW; exact heap_new _ _
  have QB0 : Below w.heap.size w W := by subst hW; exact (Below.refl _ _).alloc (Nat.le_refl _) _
  clear hW
  refine (alive2_any _ (PrimeAt.below HP.out QB0)).mono ?_
  rintro e w1 ⟨rfl, hb1⟩
  have AB := (hb1.block _ (Array.getElem?_eq_some_iff.1 AB0).1).trans AB0
  have hlB : w.heap.size < w1.heap.size := (Array.getElem?_eq_some_iff.1 AB).1
  have QB1 := QB0.trans (hb1.mono QB0.size)
  clear AB0 QB0 hb1
  go_wp2_with fail
  refine region_made2 (W0 := w1) [(12, .pointer (some ⟨w.heap.size, 0, none⟩)), (13, .agg (numA k)), (14, .pointer (some ⟨w.heap.size, 32, none⟩)), (15, .agg (numA u)), (16, .pointer (some ⟨w.heap.size, 64, none⟩)), (17, .int .u8 (lo : Int)), (18, .pointer (some ⟨w.heap.size, 65, none⟩)), (19, .int .u8 (hi : Int)), (5, .int .u8 (lo : Int)), (6, .int .u8 (hi : Int))] 8 9 10 11 3 4 k u (by kernel_rfl) (by kernel_rfl) (by kernel_rfl) (by kernel_rfl) (by kernel_rfl) (by kernel_rfl) (by kernel_rfl) (by kernel_rfl) (by kernel_rfl) (by kernel_rfl) (by kernel_rfl) (by kernel_rfl) (Below.refl _ _) ⟨ok_val (by rfl) 12 (.pointer (some ⟨w.heap.size, 0, none⟩)) rfl (by kernel_rfl) (fun w => by kernel_rfl), ok_part (by rfl) 13 w.heap.size 0 k 37 (bitsA k u lo hi) (.tmp 12) rfl (by kernel_rfl) rfl (by kernel_rfl) (fun w hb => (hb.block _ hlB).trans AB) (fun j v hv => by rw [show 0 + j = 0 + j from rfl]; exact bits_k k u lo hi j v hv), ok_val (by rfl) 14 (.pointer (some ⟨w.heap.size, 32, none⟩)) rfl (by kernel_rfl) (fun w => by kernel_rfl), ok_part (by rfl) 15 w.heap.size 32 u 37 (bitsA k u lo hi) (.tmp 14) rfl (by kernel_rfl) rfl (by kernel_rfl) (fun w hb => (hb.block _ hlB).trans AB) (fun j v hv => by rw [show 32 + j = 32 + j from rfl]; exact bits_u k u lo hi j v hv), ok_val (by rfl) 16 (.pointer (some ⟨w.heap.size, 64, none⟩)) rfl (by kernel_rfl) (fun w => by kernel_rfl), ok_byte (by rfl) 17 w.heap.size 64 (.int .u8 (lo : Int)) (.tmp 16) rfl (by kernel_rfl) rfl (by kernel_rfl) (fun w hb => cell_row ((hb.block _ hlB).trans AB) (bits_lo k u lo hi)), ok_val (by rfl) 18 (.pointer (some ⟨w.heap.size, 65, none⟩)) rfl (by kernel_rfl) (fun w => by kernel_rfl), ok_byte (by rfl) 19 w.heap.size 65 (.int .u8 (hi : Int)) (.tmp 18) rfl (by kernel_rfl) rfl (by kernel_rfl) (fun w hb => cell_row ((hb.block _ hlB).trans AB) (bits_hi k u lo hi)), ok_new (by rfl) 3 rfl zero32 rfl makes_num, ok_new (by rfl) 4 rfl zero32 rfl makes_num, ok_put 8 k 3 13 (by rfl) rfl rfl (by kernel_rfl) (by rfl) (by kernel_rfl) (by kernel_rfl) (by kernel_rfl), ok_put 9 u 4 15 (by rfl) rfl rfl (by kernel_rfl) (by rfl) (by kernel_rfl) (by kernel_rfl) (by kernel_rfl), ok_val (by rfl) 5 (.int .u8 (lo : Int)) rfl (by kernel_rfl) (fun w => by kernel_rfl), ok_val (by rfl) 6 (.int .u8 (hi : Int)) rfl (by kernel_rfl) (fun w => by kernel_rfl), trivial⟩ ?_
  intro g3 g4 w2 hg3 hg4 hne3 A3' A4' hb2
  simp only [putAll, List.foldl_cons, List.foldl_nil, Act.put, List.setIfInBounds_toArray, List.set_cons_succ, List.set_cons_zero]
  have QB2 := QB1.trans (hb2.mono QB1.size)
  have hG3 : w.heap.size ≤ g3 := Nat.le_trans QB1.size hg3
  have hG4 : w.heap.size ≤ g4 := Nat.le_trans QB1.size hg4
  clear AB hlB QB1 hb2 hg3 hg4 hne3
  go_wp2_with (first | (refine wpList_get rfl (.tmp 3) rfl _ k rfl A3' ?_))
  have hcc := Clamp_any k w2 LK.out
  rw [← EC.out] at hcc
  refine hcc.mono ?_
  clear hcc
  rintro e w3 ⟨rfl, hb3⟩
  have A33 := A3'.under hb3
  have A43 := A4'.under hb3
  have QB3 := QB2.trans (hb3.mono QB2.size)
  clear A3' A4' QB2 hb3
  go_wp2_with (first | (refine wpList_put rfl (.tmp 7) (.tmp 21) rfl _ c rfl rfl (room_top _ _ rfl) ?_))
  intro w4 A7 P4
  have A3 := P4.at (A33.alloc _) (Nat.ne_of_lt A33.lt)
  have A4 := P4.at (A43.alloc _) (Nat.ne_of_lt A43.lt)
  have QB4 : Below w.heap.size w w4 := (QB3.alloc QB3.size _).trans (P4.below QB3.size)
  clear P4 A33 A43 QB3
  generalize w3.heap.size = g7 at *
  go_wp2_with fail
  refine region_made2 (W0 := w4) [(22, .agg (numA k)), (23, .agg (numA u))] 2 3 4 5 8 9 k u (by kernel_rfl) (by kernel_rfl) (by kernel_rfl) (by kernel_rfl) (by kernel_rfl) (by kernel_rfl) (by kernel_rfl) (by kernel_rfl) (by kernel_rfl) (by kernel_rfl) (by kernel_rfl) (by kernel_rfl) (Below.refl _ _) ⟨ok_get (by rfl) 22 g3 k (.tmp 3) rfl (by kernel_rfl) rfl (by kernel_rfl) (fun w hb => At.under A3 hb), ok_get (by rfl) 23 g4 u (.tmp 4) rfl (by kernel_rfl) rfl (by kernel_rfl) (fun w hb => At.under A4 hb), ok_new (by rfl) 8 rfl zero32 rfl makes_num, ok_new (by rfl) 9 rfl zero32 rfl makes_num, ok_put 2 k 8 22 (by rfl) rfl rfl (by kernel_rfl) (by rfl) (by kernel_rfl) (by kernel_rfl) (by kernel_rfl), ok_put 3 u 9 23 (by rfl) rfl rfl (by kernel_rfl) (by rfl) (by kernel_rfl) (by kernel_rfl) (by kernel_rfl), trivial⟩ ?_
  intro g8 g9 w5 hg8 hg9 hne8 A8 A9 hb5
  simp only [putAll, List.foldl_cons, List.foldl_nil, Act.put, List.setIfInBounds_toArray, List.set_cons_succ, List.set_cons_zero]
  have h83 : g3 ≠ g8 := Nat.ne_of_lt (Nat.lt_of_lt_of_le A3.lt hg8)
  have h84 : g4 ≠ g8 := Nat.ne_of_lt (Nat.lt_of_lt_of_le A4.lt hg8)
  have h87 : g7 ≠ g8 := Nat.ne_of_lt (Nat.lt_of_lt_of_le A7.lt hg8)
  have h93 : g3 ≠ g9 := Nat.ne_of_lt (Nat.lt_of_lt_of_le A3.lt hg9)
  have h94 : g4 ≠ g9 := Nat.ne_of_lt (Nat.lt_of_lt_of_le A4.lt hg9)
  have h97 : g7 ≠ g9 := Nat.ne_of_lt (Nat.lt_of_lt_of_le A7.lt hg9)
  have hG8 : w.heap.size ≤ g8 := Nat.le_trans QB4.size hg8
  have hG9 : w.heap.size ≤ g9 := Nat.le_trans QB4.size hg9
  have A35 := A3.under hb5
  have A45 := A4.under hb5
  have A75 := A7.under hb5
  have QB5 := QB4.trans (hb5.mono QB4.size)
  clear A3 A4 A7 QB4 hb5 hg8 hg9
  go_wp2_with (first | (refine wpList_byte rfl (.tmp 24) rfl _ 0 rfl (numA k) _ A8 gk0.out ?_) | (refine wpList_setbyte rfl (.tmp 29) (.tmp 28) rfl _ 0 _ rfl rfl (numA k) A8 (by rw [numA_size]; decide) ?_))
  have EZ : bits .xor .u8 (x0 : Int) ((lo : Int) % 8) = (z0 : Int) := by rw [show ((lo : Int) % 8) = ((lo % 8 : Nat) : Int) from by omega]; exact Q1.out
  rw [EZ]
  clear EZ
  intro w6 B8 P6
  have A36 := P6.at A35 h83
  have A46 := P6.at A45 h84
  have A76 := P6.at A75 h87
  have A96 := P6.at A9 (Ne.symm hne8)
  have QB6 := QB5.trans (P6.below hG8)
  clear A35 A45 A75 A9 A8 QB5 P6
  have gz31 : Kept (((numA k).setIfInBounds 0 (.int .u8 (z0 : Int)))[31]? = some (.int .u8 (x31 : Int))) := ⟨by rw [Array.getElem?_setIfInBounds_ne (by decide)]; exact gk31.out⟩
  go_wp2_with (first | (refine wpList_byte rfl (.tmp 30) rfl _ 31 rfl _ _ B8 gz31.out ?_) | (refine wpList_setbyte rfl (.tmp 35) (.tmp 34) rfl _ 31 _ rfl rfl _ B8 (by rw [Array.size_setIfInBounds, numA_size]; decide) ?_))
  rw [Q2.out, Q3.out, KF8.out]
  intro w7 B87 P7
  have A37 := P7.at A36 h83
  have A47 := P7.at A46 h84
  have A77 := P7.at A76 h87
  have A97 := P7.at A96 (Ne.symm hne8)
  have QB7 := QB6.trans (P7.below hG8)
  clear A36 A46 A76 A96 B8 QB6 P7
  go_wp2_with (first | (refine wpList_byte rfl (.tmp 36) rfl _ 31 rfl (numA u) _ A97 gu31.out ?_) | (refine wpList_setbyte rfl (.tmp 39) (.tmp 38) rfl _ 31 _ rfl rfl (numA u) A97 (by rw [numA_size]; decide) ?_))
  rw [Q4.out, KF9.out]
  intro wc F9 P8
  have F3 := P8.at A37 h93
  have F4 := P8.at A47 h94
  have F7 := P8.at A77 h97
  have F8 : At wc g8 l := P8.at B87 hne8
  have HQ : Kept _ := ⟨QB7.trans (P8.below hG9)⟩
  have HPW := PrimeAt.below HP.out HQ.out
  clear A37 A47 A77 B87 A97 QB7 P8 h83 h84 h87 h93 h94 h97 hne8 hG3 hG4 hG8 hG9
  go_wp2_with fail
  have lk := LK.out
  have lu := LU.out
  have lc := LC.out
  have ll := LL.out
  have lv := LV.out
  have lr := LR.out
  have H0a : (c0 : Int).tmod 8 = 0 := by rw [Int.tmod_eq_emod_of_nonneg (by omega)]; have := KC0.out.1; omega
  have H0b := KC0.out.2.1
  have hc1 := KC0.out.2.2.1
  have hc2 := KC0.out.2.2.2
  obtain ⟨v1, ev1⟩ : ∃ v1, v1 = clampN c := ⟨_, rfl⟩
  have lv1 : v1 < 115792089237316195423570985008687907853269984665640564039457584007913129639936 := by rw [ev1]; exact clampN_lt _
  obtain ⟨v2, ev2⟩ : ∃ v2, v2 = clampN l := ⟨_, rfl⟩
  have lv2 : v2 < 115792089237316195423570985008687907853269984665640564039457584007913129639936 := by rw [ev2]; exact clampN_lt _
  obtain ⟨v3, ev3⟩ : ∃ v3, v3 = XN l v := ⟨_, rfl⟩
  have lv3 : v3 < 115792089237316195423570985008687907853269984665640564039457584007913129639936 := by rw [ev3]; exact XN_lt _ _
  obtain ⟨v4, ev4⟩ : ∃ v4, v4 = XN c u := ⟨_, rfl⟩
  have lv4 : v4 < 115792089237316195423570985008687907853269984665640564039457584007913129639936 := by rw [ev4]; exact XN_lt _ _
  have C_ladder_Clamp_c : ∀ w', Below wc.heap.size wc w' → Calls Tryd.prog 30 [.agg (numA c)].toArray w' fun e w2 => e = .returned (.agg (numA v1)) ∧ Below wc.heap.size wc w2 := fun w' hb => by rw [ev1]; exact (Clamp_any c w' lc).mono fun e w2 hh => ⟨hh.1, hb.trans (hh.2.mono hb.size)⟩
  have C_ladder_Clamp_l : ∀ w', Below wc.heap.size wc w' → Calls Tryd.prog 30 [.agg (numA l)].toArray w' fun e w2 => e = .returned (.agg (numA v2)) ∧ Below wc.heap.size wc w2 := fun w' hb => by rw [ev2]; exact (Clamp_any l w' ll).mono fun e w2 hh => ⟨hh.1, hb.trans (hh.2.mono hb.size)⟩
  have C_ladder_X_k_u : ∀ w', Below wc.heap.size wc w' → Calls Tryd.prog 29 [.agg (numA k), .agg (numA u)].toArray w' fun e w2 => e = .returned (.agg (numA r)) ∧ Below wc.heap.size wc w2 := fun w' hb => by rw [ER.out]; exact (X_any k u w' lk lu (PrimeAt.below HPW hb)).mono fun e w2 hh => ⟨hh.1, hb.trans (hh.2.mono hb.size)⟩
  have C_ladder_X_l_v : ∀ w', Below wc.heap.size wc w' → Calls Tryd.prog 29 [.agg (numA l), .agg (numA v)].toArray w' fun e w2 => e = .returned (.agg (numA v3)) ∧ Below wc.heap.size wc w2 := fun w' hb => by rw [ev3]; exact (X_any l v w' ll lv (PrimeAt.below HPW hb)).mono fun e w2 hh => ⟨hh.1, hb.trans (hh.2.mono hb.size)⟩
  have C_ladder_X_c_u : ∀ w', Below wc.heap.size wc w' → Calls Tryd.prog 29 [.agg (numA c), .agg (numA u)].toArray w' fun e w2 => e = .returned (.agg (numA v4)) ∧ Below wc.heap.size wc w2 := fun w' hb => by rw [ev4]; exact (X_any c u w' lc lu (PrimeAt.below HPW hb)).mono fun e w2 hh => ⟨hh.1, hb.trans (hh.2.mono hb.size)⟩
  refine wp_region_quiet (C := fun w' => Below wc.heap.size wc w') (by kernel_rfl) (by kernel_rfl) (Below.drew (Below.refl _ _)) ?_
  refine q_load (by kernel_rfl) 22 _ (g7) 22 (numA c) (0, 0) _ rfl (by kernel_rfl) (fun w' hb => At.under F7 hb) Tryd.underlying22 rfl (by rw [numA_size]; kernel_rfl) ?_
  simp only [Act.put, List.setIfInBounds_toArray, List.set_cons_succ, List.set_cons_zero]
  refine q_call (by kernel_rfl) 30 Tryd.f30 _ _ _ [.agg (numA c)] (.agg (numA v1)) rfl (by kernel_rfl) Tryd.func30 (by kernel_rfl) rfl C_ladder_Clamp_c ?_
  simp only [Act.put, List.setIfInBounds_toArray, List.set_cons_succ, List.set_cons_zero]
  refine q_load (by kernel_rfl) 22 _ (g7) 22 (numA c) (0, 0) _ rfl (by kernel_rfl) (fun w' hb => At.under F7 hb) Tryd.underlying22 rfl (by rw [numA_size]; kernel_rfl) ?_
  simp only [Act.put, List.setIfInBounds_toArray, List.set_cons_succ, List.set_cons_zero]
  refine q_val (by kernel_rfl) (.bool true) (fun w' => (run_eql_num (t := 22) (e := 5) v1 c rfl (by kernel_rfl) (by kernel_rfl) lv1 lc Tryd.underlying22 Tryd.underlying5 sz5 ag5 eqG w').trans (by rw [show decide (v1 = c) = true from decide_eq_true (by rw [ev1, EC.out]; exact clamp_twice k)])) ?_
  simp only [Act.put, List.setIfInBounds_toArray, List.set_cons_succ, List.set_cons_zero]
  refine q_val (by kernel_rfl) (.bool true) (fun w' => by kernel_rfl) ?_
  simp only [Act.put, List.setIfInBounds_toArray, List.set_cons_succ, List.set_cons_zero]
  refine q_val (by kernel_rfl) (.pointer (some ⟨g7, 0, none⟩)) (fun w' => by kernel_rfl) ?_
  simp only [Act.put, List.setIfInBounds_toArray, List.set_cons_succ, List.set_cons_zero]
  refine q_load1 (by kernel_rfl) 5 _ g7 0 (.int .u8 (c0 : Int)) rfl (by kernel_rfl) (fun w' hb => cell_row (At.under F7 hb) Gc0.out) ag5 ?_
  simp only [Act.put, List.setIfInBounds_toArray, List.set_cons_succ, List.set_cons_zero]
  refine q_val (by kernel_rfl) (.int .u8 0) (fun w' => by simp [execOp, Act.eval, go_sem, H0a, H0b]) ?_
  simp only [Act.put, List.setIfInBounds_toArray, List.set_cons_succ, List.set_cons_zero]
  refine q_val (by kernel_rfl) (.bool true) (fun w' => by kernel_rfl) ?_
  simp only [Act.put, List.setIfInBounds_toArray, List.set_cons_succ, List.set_cons_zero]
  refine q_val (by kernel_rfl) (.bool true) (fun w' => by kernel_rfl) ?_
  simp only [Act.put, List.setIfInBounds_toArray, List.set_cons_succ, List.set_cons_zero]
  refine q_val (by kernel_rfl) (.bool true) (fun w' => by kernel_rfl) ?_
  simp only [Act.put, List.setIfInBounds_toArray, List.set_cons_succ, List.set_cons_zero]
  refine q_val (by kernel_rfl) (.pointer (some ⟨g7, 31, none⟩)) (fun w' => by kernel_rfl) ?_
  simp only [Act.put, List.setIfInBounds_toArray, List.set_cons_succ, List.set_cons_zero]
  refine q_load1 (by kernel_rfl) 5 _ g7 31 (.int .u8 (c31 : Int)) rfl (by kernel_rfl) (fun w' hb => cell_row (At.under F7 hb) Gc31.out) ag5 ?_
  simp only [Act.put, List.setIfInBounds_toArray, List.set_cons_succ, List.set_cons_zero]
  refine q_val (by kernel_rfl) (.bool true) (fun w' => by simp [execOp, Act.eval, go_sem]; omega) ?_
  simp only [Act.put, List.setIfInBounds_toArray, List.set_cons_succ, List.set_cons_zero]
  refine q_val (by kernel_rfl) (.bool true) (fun w' => by kernel_rfl) ?_
  simp only [Act.put, List.setIfInBounds_toArray, List.set_cons_succ, List.set_cons_zero]
  refine q_val (by kernel_rfl) (.bool true) (fun w' => by kernel_rfl) ?_
  simp only [Act.put, List.setIfInBounds_toArray, List.set_cons_succ, List.set_cons_zero]
  refine q_val (by kernel_rfl) (.pointer (some ⟨g7, 31, none⟩)) (fun w' => by kernel_rfl) ?_
  simp only [Act.put, List.setIfInBounds_toArray, List.set_cons_succ, List.set_cons_zero]
  refine q_load1 (by kernel_rfl) 5 _ g7 31 (.int .u8 (c31 : Int)) rfl (by kernel_rfl) (fun w' hb => cell_row (At.under F7 hb) Gc31.out) ag5 ?_
  simp only [Act.put, List.setIfInBounds_toArray, List.set_cons_succ, List.set_cons_zero]
  refine q_val (by kernel_rfl) (.bool true) (fun w' => by simp [execOp, Act.eval, go_sem]; omega) ?_
  simp only [Act.put, List.setIfInBounds_toArray, List.set_cons_succ, List.set_cons_zero]
  refine q_val (by kernel_rfl) (.bool true) (fun w' => by kernel_rfl) ?_
  simp only [Act.put, List.setIfInBounds_toArray, List.set_cons_succ, List.set_cons_zero]
  refine q_val (by kernel_rfl) (.bool true) (fun w' => by kernel_rfl) ?_
  simp only [Act.put, List.setIfInBounds_toArray, List.set_cons_succ, List.set_cons_zero]
  refine q_load (by kernel_rfl) 22 _ (g8) 22 (numA l) (0, 0) _ rfl (by kernel_rfl) (fun w' hb => At.under F8 hb) Tryd.underlying22 rfl (by rw [numA_size]; kernel_rfl) ?_
  simp only [Act.put, List.setIfInBounds_toArray, List.set_cons_succ, List.set_cons_zero]
  refine q_call (by kernel_rfl) 30 Tryd.f30 _ _ _ [.agg (numA l)] (.agg (numA v2)) rfl (by kernel_rfl) Tryd.func30 (by kernel_rfl) rfl C_ladder_Clamp_l ?_
  simp only [Act.put, List.setIfInBounds_toArray, List.set_cons_succ, List.set_cons_zero]
  refine q_load (by kernel_rfl) 22 _ (g7) 22 (numA c) (0, 0) _ rfl (by kernel_rfl) (fun w' hb => At.under F7 hb) Tryd.underlying22 rfl (by rw [numA_size]; kernel_rfl) ?_
  simp only [Act.put, List.setIfInBounds_toArray, List.set_cons_succ, List.set_cons_zero]
  refine q_val (by kernel_rfl) (.bool true) (fun w' => (run_eql_num (t := 22) (e := 5) v2 c rfl (by kernel_rfl) (by kernel_rfl) lv2 lc Tryd.underlying22 Tryd.underlying5 sz5 ag5 eqG w').trans (by rw [show decide (v2 = c) = true from decide_eq_true (by rw [ev2, EC.out]; exact KL.out)])) ?_
  simp only [Act.put, List.setIfInBounds_toArray, List.set_cons_succ, List.set_cons_zero]
  refine q_val (by kernel_rfl) (.bool true) (fun w' => by kernel_rfl) ?_
  simp only [Act.put, List.setIfInBounds_toArray, List.set_cons_succ, List.set_cons_zero]
  refine q_val (by kernel_rfl) (.bool true) (fun w' => by kernel_rfl) ?_
  simp only [Act.put, List.setIfInBounds_toArray, List.set_cons_succ, List.set_cons_zero]
  refine q_load (by kernel_rfl) 22 _ (g3) 22 (numA k) (0, 0) _ rfl (by kernel_rfl) (fun w' hb => At.under F3 hb) Tryd.underlying22 rfl (by rw [numA_size]; kernel_rfl) ?_
  simp only [Act.put, List.setIfInBounds_toArray, List.set_cons_succ, List.set_cons_zero]
  refine q_load (by kernel_rfl) 22 _ (g4) 22 (numA u) (0, 0) _ rfl (by kernel_rfl) (fun w' hb => At.under F4 hb) Tryd.underlying22 rfl (by rw [numA_size]; kernel_rfl) ?_
  simp only [Act.put, List.setIfInBounds_toArray, List.set_cons_succ, List.set_cons_zero]
  refine q_call (by kernel_rfl) 29 Tryd.f29 _ _ _ [.agg (numA k), .agg (numA u)] (.agg (numA r)) rfl (by kernel_rfl) Tryd.func29 (by kernel_rfl) rfl C_ladder_X_k_u ?_
  simp only [Act.put, List.setIfInBounds_toArray, List.set_cons_succ, List.set_cons_zero]
  refine q_load (by kernel_rfl) 22 _ (g8) 22 (numA l) (0, 0) _ rfl (by kernel_rfl) (fun w' hb => At.under F8 hb) Tryd.underlying22 rfl (by rw [numA_size]; kernel_rfl) ?_
  simp only [Act.put, List.setIfInBounds_toArray, List.set_cons_succ, List.set_cons_zero]
  refine q_load (by kernel_rfl) 22 _ (g9) 22 (numA v) (0, 0) _ rfl (by kernel_rfl) (fun w' hb => At.under F9 hb) Tryd.underlying22 rfl (by rw [numA_size]; kernel_rfl) ?_
  simp only [Act.put, List.setIfInBounds_toArray, List.set_cons_succ, List.set_cons_zero]
  refine q_call (by kernel_rfl) 29 Tryd.f29 _ _ _ [.agg (numA l), .agg (numA v)] (.agg (numA v3)) rfl (by kernel_rfl) Tryd.func29 (by kernel_rfl) rfl C_ladder_X_l_v ?_
  simp only [Act.put, List.setIfInBounds_toArray, List.set_cons_succ, List.set_cons_zero]
  refine q_val (by kernel_rfl) (.bool true) (fun w' => (run_eql_num (t := 22) (e := 5) r v3 rfl (by kernel_rfl) (by kernel_rfl) lr lv3 Tryd.underlying22 Tryd.underlying5 sz5 ag5 eqG w').trans (by rw [show decide (r = v3) = true from decide_eq_true (by rw [ER.out, ev3]; exact KV.out.symm)])) ?_
  simp only [Act.put, List.setIfInBounds_toArray, List.set_cons_succ, List.set_cons_zero]
  refine q_val (by kernel_rfl) (.bool true) (fun w' => by kernel_rfl) ?_
  simp only [Act.put, List.setIfInBounds_toArray, List.set_cons_succ, List.set_cons_zero]
  refine q_val (by kernel_rfl) (.bool true) (fun w' => by kernel_rfl) ?_
  simp only [Act.put, List.setIfInBounds_toArray, List.set_cons_succ, List.set_cons_zero]
  refine q_load (by kernel_rfl) 22 _ (g7) 22 (numA c) (0, 0) _ rfl (by kernel_rfl) (fun w' hb => At.under F7 hb) Tryd.underlying22 rfl (by rw [numA_size]; kernel_rfl) ?_
  simp only [Act.put, List.setIfInBounds_toArray, List.set_cons_succ, List.set_cons_zero]
  refine q_load (by kernel_rfl) 22 _ (g4) 22 (numA u) (0, 0) _ rfl (by kernel_rfl) (fun w' hb => At.under F4 hb) Tryd.underlying22 rfl (by rw [numA_size]; kernel_rfl) ?_
  simp only [Act.put, List.setIfInBounds_toArray, List.set_cons_succ, List.set_cons_zero]
  refine q_call (by kernel_rfl) 29 Tryd.f29 _ _ _ [.agg (numA c), .agg (numA u)] (.agg (numA v4)) rfl (by kernel_rfl) Tryd.func29 (by kernel_rfl) rfl C_ladder_X_c_u ?_
  simp only [Act.put, List.setIfInBounds_toArray, List.set_cons_succ, List.set_cons_zero]
  refine q_load (by kernel_rfl) 22 _ (g3) 22 (numA k) (0, 0) _ rfl (by kernel_rfl) (fun w' hb => At.under F3 hb) Tryd.underlying22 rfl (by rw [numA_size]; kernel_rfl) ?_
  simp only [Act.put, List.setIfInBounds_toArray, List.set_cons_succ, List.set_cons_zero]
  refine q_load (by kernel_rfl) 22 _ (g4) 22 (numA u) (0, 0) _ rfl (by kernel_rfl) (fun w' hb => At.under F4 hb) Tryd.underlying22 rfl (by rw [numA_size]; kernel_rfl) ?_
  simp only [Act.put, List.setIfInBounds_toArray, List.set_cons_succ, List.set_cons_zero]
  refine q_call (by kernel_rfl) 29 Tryd.f29 _ _ _ [.agg (numA k), .agg (numA u)] (.agg (numA r)) rfl (by kernel_rfl) Tryd.func29 (by kernel_rfl) rfl C_ladder_X_k_u ?_
  simp only [Act.put, List.setIfInBounds_toArray, List.set_cons_succ, List.set_cons_zero]
  refine q_val (by kernel_rfl) (.bool true) (fun w' => (run_eql_num (t := 22) (e := 5) v4 r rfl (by kernel_rfl) (by kernel_rfl) lv4 lr Tryd.underlying22 Tryd.underlying5 sz5 ag5 eqG w').trans (by rw [show decide (v4 = r) = true from decide_eq_true (by rw [ev4, ER.out]; exact KC.out)])) ?_
  simp only [Act.put, List.setIfInBounds_toArray, List.set_cons_succ, List.set_cons_zero]
  refine q_val (by kernel_rfl) (.bool true) (fun w' => by kernel_rfl) ?_
  simp only [Act.put, List.setIfInBounds_toArray, List.set_cons_succ, List.set_cons_zero]
  refine q_val (by kernel_rfl) (.bool true) (fun w' => by kernel_rfl) ?_
  simp only [Act.put, List.setIfInBounds_toArray, List.set_cons_succ, List.set_cons_zero]
  refine wpQuiet_nil ?_
  intro w9 h9
  have H9 : Kept _ := ⟨h9⟩
  clear h9 F3 F4 F7 F8 F9 HPW lk lu lc ll lv lr H0a H0b hc1 hc2 C_ladder_Clamp_c C_ladder_Clamp_l C_ladder_X_k_u C_ladder_X_l_v C_ladder_X_c_u ev1 ev2 ev3 ev4 lv1 lv2 lv3 lv4
  go_wp2_with fail
  go_ret
  exact ⟨rfl, HQ.out.trans (Below.mono H9.out HQ.out.size)⟩
end Go.Proofs.YtjagicnkfmndeaaDoor
