/-
  Bytes of a number that are changed: a secret as it is used, a place, a bit.
-/
import Derived.Test.YtanfjkmkfcekmaaDoorD2
namespace Go.Proofs.YtanfjkmkfcekmaaDoor
open Go Go.RowKit
set_option linter.unusedVariables false
set_option linter.unusedSimpArgs false

/-- A number of its lowest byte, what lies between, and its highest byte. -/
def comp (d m h : Nat) : Nat := d + 256 * (m + 1766847064778384329583297500742918515827483896875618958121606201292619776 * h)
theorem p30 : (256 : Nat) ^ 30 = 1766847064778384329583297500742918515827483896875618958121606201292619776 := by decide
theorem comp_of (n : Nat) (hn : n < 115792089237316195423570985008687907853269984665640564039457584007913129639936) : n = comp (n % 256) (n / 256 % 1766847064778384329583297500742918515827483896875618958121606201292619776) (n / 452312848583266388373324160190187140051835877600158453279131187530910662656 % 256) := by unfold comp; omega
theorem comp_low (d m h : Nat) (hd : d < 256) : comp d m h % 256 = d := by unfold comp; omega
theorem comp_mid (d m h j : Nat) (hd : d < 256) (hj : j < 30) : comp d m h / 256 ^ (j + 1) % 256 = m / 256 ^ j % 256 := by
  have e1 : comp d m h / 256 = m + 256 ^ 30 * h := by unfold comp; rw [p30]; omega
  have e2 : (256 : Nat) ^ 30 = 256 ^ j * (256 * 256 ^ (29 - j)) := by rw [← Nat.pow_succ', ← Nat.pow_add]; congr 1; omega
  rw [Nat.pow_succ, Nat.mul_comm, ← Nat.div_div_eq_div_mul, e1, e2, Nat.mul_assoc, Nat.mul_assoc, Nat.add_mul_div_left _ _ (Nat.pow_pos (by decide))]
  rw [Nat.add_mod, Nat.mul_mod_right, Nat.add_zero, Nat.mod_mod]
theorem comp_top (d m h : Nat) (hd : d < 256) (hm : m < 1766847064778384329583297500742918515827483896875618958121606201292619776) (hh : h < 256) : comp d m h / 256 ^ 31 % 256 = h := by
  have e : (256 : Nat) ^ 31 = 452312848583266388373324160190187140051835877600158453279131187530910662656 := by decide
  rw [e]; unfold comp; omega
theorem comp_lt (d m h : Nat) (hd : d < 256) (hm : m < 1766847064778384329583297500742918515827483896875618958121606201292619776) (hh : h < 256) : comp d m h < 115792089237316195423570985008687907853269984665640564039457584007913129639936 := by unfold comp; omega

/-- A number with another lowest and another highest byte. -/
theorem numA_ends (n d h : Nat) (hn : n < 115792089237316195423570985008687907853269984665640564039457584007913129639936) (hd : d < 256) (hh : h < 256) :
    ((numA n).setIfInBounds 0 (.int .u8 (d : Int))).setIfInBounds 31 (.int .u8 (h : Int)) = numA (comp d (n / 256 % 1766847064778384329583297500742918515827483896875618958121606201292619776) h) := by
  apply Array.ext_getElem?
  intro j
  by_cases hj : j < 32
  · rw [numA_get _ j hj]
    by_cases h31 : j = 31
    · subst h31
      rw [Array.getElem?_setIfInBounds_self_of_lt (by simp [numA_size]), comp_top _ _ _ hd (Nat.mod_lt _ (by decide)) hh]
    · rw [Array.getElem?_setIfInBounds_ne (Ne.symm h31)]
      by_cases h0 : j = 0
      · subst h0
        rw [Array.getElem?_setIfInBounds_self_of_lt (by simp [numA_size]), Nat.pow_zero, Nat.div_one, comp_low _ _ _ hd]
      · rw [Array.getElem?_setIfInBounds_ne (Ne.symm h0), numA_get _ j hj]
        obtain ⟨k, rfl⟩ : ∃ k, j = k + 1 := ⟨j - 1, by omega⟩
        rw [comp_mid _ _ _ k hd (by omega)]
        conv => lhs; rw [comp_of n hn]
        rw [comp_mid _ _ _ k (Nat.mod_lt _ (by decide)) (by omega)]
  · rw [Array.getElem?_eq_none (by simp [numA_size]; omega), Array.getElem?_eq_none (by rw [numA_size]; omega)]
theorem numA_top (n h : Nat) (hn : n < 115792089237316195423570985008687907853269984665640564039457584007913129639936) (hh : h < 256) :
    (numA n).setIfInBounds 31 (.int .u8 (h : Int)) = numA (comp (n % 256) (n / 256 % 1766847064778384329583297500742918515827483896875618958121606201292619776) h) := by
  rw [← numA_ends n (n % 256) h hn (Nat.mod_lt _ (by decide)) hh]
  congr 1
  apply Array.ext_getElem?
  intro j
  by_cases h0 : j = 0
  · subst h0
    rw [Array.getElem?_setIfInBounds_self_of_lt (by simp [numA_size]), numA_get n 0 (by decide), Nat.pow_zero, Nat.div_one]
  · rw [Array.getElem?_setIfInBounds_ne (Ne.symm h0)]

/-- A secret as it is used. -/
def clampN (n : Nat) : Nat := comp (n % 256 - n % 8) (n / 256 % 1766847064778384329583297500742918515827483896875618958121606201292619776) (n / 452312848583266388373324160190187140051835877600158453279131187530910662656 % 64 + 64)
theorem clampN_lt (n : Nat) : clampN n < 115792089237316195423570985008687907853269984665640564039457584007913129639936 := comp_lt _ _ _ (by omega) (Nat.mod_lt _ (by decide)) (by omega)
/-- A point without its highest bit. -/
def lowN (n : Nat) : Nat := comp (n % 256) (n / 256 % 1766847064778384329583297500742918515827483896875618958121606201292619776) (n / 452312848583266388373324160190187140051835877600158453279131187530910662656 % 128)
theorem lowN_lt (n : Nat) : lowN n < 115792089237316195423570985008687907853269984665640564039457584007913129639936 := comp_lt _ _ _ (by omega) (Nat.mod_lt _ (by decide)) (by omega)

theorem byte_bits : ∀ x : Fin 256, bits .andNot .u8 (x.val : Int) 7 = ((x.val - x.val % 8 : Nat) : Int) ∧ bits .or .u8 (bits .andNot .u8 (x.val : Int) 128) 64 = ((x.val % 64 + 64 : Nat) : Int) ∧ bits .andNot .u8 (x.val : Int) 128 = ((x.val % 128 : Nat) : Int) := by decide +kernel

/-- One byte of a block is read. -/
theorem wpList_byte {ops : Array Oper} {rest : List Oper} {o : Oper} {a : Act} {w : World} {Q : Exit → Act → World → Prop} (hgd : o.guard = none) (x : Operand) (ho : o.op = .load 5 x) (g k : Nat) (hx : a.eval x = .pointer (some ⟨g, k, none⟩)) (A : Array Value) (v : Value)
    (hg : w.heap[g]? = some (.cells A 22 (0, 0))) (hv : A[k]? = some v) (h : wpList Tryd.prog ops Q rest (a.put o.dst v) w) : wpList Tryd.prog ops Q (o :: rest) a w :=
  wpList_plain hgd fun K hK => by
    have hc : w.cell? ⟨g, k, none⟩ = some v := cell_row hg hv
    have hrun : (execOp a.eval o).run Tryd.prog w = .ok (.value v) w := by
      unfold execOp
      simp only [ho, hx, Instr.loadAt, Instr.sureAddr, Sem.run_bind, Sem.run_pure, Result.andThen_ok]
      simp [loadVar, ag5, go_sem, hc]
    unfold Oper.wp
    rw [hrun]
    exact hK _ _ h
/-- One byte of a block is written. -/
theorem wpList_setbyte {ops : Array Oper} {rest : List Oper} {o : Oper} {a : Act} {w : World} {Q : Exit → Act → World → Prop} (hgd : o.guard = none) (x y : Operand) (ho : o.op = .store 5 x y) (g k : Nat) (v : Int) (hx : a.eval x = .pointer (some ⟨g, k, none⟩)) (hy : a.eval y = .int .u8 v) (A : Array Value)
    (hg : w.heap[g]? = some (.cells A 22 (0, 0))) (hk : k < A.size) (h : ∀ w', w'.heap[g]? = some (.cells (A.setIfInBounds k (.int .u8 v)) 22 (0, 0)) → Put w w' g → wpList Tryd.prog ops Q rest (a.put o.dst undef) w') : wpList Tryd.prog ops Q (o :: rest) a w :=
  wpList_plain hgd fun K hK => by
    have hc : w.cell? ⟨g, k, none⟩ = some A[k] := cell_row hg (Array.getElem?_eq_getElem hk)
    have hf : w.frozen? ⟨g, k, none⟩ = false := frozen_of_row w g k A _ hg
    have hrun : (execOp a.eval o).run Tryd.prog w = .ok .skip (w.setCell ⟨g, k, none⟩ (.int .u8 v)) := by
      unfold execOp
      simp only [ho, hx, hy, Instr.storeAt, Instr.sureAddr, Sem.run_bind, Sem.run_pure, Result.andThen_ok]
      simp [storeVar, storeCells, sizeOf, sz5, go_sem, hc, hf, Value.cells]
      try rfl
    unfold Oper.wp
    rw [hrun]
    exact hK _ _ (h _ (heap_setCell_same _ _ _ _ _ _ hg) ⟨⟨rfl, rfl, rfl, by simp, fun j _ hj => heap_setCell_other w ⟨g, k, none⟩ j _ (fun e => hj (by rw [e]))⟩, by simp⟩)

set_option maxHeartbeats 400000 in
theorem Clamp_any (n : Nat) (w : World) (hn : n < 115792089237316195423570985008687907853269984665640564039457584007913129639936) :
    Calls Tryd.prog 26 #[.agg (numA n)] w fun e w' => e = .returned (.agg (numA (clampN n))) ∧ Below w.heap.size w w' := by
  have L : Kept _ := ⟨hn⟩
  obtain ⟨r, hr⟩ : ∃ r, r = clampN n := ⟨_, rfl⟩
  rw [← hr]
  have E : Kept _ := ⟨hr⟩
  clear hn hr
  have A0 : At ((w.alloc (.cells (numA n) 22)).alloc (.cells #[.int .u8 0, .int .u8 0, .int .u8 0, .int .u8 0, .int .u8 0, .int .u8 0, .int .u8 0, .int .u8 0, .int .u8 0, .int .u8 0, .int .u8 0, .int .u8 0, .int .u8 0, .int .u8 0, .int .u8 0, .int .u8 0, .int .u8 0, .int .u8 0, .int .u8 0, .int .u8 0, .int .u8 0, .int .u8 0, .int .u8 0, .int .u8 0, .int .u8 0, .int .u8 0, .int .u8 0, .int .u8 0, .int .u8 0, .int .u8 0, .int .u8 0, .int .u8 0] 22)) w.heap.size n := (at_new w n).alloc _
  have R1 : Room ((w.alloc (.cells (numA n) 22)).alloc (.cells #[.int .u8 0, .int .u8 0, .int .u8 0, .int .u8 0, .int .u8 0, .int .u8 0, .int .u8 0, .int .u8 0, .int .u8 0, .int .u8 0, .int .u8 0, .int .u8 0, .int .u8 0, .int .u8 0, .int .u8 0, .int .u8 0, .int .u8 0, .int .u8 0, .int .u8 0, .int .u8 0, .int .u8 0, .int .u8 0, .int .u8 0, .int .u8 0, .int .u8 0, .int .u8 0, .int .u8 0, .int .u8 0, .int .u8 0, .int .u8 0, .int .u8 0, .int .u8 0] 22)) (w.heap.size + 1) := room_top _ _ (by simp)
  have QB : Below w.heap.size w ((w.alloc (.cells (numA n) 22)).alloc (.cells #[.int .u8 0, .int .u8 0, .int .u8 0, .int .u8 0, .int .u8 0, .int .u8 0, .int .u8 0, .int .u8 0, .int .u8 0, .int .u8 0, .int .u8 0, .int .u8 0, .int .u8 0, .int .u8 0, .int .u8 0, .int .u8 0, .int .u8 0, .int .u8 0, .int .u8 0, .int .u8 0, .int .u8 0, .int .u8 0, .int .u8 0, .int .u8 0, .int .u8 0, .int .u8 0, .int .u8 0, .int .u8 0, .int .u8 0, .int .u8 0, .int .u8 0, .int .u8 0] 22)) := ((Below.refl _ _).alloc (Nat.le_refl _) _).alloc (by simp) _
  obtain ⟨x, hx⟩ : ∃ x, x = n % 256 := ⟨_, rfl⟩
  obtain ⟨y, hy⟩ : ∃ y, y = n / 452312848583266388373324160190187140051835877600158453279131187530910662656 % 256 := ⟨_, rfl⟩
  have g0 : (numA n)[0]? = some (.int .u8 (x : Int)) := by rw [numA_get n 0 (by decide), hx, Nat.pow_zero, Nat.div_one]
  have g31 : (numA n)[31]? = some (.int .u8 (y : Int)) := by rw [numA_get n 31 (by decide), hy, show (256 : Nat) ^ 31 = 452312848583266388373324160190187140051835877600158453279131187530910662656 from by decide]
  have b0 := (byte_bits ⟨x, by omega⟩).1
  have b31 := (byte_bits ⟨y, by omega⟩).2.1
  simp only at b0 b31
  have KF : Kept (((numA n).setIfInBounds 0 (.int .u8 ((x - x % 8 : Nat) : Int))).setIfInBounds 31 (.int .u8 ((y % 64 + 64 : Nat) : Int)) = numA r) := ⟨by
    rw [numA_ends n _ _ L.out (by omega) (by omega), E.out]
    unfold clampN
    congr 2 <;> omega⟩
  have B0 : Kept _ := ⟨b0⟩
  have B31 : Kept _ := ⟨b31⟩
  clear hx hy b0 b31
  go_enter Tryd.func26, Tryd.ntmps26
  go_wp2_with (first | (refine wpList_byte rfl (.tmp 3) rfl _ 0 rfl (numA n) _ A0 g0 ?_) | (refine wpList_setbyte rfl (.tmp 6) (.tmp 5) rfl _ 0 _ rfl rfl (numA n) A0 (by rw [numA_size]; decide) ?_))
  intro w1 A1 P1
  rw [B0.out] at A1
  have R2 := P1.room R1 (by omega)
  have QC := QB.trans (P1.below (Nat.le_refl _))
  have g31' : ((numA n).setIfInBounds 0 (.int .u8 ((x - x % 8 : Nat) : Int)))[31]? = some (.int .u8 (y : Int)) := by rw [Array.getElem?_setIfInBounds_ne (by decide)]; exact g31
  clear A0 R1 QB P1 g0 g31
  go_wp2_with (first | (refine wpList_byte rfl (.tmp 7) rfl _ 31 rfl _ _ A1 g31' ?_) | (refine wpList_setbyte rfl (.tmp 11) (.tmp 10) rfl _ 31 _ rfl rfl _ A1 (by simp [numA_size]) ?_))
  intro w2 A2 P2
  rw [B31.out, KF.out] at A2
  have R3 := P2.room R2 (by omega)
  have QD := QC.trans (P2.below (Nat.le_refl _))
  clear A1 R2 QC P2
  go_wp2_with (first | (refine wpList_get rfl (.tmp 1) rfl _ r rfl A2 ?_) | (refine wpList_put rfl (.tmp 2) (.tmp 12) rfl _ r rfl rfl R3 ?_))
  intro w3 A3 P3
  go_wp2
  exact bodyPost_ret (v := .agg (numA r)) (ret_num (Q := fun _ _ => True) Tryd.results26 _ [] _ _ r rfl A3) rfl ⟨rfl, QD.trans (P3.below (by omega))⟩

set_option maxHeartbeats 400000 in
theorem place_any (n : Nat) (w : World) (hn : n < 115792089237316195423570985008687907853269984665640564039457584007913129639936) :
    Calls Tryd.prog 43 #[.agg (numA n)] w fun e w' => e = .returned (.agg (numA (lowN n % 57896044618658097711785492504343953926634992332820282019728792003956564819949))) ∧ Below w.heap.size w w' := by
  have L : Kept _ := ⟨hn⟩
  obtain ⟨q, hq⟩ : ∃ q, q = lowN n := ⟨_, rfl⟩
  obtain ⟨r, hr⟩ : ∃ r, r = q % 57896044618658097711785492504343953926634992332820282019728792003956564819949 := ⟨_, rfl⟩
  rw [← hq, ← hr]
  have E : Kept (q = lowN n) := ⟨hq⟩
  have ER : Kept (r = q % 57896044618658097711785492504343953926634992332820282019728792003956564819949) := ⟨hr⟩
  have LQ : Kept (q < 115792089237316195423570985008687907853269984665640564039457584007913129639936) := ⟨by rw [hq]; exact lowN_lt n⟩
  clear hn hr hq
  have A0 : At ((w.alloc (.cells (numA n) 22)).alloc (.cells #[.int .u8 0, .int .u8 0, .int .u8 0, .int .u8 0, .int .u8 0, .int .u8 0, .int .u8 0, .int .u8 0, .int .u8 0, .int .u8 0, .int .u8 0, .int .u8 0, .int .u8 0, .int .u8 0, .int .u8 0, .int .u8 0, .int .u8 0, .int .u8 0, .int .u8 0, .int .u8 0, .int .u8 0, .int .u8 0, .int .u8 0, .int .u8 0, .int .u8 0, .int .u8 0, .int .u8 0, .int .u8 0, .int .u8 0, .int .u8 0, .int .u8 0, .int .u8 0] 22)) w.heap.size n := (at_new w n).alloc _
  have R1 : Room ((w.alloc (.cells (numA n) 22)).alloc (.cells #[.int .u8 0, .int .u8 0, .int .u8 0, .int .u8 0, .int .u8 0, .int .u8 0, .int .u8 0, .int .u8 0, .int .u8 0, .int .u8 0, .int .u8 0, .int .u8 0, .int .u8 0, .int .u8 0, .int .u8 0, .int .u8 0, .int .u8 0, .int .u8 0, .int .u8 0, .int .u8 0, .int .u8 0, .int .u8 0, .int .u8 0, .int .u8 0, .int .u8 0, .int .u8 0, .int .u8 0, .int .u8 0, .int .u8 0, .int .u8 0, .int .u8 0, .int .u8 0] 22)) (w.heap.size + 1) := room_top _ _ (by simp)
  have QB : Below w.heap.size w ((w.alloc (.cells (numA n) 22)).alloc (.cells #[.int .u8 0, .int .u8 0, .int .u8 0, .int .u8 0, .int .u8 0, .int .u8 0, .int .u8 0, .int .u8 0, .int .u8 0, .int .u8 0, .int .u8 0, .int .u8 0, .int .u8 0, .int .u8 0, .int .u8 0, .int .u8 0, .int .u8 0, .int .u8 0, .int .u8 0, .int .u8 0, .int .u8 0, .int .u8 0, .int .u8 0, .int .u8 0, .int .u8 0, .int .u8 0, .int .u8 0, .int .u8 0, .int .u8 0, .int .u8 0, .int .u8 0, .int .u8 0] 22)) := ((Below.refl _ _).alloc (Nat.le_refl _) _).alloc (by simp) _
  obtain ⟨y, hy⟩ : ∃ y, y = n / 452312848583266388373324160190187140051835877600158453279131187530910662656 % 256 := ⟨_, rfl⟩
  have g31 : (numA n)[31]? = some (.int .u8 (y : Int)) := by rw [numA_get n 31 (by decide), hy, show (256 : Nat) ^ 31 = 452312848583266388373324160190187140051835877600158453279131187530910662656 from by decide]
  have b31 := (byte_bits ⟨y, by omega⟩).2.2
  simp only at b31
  have KF : Kept ((numA n).setIfInBounds 31 (.int .u8 ((y % 128 : Nat) : Int)) = numA q) := ⟨by
    rw [numA_top n _ L.out (by omega), E.out]
    unfold lowN
    congr 2; omega⟩
  have B31 : Kept _ := ⟨b31⟩
  clear hy b31
  go_enter Tryd.func43, Tryd.ntmps43
  go_wp2_with (first | (refine wpList_byte rfl (.tmp 3) rfl _ 31 rfl (numA n) _ A0 g31 ?_) | (refine wpList_setbyte rfl (.tmp 6) (.tmp 5) rfl _ 31 _ rfl rfl (numA n) A0 (by rw [numA_size]; decide) ?_))
  intro w1 A1 P1
  rw [B31.out, KF.out] at A1
  have R2 := P1.room R1 (by omega)
  have QC := QB.trans (P1.below (Nat.le_refl _))
  clear A0 R1 QB P1 g31
  go_wp2_with (first | (refine wpList_get rfl (.tmp 1) rfl _ q rfl A1 ?_))
  have hc := Reduce_any q w1 LQ.out
  rw [← ER.out] at hc
  refine hc.mono ?_
  rintro e w2 ⟨rfl, hb⟩
  have R3 := R2.under hb
  have QD := QC.trans (hb.mono QC.size)
  clear A1 R2 QC hb hc
  go_wp2_with (first | (refine wpList_put rfl (.tmp 2) (.tmp 8) rfl _ r rfl rfl R3 ?_))
  intro w3 A3 P3
  go_wp2
  exact bodyPost_ret (v := .agg (numA r)) (ret_num (Q := fun _ _ => True) Tryd.results43 _ [] _ _ r rfl A3) rfl ⟨rfl, QD.trans (P3.below (by omega))⟩
end Go.Proofs.YtanfjkmkfcekmaaDoor
