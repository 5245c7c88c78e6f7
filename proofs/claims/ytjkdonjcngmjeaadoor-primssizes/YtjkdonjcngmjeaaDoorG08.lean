/-
  General pieces, joined: D3 D4 D5 D6.
-/
import Derived.Test.YtjkdonjcngmjeaaDoorG07
import Derived.Deep.MidRow
import Derived.Deep.LoopGhost
/-
  Bytes of a number that are changed: a secret as it is used, a place, a bit.
-/
namespace Go.Proofs.YtjkdonjcngmjeaaDoor
open Go Go.RowKit
set_option linter.unusedVariables false
set_option linter.unusedSimpArgs false

/-- A number of its lowest byte, what lies between, and its highest byte. -/
def comp (d m h : Nat) : Nat := d + 256 * (m + 1766847064778384329583297500742918515827483896875618958121606201292619776 * h)
theorem p30 : (256 : Nat) ^ 30 = 1766847064778384329583297500742918515827483896875618958121606201292619776 := by decide
theorem comp_of (n : Nat) (hn : n < 115792089237316195423570985008687907853269984665640564039457584007913129639936) : n = comp (n % 256) (n / 256 % 1766847064778384329583297500742918515827483896875618958121606201292619776) (n / 452312848583266388373324160190187140051835877600158453279131187530910662656 % 256) := by unfold comp; omega
theorem comp_low (d m h : Nat) (hd : d < 256) : comp d m h % 256 = d := by unfold comp; omega
theorem comp_mid (d m h j : Nat) (hd : d < 256) (hj : j < 30) : comp d m h / 256 ^ (j + 1) % 256 = m / 256 ^ j % 256 := by
  have e1 : comp d m h / 256 = m + 256 ^ 30 * h := by unfold comp; rw [p30]; omega
  have e2 : (256 : Nat) ^ 30 = 256 ^ j * (256 * 256 ^ (29 - j)) := by rw [← Nat.pow_succ', ← Nat.pow_add]; congr 1; omega
  rw [Nat.pow_succ, Nat.mul_comm, ← Nat.div_div_eq_div_mul, e1, e2, Nat.mul_assoc, Nat.mul_assoc, Nat.add_mul_div_left _ _ (Nat.pow_pos (by decide))]
  rw [Nat.add_mod, Nat.mul_mod_right, Nat.add_zero, Nat.mod_mod]
theorem comp_top (d m h : Nat) (hd : d < 256) (hm : m < 1766847064778384329583297500742918515827483896875618958121606201292619776) (hh : h < 256) : comp d m h / 256 ^ 31 % 256 = h := by
  have e : (256 : Nat) ^ 31 = 452312848583266388373324160190187140051835877600158453279131187530910662656 := by decide
  rw [e]; unfold comp; omega
theorem comp_lt (d m h : Nat) (hd : d < 256) (hm : m < 1766847064778384329583297500742918515827483896875618958121606201292619776) (hh : h < 256) : comp d m h < 115792089237316195423570985008687907853269984665640564039457584007913129639936 := by unfold comp; omega

/-- A number with another lowest and another highest byte. -/
theorem numA_ends (n d h : Nat) (hn : n < 115792089237316195423570985008687907853269984665640564039457584007913129639936) (hd : d < 256) (hh : h < 256) :
    ((numA n).setIfInBounds 0 (.int .u8 (d : Int))).setIfInBounds 31 (.int .u8 (h : Int)) = numA (comp d (n / 256 % 1766847064778384329583297500742918515827483896875618958121606201292619776) h) := by
  apply Array.ext_getElem?
  intro j
  by_cases hj : j < 32
  · rw [numA_get _ j hj]
    by_cases h31 : j = 31
    · subst h31
      rw [Array.getElem?_setIfInBounds_self_of_lt (by simp [numA_size]), comp_top _ _ _ hd (Nat.mod_lt _ (by decide)) hh]
    · rw [Array.getElem?_setIfInBounds_ne (Ne.symm h31)]
      by_cases h0 : j = 0
      · subst h0
        rw [Array.getElem?_setIfInBounds_self_of_lt (by simp [numA_size]), Nat.pow_zero, Nat.div_one, comp_low _ _ _ hd]
      · rw [Array.getElem?_setIfInBounds_ne (Ne.symm h0), numA_get _ j hj]
        obtain ⟨k, rfl⟩ : ∃ k, j = k + 1 := ⟨j - 1, by omega⟩
        rw [comp_mid _ _ _ k hd (by omega)]
        conv => lhs; rw [comp_of n hn]
        rw [comp_mid _ _ _ k (Nat.mod_lt _ (by decide)) (by omega)]
  · rw [Array.getElem?_eq_none (by simp [numA_size]; omega), Array.getElem?_eq_none (by rw [numA_size]; omega)]
theorem numA_top (n h : Nat) (hn : n < 115792089237316195423570985008687907853269984665640564039457584007913129639936) (hh : h < 256) :
    (numA n).setIfInBounds 31 (.int .u8 (h : Int)) = numA (comp (n % 256) (n / 256 % 1766847064778384329583297500742918515827483896875618958121606201292619776) h) := by
  rw [← numA_ends n (n % 256) h hn (Nat.mod_lt _ (by decide)) hh]
  congr 1
  apply Array.ext_getElem?
  intro j
  by_cases h0 : j = 0
  · subst h0
    rw [Array.getElem?_setIfInBounds_self_of_lt (by simp [numA_size]), numA_get n 0 (by decide), Nat.pow_zero, Nat.div_one]
  · rw [Array.getElem?_setIfInBounds_ne (Ne.symm h0)]

/-- A secret as it is used. -/
def clampN (n : Nat) : Nat := comp (n % 256 - n % 8) (n / 256 % 1766847064778384329583297500742918515827483896875618958121606201292619776) (n / 452312848583266388373324160190187140051835877600158453279131187530910662656 % 64 + 64)
theorem clampN_lt (n : Nat) : clampN n < 115792089237316195423570985008687907853269984665640564039457584007913129639936 := comp_lt _ _ _ (by omega) (Nat.mod_lt _ (by decide)) (by omega)
/-- A point without its highest bit. -/
def lowN (n : Nat) : Nat := comp (n % 256) (n / 256 % 1766847064778384329583297500742918515827483896875618958121606201292619776) (n / 452312848583266388373324160190187140051835877600158453279131187530910662656 % 128)
theorem lowN_lt (n : Nat) : lowN n < 115792089237316195423570985008687907853269984665640564039457584007913129639936 := comp_lt _ _ _ (by omega) (Nat.mod_lt _ (by decide)) (by omega)

theorem byte_bits : ∀ x : Fin 256, bits .andNot .u8 (x.val : Int) 7 = ((x.val - x.val % 8 : Nat) : Int) ∧ bits .or .u8 (bits .andNot .u8 (x.val : Int) 128) 64 = ((x.val % 64 + 64 : Nat) : Int) ∧ bits .andNot .u8 (x.val : Int) 128 = ((x.val % 128 : Nat) : Int) := by decide +kernel

/-- One byte of a block is read. -/
theorem wpList_byte {ops : Array Oper} {rest : List Oper} {o : Oper} {a : Act} {w : World} {Q : Exit → Act → World → Prop} (hgd : o.guard = none) (x : Operand) (ho : o.op = .load 5 x) (g k : Nat) (hx : a.eval x = .pointer (some ⟨g, k, none⟩)) (A : Array Value) (v : Value)
    (hg : w.heap[g]? = some (.cells A 22 (0, 0))) (hv : A[k]? = some v) (h : wpList Tryd.prog ops Q rest (a.put o.dst v) w) : wpList Tryd.prog ops Q (o :: rest) a w :=
  wpList_plain hgd fun K hK => by
    have hc : w.cell? ⟨g, k, none⟩ = some v := cell_row hg hv
    have hrun : (execOp a.eval o).run Tryd.prog w = .ok (.value v) w := by
      unfold execOp
      simp only [ho, hx, Instr.loadAt, Instr.sureAddr, Sem.run_bind, Sem.run_pure, Result.andThen_ok]
      simp [loadVar, ag5, go_sem, hc]
    unfold Oper.wp
    rw [hrun]
    exact hK _ _ h
/-- One byte of a block is written. -/
theorem wpList_setbyte {ops : Array Oper} {rest : List Oper} {o : Oper} {a : Act} {w : World} {Q : Exit → Act → World → Prop} (hgd : o.guard = none) (x y : Operand) (ho : o.op = .store 5 x y) (g k : Nat) (v : Int) (hx : a.eval x = .pointer (some ⟨g, k, none⟩)) (hy : a.eval y = .int .u8 v) (A : Array Value)
    (hg : w.heap[g]? = some (.cells A 22 (0, 0))) (hk : k < A.size) (h : ∀ w', w'.heap[g]? = some (.cells (A.setIfInBounds k (.int .u8 v)) 22 (0, 0)) → Put w w' g → wpList Tryd.prog ops Q rest (a.put o.dst undef) w') : wpList Tryd.prog ops Q (o :: rest) a w :=
  wpList_plain hgd fun K hK => by
    have hc : w.cell? ⟨g, k, none⟩ = some A[k] := cell_row hg (Array.getElem?_eq_getElem hk)
    have hf : w.frozen? ⟨g, k, none⟩ = false := frozen_of_row w g k A _ hg
    have hrun : (execOp a.eval o).run Tryd.prog w = .ok .skip (w.setCell ⟨g, k, none⟩ (.int .u8 v)) := by
      unfold execOp
      simp only [ho, hx, hy, Instr.storeAt, Instr.sureAddr, Sem.run_bind, Sem.run_pure, Result.andThen_ok]
      simp [storeVar, storeCells, sizeOf, sz5, go_sem, hc, hf, Value.cells]
      try rfl
    unfold Oper.wp
    rw [hrun]
    exact hK _ _ (h _ (heap_setCell_same _ _ _ _ _ _ hg) ⟨⟨rfl, rfl, rfl, by simp, fun j _ hj => heap_setCell_other w ⟨g, k, none⟩ j _ (fun e => hj (by rw [e]))⟩, by simp⟩)

set_option maxHeartbeats 400000 in
theorem Clamp_any (n : Nat) (w : World) (hn : n < 115792089237316195423570985008687907853269984665640564039457584007913129639936) :
    Calls Tryd.prog 77 #[.agg (numA n)] w fun e w' => e = .returned (.agg (numA (clampN n))) ∧ Below w.heap.size w w' := by
  have L : Kept _ := ⟨hn⟩
  obtain ⟨r, hr⟩ : ∃ r, r = clampN n := ⟨_, rfl⟩
  rw [← hr]
  have E : Kept _ := ⟨hr⟩
  clear hn hr
  have A0 : At ((w.alloc (.cells (numA n) 22)).alloc (.cells #[.int .u8 0, .int .u8 0, .int .u8 0, .int .u8 0, .int .u8 0, .int .u8 0, .int .u8 0, .int .u8 0, .int .u8 0, .int .u8 0, .int .u8 0, .int .u8 0, .int .u8 0, .int .u8 0, .int .u8 0, .int .u8 0, .int .u8 0, .int .u8 0, .int .u8 0, .int .u8 0, .int .u8 0, .int .u8 0, .int .u8 0, .int .u8 0, .int .u8 0, .int .u8 0, .int .u8 0, .int .u8 0, .int .u8 0, .int .u8 0, .int .u8 0, .int .u8 0] 22)) w.heap.size n := (at_new w n).alloc _
  have R1 : Room ((w.alloc (.cells (numA n) 22)).alloc (.cells #[.int .u8 0, .int .u8 0, .int .u8 0, .int .u8 0, .int .u8 0, .int .u8 0, .int .u8 0, .int .u8 0, .int .u8 0, .int .u8 0, .int .u8 0, .int .u8 0, .int .u8 0, .int .u8 0, .int .u8 0, .int .u8 0, .int .u8 0, .int .u8 0, .int .u8 0, .int .u8 0, .int .u8 0, .int .u8 0, .int .u8 0, .int .u8 0, .int .u8 0, .int .u8 0, .int .u8 0, .int .u8 0, .int .u8 0, .int .u8 0, .int .u8 0, .int .u8 0] 22)) (w.heap.size + 1) := room_top _ _ (by simp)
  have QB : Below w.heap.size w ((w.alloc (.cells (numA n) 22)).alloc (.cells #[.int .u8 0, .int .u8 0, .int .u8 0, .int .u8 0, .int .u8 0, .int .u8 0, .int .u8 0, .int .u8 0, .int .u8 0, .int .u8 0, .int .u8 0, .int .u8 0, .int .u8 0, .int .u8 0, .int .u8 0, .int .u8 0, .int .u8 0, .int .u8 0, .int .u8 0, .int .u8 0, .int .u8 0, .int .u8 0, .int .u8 0, .int .u8 0, .int .u8 0, .int .u8 0, .int .u8 0, .int .u8 0, .int .u8 0, .int .u8 0, .int .u8 0, .int .u8 0] 22)) := ((Below.refl _ _).alloc (Nat.le_refl _) _).alloc (by simp) _
  obtain ⟨x, hx⟩ : ∃ x, x = n % 256 := ⟨_, rfl⟩
  obtain ⟨y, hy⟩ : ∃ y, y = n / 452312848583266388373324160190187140051835877600158453279131187530910662656 % 256 := ⟨_, rfl⟩
  have g0 : (numA n)[0]? = some (.int .u8 (x : Int)) := by rw [numA_get n 0 (by decide), hx, Nat.pow_zero, Nat.div_one]
  have g31 : (numA n)[31]? = some (.int .u8 (y : Int)) := by rw [numA_get n 31 (by decide), hy, show (256 : Nat) ^ 31 = 452312848583266388373324160190187140051835877600158453279131187530910662656 from by decide]
  have b0 := (byte_bits ⟨x, by omega⟩).1
  have b31 := (byte_bits ⟨y, by omega⟩).2.1
  simp only at b0 b31
  have KF : Kept (((numA n).setIfInBounds 0 (.int .u8 ((x - x % 8 : Nat) : Int))).setIfInBounds 31 (.int .u8 ((y % 64 + 64 : Nat) : Int)) = numA r) := ⟨by
    rw [numA_ends n _ _ L.out (by omega) (by omega), E.out]
    unfold clampN
    congr 2 <;> omega⟩
  have B0 : Kept _ := ⟨b0⟩
  have B31 : Kept _ := ⟨b31⟩
  clear hx hy b0 b31
  go_enter Tryd.func77, Tryd.ntmps77
  go_wp2_with (first | (refine wpList_byte rfl (.tmp 3) rfl _ 0 rfl (numA n) _ A0 g0 ?_) | (refine wpList_setbyte rfl (.tmp 6) (.tmp 5) rfl _ 0 _ rfl rfl (numA n) A0 (by rw [numA_size]; decide) ?_))
  intro w1 A1 P1
  rw [B0.out] at A1
  have R2 := P1.room R1 (by omega)
  have QC := QB.trans (P1.below (Nat.le_refl _))
  have g31' : ((numA n).setIfInBounds 0 (.int .u8 ((x - x % 8 : Nat) : Int)))[31]? = some (.int .u8 (y : Int)) := by rw [Array.getElem?_setIfInBounds_ne (by decide)]; exact g31
  clear A0 R1 QB P1 g0 g31
  go_wp2_with (first | (refine wpList_byte rfl (.tmp 7) rfl _ 31 rfl _ _ A1 g31' ?_) | (refine wpList_setbyte rfl (.tmp 11) (.tmp 10) rfl _ 31 _ rfl rfl _ A1 (by simp [numA_size]) ?_))
  intro w2 A2 P2
  rw [B31.out, KF.out] at A2
  have R3 := P2.room R2 (by omega)
  have QD := QC.trans (P2.below (Nat.le_refl _))
  clear A1 R2 QC P2
  go_wp2_with (first | (refine wpList_get rfl (.tmp 1) rfl _ r rfl A2 ?_) | (refine wpList_put rfl (.tmp 2) (.tmp 12) rfl _ r rfl rfl R3 ?_))
  intro w3 A3 P3
  go_wp2
  exact bodyPost_ret (v := .agg (numA r)) (ret_num (Q := fun _ _ => True) Tryd.results77 _ [] _ _ r rfl A3) rfl ⟨rfl, QD.trans (P3.below (by omega))⟩

set_option maxHeartbeats 400000 in
theorem place_any (n : Nat) (w : World) (hn : n < 115792089237316195423570985008687907853269984665640564039457584007913129639936) :
    Calls Tryd.prog 78 #[.agg (numA n)] w fun e w' => e = .returned (.agg (numA (lowN n % 57896044618658097711785492504343953926634992332820282019728792003956564819949))) ∧ Below w.heap.size w w' := by
  have L : Kept _ := ⟨hn⟩
  obtain ⟨q, hq⟩ : ∃ q, q = lowN n := ⟨_, rfl⟩
  obtain ⟨r, hr⟩ : ∃ r, r = q % 57896044618658097711785492504343953926634992332820282019728792003956564819949 := ⟨_, rfl⟩
  rw [← hq, ← hr]
  have E : Kept (q = lowN n) := ⟨hq⟩
  have ER : Kept (r = q % 57896044618658097711785492504343953926634992332820282019728792003956564819949) := ⟨hr⟩
  have LQ : Kept (q < 115792089237316195423570985008687907853269984665640564039457584007913129639936) := ⟨by rw [hq]; exact lowN_lt n⟩
  clear hn hr hq
  have A0 : At ((w.alloc (.cells (numA n) 22)).alloc (.cells #[.int .u8 0, .int .u8 0, .int .u8 0, .int .u8 0, .int .u8 0, .int .u8 0, .int .u8 0, .int .u8 0, .int .u8 0, .int .u8 0, .int .u8 0, .int .u8 0, .int .u8 0, .int .u8 0, .int .u8 0, .int .u8 0, .int .u8 0, .int .u8 0, .int .u8 0, .int .u8 0, .int .u8 0, .int .u8 0, .int .u8 0, .int .u8 0, .int .u8 0, .int .u8 0, .int .u8 0, .int .u8 0, .int .u8 0, .int .u8 0, .int .u8 0, .int .u8 0] 22)) w.heap.size n := (at_new w n).alloc _
  have R1 : Room ((w.alloc (.cells (numA n) 22)).alloc (.cells #[.int .u8 0, .int .u8 0, .int .u8 0, .int .u8 0, .int .u8 0, .int .u8 0, .int .u8 0, .int .u8 0, .int .u8 0, .int .u8 0, .int .u8 0, .int .u8 0, .int .u8 0, .int .u8 0, .int .u8 0, .int .u8 0, .int .u8 0, .int .u8 0, .int .u8 0, .int .u8 0, .int .u8 0, .int .u8 0, .int .u8 0, .int .u8 0, .int .u8 0, .int .u8 0, .int .u8 0, .int .u8 0, .int .u8 0, .int .u8 0, .int .u8 0, .int .u8 0] 22)) (w.heap.size + 1) := room_top _ _ (by simp)
  have QB : Below w.heap.size w ((w.alloc (.cells (numA n) 22)).alloc (.cells #[.int .u8 0, .int .u8 0, .int .u8 0, .int .u8 0, .int .u8 0, .int .u8 0, .int .u8 0, .int .u8 0, .int .u8 0, .int .u8 0, .int .u8 0, .int .u8 0, .int .u8 0, .int .u8 0, .int .u8 0, .int .u8 0, .int .u8 0, .int .u8 0, .int .u8 0, .int .u8 0, .int .u8 0, .int .u8 0, .int .u8 0, .int .u8 0, .int .u8 0, .int .u8 0, .int .u8 0, .int .u8 0, .int .u8 0, .int .u8 0, .int .u8 0, .int .u8 0] 22)) := ((Below.refl _ _).alloc (Nat.le_refl _) _).alloc (by simp) _
  obtain ⟨y, hy⟩ : ∃ y, y = n / 452312848583266388373324160190187140051835877600158453279131187530910662656 % 256 := ⟨_, rfl⟩
  have g31 : (numA n)[31]? = some (.int .u8 (y : Int)) := by rw [numA_get n 31 (by decide), hy, show (256 : Nat) ^ 31 = 452312848583266388373324160190187140051835877600158453279131187530910662656 from by decide]
  have b31 := (byte_bits ⟨y, by omega⟩).2.2
  simp only at b31
  have KF : Kept ((numA n).setIfInBounds 31 (.int .u8 ((y % 128 : Nat) : Int)) = numA q) := ⟨by
    rw [numA_top n _ L.out (by omega), E.out]
    unfold lowN
    congr 2; omega⟩
  have B31 : Kept _ := ⟨b31⟩
  clear hy b31
  go_enter Tryd.func78, Tryd.ntmps78
  go_wp2_with (first | (refine wpList_byte rfl (.tmp 3) rfl _ 31 rfl (numA n) _ A0 g31 ?_) | (refine wpList_setbyte rfl (.tmp 6) (.tmp 5) rfl _ 31 _ rfl rfl (numA n) A0 (by rw [numA_size]; decide) ?_))
  intro w1 A1 P1
  rw [B31.out, KF.out] at A1
  have R2 := P1.room R1 (by omega)
  have QC := QB.trans (P1.below (Nat.le_refl _))
  clear A0 R1 QB P1 g31
  go_wp2_with (first | (refine wpList_get rfl (.tmp 1) rfl _ q rfl A1 ?_))
  have hc := Reduce_any q w1 LQ.out
  rw [← ER.out] at hc
  refine hc.mono ?_
  rintro e w2 ⟨rfl, hb⟩
  have R3 := R2.under hb
  have QD := QC.trans (hb.mono QC.size)
  clear A1 R2 QC hb hc
  go_wp2_with (first | (refine wpList_put rfl (.tmp 2) (.tmp 8) rfl _ r rfl rfl R3 ?_))
  intro w3 A3 P3
  go_wp2
  exact bodyPost_ret (v := .agg (numA r)) (ret_num (Q := fun _ _ => True) Tryd.results78 _ [] _ _ r rfl A3) rfl ⟨rfl, QD.trans (P3.below (by omega))⟩
end Go.Proofs.YtjkdonjcngmjeaaDoor
/-
  A bit of a number; the two points in each other's place.
-/
namespace Go.Proofs.YtjkdonjcngmjeaaDoor
open Go Go.RowKit
set_option linter.unusedVariables false
set_option linter.unusedSimpArgs false

theorem and_one : ∀ x : Fin 256, (bits .and .u8 (x.val : Int) 1 == 1) = decide (x.val % 2 = 1) := by decide +kernel
theorem low_bit (m r : Nat) (h : r < 8) : m % 256 / 2 ^ r % 2 = m / 2 ^ r % 2 := by
  rcases (show r = 0 ∨ r = 1 ∨ r = 2 ∨ r = 3 ∨ r = 4 ∨ r = 5 ∨ r = 6 ∨ r = 7 by omega) with rfl | rfl | rfl | rfl | rfl | rfl | rfl | rfl <;> simp <;> omega
theorem bit_eq (n i : Nat) : n / 256 ^ (i / 8) % 256 / 2 ^ (i % 8) % 2 = n / 2 ^ i % 2 := by
  have e : 2 ^ i = 256 ^ (i / 8) * 2 ^ (i % 8) := by
    rw [show (256 : Nat) = 2 ^ 8 from rfl, ← Nat.pow_mul, ← Nat.pow_add]
    congr 1; omega
  rw [low_bit _ _ (Nat.mod_lt _ (by decide)), Nat.div_div_eq_div_mul, ← e]
theorem byte_lt (n i : Nat) : n / 256 ^ (i / 8) % 256 / 2 ^ (i % 8) < 256 := Nat.lt_of_le_of_lt (Nat.div_le_self _ _) (Nat.mod_lt _ (by decide))

set_option maxHeartbeats 400000 in
theorem bit_any (n i : Nat) (w : World) (hi : i < 256) :
    Calls Tryd.prog 79 #[.agg (numA n), .int .i64 (i : Int)] w fun e w' => e = .returned (.bool (decide (n / 2 ^ i % 2 = 1))) ∧ Below w.heap.size w w' := by
  have A0 : At (w.alloc (.cells (numA n) 22)) w.heap.size n := at_new w n
  have QB : Below w.heap.size w (w.alloc (.cells (numA n) 22)) := (Below.refl _ _).alloc (Nat.le_refl _) _
  go_enter Tryd.func79, Tryd.ntmps79
  go_wp2_with (first | (refine wpList_byte rfl (.tmp 7) rfl _ (i / 8) rfl (numA n) _ A0 (numA_get n (i / 8) (by omega)) ?_))
  go_ret
  refine ⟨?_, QB⟩
  have h := and_one ⟨_, byte_lt n i⟩
  simp only [bit_eq] at h
  rw [← h]
  show Ending.returned (Value.bool (bits BinOp.and IntKind.u8 _ 1 == 1)) = _
  congr 5

def setRange : Array Value → Nat → List Value → Array Value
  | A, _, [] => A
  | A, o, v :: r => setRange (A.setIfInBounds o v) (o + 1) r
theorem setRange_size : ∀ (vs : List Value) (A : Array Value) (o : Nat), (setRange A o vs).size = A.size
  | [], _, _ => rfl
  | v :: r, A, o => by rw [setRange, setRange_size r]; simp
theorem setRange_out : ∀ (vs : List Value) (A : Array Value) (o j : Nat), (j < o ∨ o + vs.length ≤ j) → (setRange A o vs)[j]? = A[j]?
  | [], _, _, _, _ => rfl
  | v :: r, A, o, j, h => by
    simp only [List.length_cons] at h
    rw [setRange, setRange_out r _ _ _ (by omega), Array.getElem?_setIfInBounds_ne (by omega)]
theorem setRange_in : ∀ (vs : List Value) (A : Array Value) (o j : Nat), o + vs.length ≤ A.size → j < vs.length → (setRange A o vs)[o + j]? = vs[j]?
  | v :: r, A, o, 0, h, _ => by
    simp only [List.length_cons] at h
    rw [setRange, setRange_out r _ _ _ (by omega), Nat.add_zero, Array.getElem?_setIfInBounds_self_of_lt (by omega)]; rfl
  | v :: r, A, o, j + 1, h, hj => by
    simp only [List.length_cons] at h hj
    rw [setRange, show o + (j + 1) = o + 1 + j from by omega, setRange_in r _ _ _ (by simp; omega) (by omega)]; rfl
theorem setCells_heap {g : Nat} {t : TypeId} : ∀ (vs : List Value) (A : Array Value) (o : Nat) (w : World), w.heap[g]? = some (.cells A t (0, 0)) → (w.setCells g o vs).heap[g]? = some (.cells (setRange A o vs) t (0, 0))
  | [], _, _, _, h => h
  | v :: r, A, o, w, h => setCells_heap r _ _ _ (heap_setCell_same w g o A t v h)
theorem setCells_other {g k : Nat} (hne : k ≠ g) : ∀ (vs : List Value) (o : Nat) (w : World), (w.setCells g o vs).heap[k]? = w.heap[k]?
  | [], _, _ => rfl
  | v :: r, o, w => by rw [World.setCells, setCells_other hne r]; exact heap_setCell_other w ⟨g, o, none⟩ k v hne
theorem setCells_same (g : Nat) : ∀ (vs : List Value) (o : Nat) (w : World), (w.setCells g o vs).heap.size = w.heap.size ∧ (w.setCells g o vs).os = w.os ∧ (w.setCells g o vs).tape = w.tape ∧ (w.setCells g o vs).output = w.output
  | [], _, _ => ⟨rfl, rfl, rfl, rfl⟩
  | v :: r, o, w => by
    have h := setCells_same g r (o + 1) (w.setCell ⟨g, o, none⟩ v)
    rw [World.setCells]
    exact ⟨by rw [h.1]; simp, h.2.1, h.2.2.1, h.2.2.2⟩

theorem rowA_get4 (a b c d j : Nat) (h : j < 128) : ∃ n, [a, b, c, d][j / 32]? = some n ∧ (rowA [a, b, c, d])[j]? = (numA n)[j % 32]? := by
  obtain ⟨n, hn⟩ : ∃ n, [a, b, c, d][j / 32]? = some n := ⟨_, List.getElem?_eq_getElem (by simp; omega)⟩
  refine ⟨n, hn, ?_⟩
  obtain ⟨v, hv⟩ : ∃ v, (numA n)[j % 32]? = some v := ⟨_, numA_get n _ (Nat.mod_lt _ (by decide))⟩
  rw [hv]
  have := rowA_at [a, b, c, d] hn (j % 32) v hv
  rwa [show j / 32 * 32 + j % 32 = j from by omega] at this
theorem rowA_set (a b c d n i : Nat) (hi : i < 4) : setRange (rowA [a, b, c, d]) (i * 32) (numA n).toList = rowA ([a, b, c, d].set i n) := by
  obtain ⟨a', b', c', d', e⟩ : ∃ a' b' c' d', [a, b, c, d].set i n = [a', b', c', d'] := by
    rcases (show i = 0 ∨ i = 1 ∨ i = 2 ∨ i = 3 by omega) with rfl | rfl | rfl | rfl <;> exact ⟨_, _, _, _, rfl⟩
  apply Array.ext_getElem?
  intro j
  by_cases hj : j < 128
  · obtain ⟨m, h1, h2⟩ := rowA_get4 a' b' c' d' j hj
    rw [e, h2]
    rw [← e, List.getElem?_set] at h1
    by_cases hji : j / 32 = i
    · rw [if_pos hji.symm, if_pos (by simp; omega)] at h1
      cases h1
      have := setRange_in (numA n).toList (rowA [a, b, c, d]) (i * 32) (j % 32) (by rw [rowA_size]; simp [numA_size]; omega) (by simp [numA_size]; omega)
      rw [show i * 32 + j % 32 = j from by omega] at this
      rw [this, Array.getElem?_toList]
    · rw [if_neg (Ne.symm hji)] at h1
      rw [setRange_out _ _ _ _ (by simp [numA_size]; omega)]
      obtain ⟨m', h3, h4⟩ := rowA_get4 a b c d j hj
      rw [h3] at h1
      cases h1
      exact h4
  · rw [Array.getElem?_eq_none (by rw [setRange_size, rowA_size]; omega), e, Array.getElem?_eq_none (by rw [rowA_size]; omega)]

/-- One of four numbers in a block is written. -/
theorem wpList_qset {ops : Array Oper} {rest : List Oper} {o : Oper} {a : Act} {w : World} {Q : Exit → Act → World → Prop} (hgd : o.guard = none) (x y : Operand) (ho : o.op = .store 22 x y)
    (t : TypeId) (g i n0 n1 n2 n3 n : Nat) (hi : i < 4) (hx : a.eval x = .pointer (some ⟨g, i * 32, none⟩)) (hy : a.eval y = .agg (numA n)) (hg : AtQ t w g [n0, n1, n2, n3])
    (h : ∀ w', AtQ t w' g ([n0, n1, n2, n3].set i n) → Put w w' g → wpList Tryd.prog ops Q rest (a.put o.dst undef) w') : wpList Tryd.prog ops Q (o :: rest) a w := by
  have ht : w.there g (i * 32) (numA n).size := fun j hj => by
    rw [numA_size] at hj
    have hlt : i * 32 + j < (rowA [n0, n1, n2, n3]).size := by rw [rowA_size]; omega
    exact ⟨by rw [cell_row hg (Array.getElem?_eq_getElem hlt)]; rfl, frozen_of_row w g _ _ _ hg⟩
  refine wpList_store_mid hgd 22 x y ho g (i * 32) (numA n) hx hy ht (by rw [numA_size]; kernel_rfl) (numA_one n) (h _ ?_ ?_)
  · have := setCells_heap (numA n).toList (rowA [n0, n1, n2, n3]) (i * 32) w hg
    rw [rowA_set _ _ _ _ _ _ hi] at this
    exact this
  · have hs := setCells_same g (numA n).toList (i * 32) w
    exact ⟨⟨hs.2.1, hs.2.2.1, hs.2.2.2, by rw [hs.1]; exact Nat.le_refl _, fun k _ hk => setCells_other (fun e => hk (by rw [e])) _ _ _⟩, hs.1⟩

set_option maxHeartbeats 1000000 in
theorem swap_true (a b c d : Nat) (w : World) :
    Calls Tryd.prog 80 #[.agg (rowA [a, b, c, d]), .bool true] w fun e w' => e = .returned (.agg (rowA [c, d, a, b])) ∧ Below w.heap.size w w' := by
  go_enter Tryd.func80, Tryd.ntmps80
  have AQ : AtQ 133 ((w.alloc (.cells (rowA [a, b, c, d]) 133)).alloc (.cells Tryd.zeroCells133 133)) w.heap.size [a, b, c, d] := (atQ_new _ w _).alloc _
  have RR : RoomQ 133 ((w.alloc (.cells (rowA [a, b, c, d]) 133)).alloc (.cells Tryd.zeroCells133 133)) (w.heap.size + 1) := ⟨Tryd.zeroCells133, by kernel_rfl, heap_alloc2_new _ _ _⟩
  have QB : Below w.heap.size w ((w.alloc (.cells (rowA [a, b, c, d]) 133)).alloc (.cells Tryd.zeroCells133 133)) := ((Below.refl _ _).alloc (Nat.le_refl _) _).alloc (by simp) _
  go_wp2_with (first | (refine wpList_qget rfl (.tmp 7) rfl 133 _ 0 _ a rfl rfl AQ ?_) | (refine wpList_qget rfl (.tmp 9) rfl 133 _ 2 _ c rfl rfl AQ ?_))
  refine (Swap_yes a c _).mono ?_
  rintro e w1 ⟨rfl, hb1⟩
  have AQ1 := AQ.under hb1
  have RR1 := RR.under hb1
  have QB1 := QB.trans (hb1.mono QB.size)
  clear AQ RR QB hb1
  go_wp2_with (first | (refine wpList_qset rfl (.tmp 14) (.tmp 12) rfl 133 _ 0 a b c d c (by decide) rfl rfl AQ1 ?_))
  intro w2 AQ2 P2
  replace AQ2 : AtQ 133 w2 w.heap.size [c, b, c, d] := AQ2
  have RR2 := P2.roomQ RR1 (by omega)
  have QB2 : Below w.heap.size w w2 := QB1.trans (P2.below (Nat.le_refl _))
  clear AQ1 RR1 QB1 P2
  go_wp2_with (first | (refine wpList_qset rfl (.tmp 15) (.tmp 13) rfl 133 _ 2 c b c d a (by decide) rfl rfl AQ2 ?_))
  intro w3 AQ3 P3
  replace AQ3 : AtQ 133 w3 w.heap.size [c, b, a, d] := AQ3
  have RR3 := P3.roomQ RR2 (by omega)
  have QB3 : Below w.heap.size w w3 := QB2.trans (P3.below (Nat.le_refl _))
  clear AQ2 RR2 QB2 P3
  go_wp2_with (first | (refine wpList_qget rfl (.tmp 18) rfl 133 _ 1 _ b rfl rfl AQ3 ?_) | (refine wpList_qget rfl (.tmp 20) rfl 133 _ 3 _ d rfl rfl AQ3 ?_))
  refine (Swap_yes b d _).mono ?_
  rintro e w4 ⟨rfl, hb4⟩
  have AQ4 := AQ3.under hb4
  have RR4 := RR3.under hb4
  have QB4 := QB3.trans (hb4.mono QB3.size)
  clear AQ3 RR3 QB3 hb4
  go_wp2_with (first | (refine wpList_qset rfl (.tmp 25) (.tmp 23) rfl 133 _ 1 c b a d d (by decide) rfl rfl AQ4 ?_))
  intro w5 AQ5 P5
  replace AQ5 : AtQ 133 w5 w.heap.size [c, d, a, d] := AQ5
  have RR5 := P5.roomQ RR4 (by omega)
  have QB5 : Below w.heap.size w w5 := QB4.trans (P5.below (Nat.le_refl _))
  clear AQ4 RR4 QB4 P5
  go_wp2_with (first | (refine wpList_qset rfl (.tmp 26) (.tmp 24) rfl 133 _ 3 c d a d b (by decide) rfl rfl AQ5 ?_))
  intro w6 AQ6 P6
  replace AQ6 : AtQ 133 w6 w.heap.size [c, d, a, b] := AQ6
  have RR6 := P6.roomQ RR5 (by omega)
  have QB6 : Below w.heap.size w w6 := QB5.trans (P6.below (Nat.le_refl _))
  clear AQ5 RR5 QB5 P6
  go_wp2_with (first | (refine wpList_qall Tryd.underlying133 iQ1 rfl (.tmp 2) rfl _ c d a b rfl AQ6 ?_) | (refine wpList_qput iQ1 rfl (.tmp 4) (.tmp 27) rfl _ c d a b rfl rfl RR6 ?_))
  intro w7 AQ7 P7
  have QB7 : Below w.heap.size w w7 := QB6.trans (P7.below (by omega))
  clear AQ6 RR6 QB6 P7
  go_wp2
  exact bodyPost_ret (v := .agg (rowA [c, d, a, b])) (ret_quad Tryd.underlying133 iQ1 Tryd.results80 _ _ _ c d a b rfl AQ7) rfl ⟨rfl, QB7⟩

set_option maxHeartbeats 1000000 in
theorem swap_false (a b c d : Nat) (w : World) :
    Calls Tryd.prog 80 #[.agg (rowA [a, b, c, d]), .bool false] w fun e w' => e = .returned (.agg (rowA [a, b, c, d])) ∧ Below w.heap.size w w' := by
  go_enter Tryd.func80, Tryd.ntmps80
  have AQ : AtQ 133 ((w.alloc (.cells (rowA [a, b, c, d]) 133)).alloc (.cells Tryd.zeroCells133 133)) w.heap.size [a, b, c, d] := (atQ_new _ w _).alloc _
  have RR : RoomQ 133 ((w.alloc (.cells (rowA [a, b, c, d]) 133)).alloc (.cells Tryd.zeroCells133 133)) (w.heap.size + 1) := ⟨Tryd.zeroCells133, by kernel_rfl, heap_alloc2_new _ _ _⟩
  have QB : Below w.heap.size w ((w.alloc (.cells (rowA [a, b, c, d]) 133)).alloc (.cells Tryd.zeroCells133 133)) := ((Below.refl _ _).alloc (Nat.le_refl _) _).alloc (by simp) _
  go_wp2_with (first | (refine wpList_qget rfl (.tmp 7) rfl 133 _ 0 _ a rfl rfl AQ ?_) | (refine wpList_qget rfl (.tmp 9) rfl 133 _ 2 _ c rfl rfl AQ ?_))
  refine (Swap_no a c _).mono ?_
  rintro e w1 ⟨rfl, hb1⟩
  have AQ1 := AQ.under hb1
  have RR1 := RR.under hb1
  have QB1 := QB.trans (hb1.mono QB.size)
  clear AQ RR QB hb1
  go_wp2_with (first | (refine wpList_qset rfl (.tmp 14) (.tmp 12) rfl 133 _ 0 a b c d a (by decide) rfl rfl AQ1 ?_))
  intro w2 AQ2 P2
  replace AQ2 : AtQ 133 w2 w.heap.size [a, b, c, d] := AQ2
  have RR2 := P2.roomQ RR1 (by omega)
  have QB2 : Below w.heap.size w w2 := QB1.trans (P2.below (Nat.le_refl _))
  clear AQ1 RR1 QB1 P2
  go_wp2_with (first | (refine wpList_qset rfl (.tmp 15) (.tmp 13) rfl 133 _ 2 a b c d c (by decide) rfl rfl AQ2 ?_))
  intro w3 AQ3 P3
  replace AQ3 : AtQ 133 w3 w.heap.size [a, b, c, d] := AQ3
  have RR3 := P3.roomQ RR2 (by omega)
  have QB3 : Below w.heap.size w w3 := QB2.trans (P3.below (Nat.le_refl _))
  clear AQ2 RR2 QB2 P3
  go_wp2_with (first | (refine wpList_qget rfl (.tmp 18) rfl 133 _ 1 _ b rfl rfl AQ3 ?_) | (refine wpList_qget rfl (.tmp 20) rfl 133 _ 3 _ d rfl rfl AQ3 ?_))
  refine (Swap_no b d _).mono ?_
  rintro e w4 ⟨rfl, hb4⟩
  have AQ4 := AQ3.under hb4
  have RR4 := RR3.under hb4
  have QB4 := QB3.trans (hb4.mono QB3.size)
  clear AQ3 RR3 QB3 hb4
  go_wp2_with (first | (refine wpList_qset rfl (.tmp 25) (.tmp 23) rfl 133 _ 1 a b c d b (by decide) rfl rfl AQ4 ?_))
  intro w5 AQ5 P5
  replace AQ5 : AtQ 133 w5 w.heap.size [a, b, c, d] := AQ5
  have RR5 := P5.roomQ RR4 (by omega)
  have QB5 : Below w.heap.size w w5 := QB4.trans (P5.below (Nat.le_refl _))
  clear AQ4 RR4 QB4 P5
  go_wp2_with (first | (refine wpList_qset rfl (.tmp 26) (.tmp 24) rfl 133 _ 3 a b c d d (by decide) rfl rfl AQ5 ?_))
  intro w6 AQ6 P6
  replace AQ6 : AtQ 133 w6 w.heap.size [a, b, c, d] := AQ6
  have RR6 := P6.roomQ RR5 (by omega)
  have QB6 : Below w.heap.size w w6 := QB5.trans (P6.below (Nat.le_refl _))
  clear AQ5 RR5 QB5 P6
  go_wp2_with (first | (refine wpList_qall Tryd.underlying133 iQ1 rfl (.tmp 2) rfl _ a b c d rfl AQ6 ?_) | (refine wpList_qput iQ1 rfl (.tmp 4) (.tmp 27) rfl _ a b c d rfl rfl RR6 ?_))
  intro w7 AQ7 P7
  have QB7 : Below w.heap.size w w7 := QB6.trans (P7.below (by omega))
  clear AQ6 RR6 QB6 P7
  go_wp2
  exact bodyPost_ret (v := .agg (rowA [a, b, c, d])) (ret_quad Tryd.underlying133 iQ1 Tryd.results80 _ _ _ a b c d rfl AQ7) rfl ⟨rfl, QB7⟩

end Go.Proofs.YtjkdonjcngmjeaaDoor
/-
  What the ladder's X answers: the numbers of its rounds.
-/
namespace Go.Proofs.YtjkdonjcngmjeaaDoor
open Go Go.RowKit
set_option linter.unusedVariables false
set_option linter.unusedSimpArgs false

theorem nMul_lt (a b : Nat) : nMul a b < 115792089237316195423570985008687907853269984665640564039457584007913129639936 := Nat.lt_trans (Nat.mod_lt _ (by decide)) (by decide)
theorem q_part {ops : Array Oper} {C : World → Prop} {Q : Act → Prop} {a : Act} {o : Oper} {rest : List Oper} (hw : Region.wanted o (yielded ops a.tmps) = true) (x : Operand) (g off n : Nat) (t : TypeId) (cs : Array Value) (ho : o.op = .load 22 x) (hx : a.eval x = .pointer (some ⟨g, off, none⟩))
    (hC : ∀ w, C w → w.heap[g]? = some (.cells cs t (0, 0))) (hp : ∀ j v, (numA n)[j]? = some v → cs[off + j]? = some v)
    (h : wpQuiet Tryd.prog ops C Q rest (a.put o.dst (.agg (numA n)))) : wpQuiet Tryd.prog ops C Q (o :: rest) a := by
  refine BigFrame.wpQuiet_want hw fun K hK => ⟨.agg (numA n), fun w hc => ?_, hK _ h⟩
  unfold Oper.quietAt execOp
  simp only [ho, hx, Instr.loadAt, Instr.sureAddr, Sem.run_bind, Sem.run_pure, Result.andThen_ok, run_loadVar_at w g off t 22 cs (numA n) (0, 0) _ (hC w hc) hp Tryd.underlying22 rfl (by rw [numA_size]; kernel_rfl)]
  exact ⟨rfl, rfl⟩
theorem buildS1 (n0 n2 n3 : Nat) (w : World) : (Instr.build 133 #[(0, .agg (numA n0)), (2, .agg (numA n2)), (3, .agg (numA n3))]).run Tryd.prog w = .ok (.agg (rowA [n0, 0, n2, n3])) w := by kernel_rfl
theorem l_bs1 {ops : Array Oper} {Q : Exit → Act → World → Prop} {a : Act} {o : Oper} {rest : List Oper} {w : World} (hg : o.guard = none) (x0 x2 x3 : Operand) (ho : o.op = .build 133 #[(0, x0), (2, x2), (3, x3)]) (n0 n2 n3 : Nat) (h0 : a.eval x0 = .agg (numA n0)) (h2 : a.eval x2 = .agg (numA n2)) (h3 : a.eval x3 = .agg (numA n3)) (h : wpList Tryd.prog ops Q rest (a.put o.dst (.agg (rowA [n0, 0, n2, n3]))) w) : wpList Tryd.prog ops Q (o :: rest) a w :=
  l_val hg _ (by unfold execOp; simp [ho, h0, h2, h3, buildS1]) h
theorem roomQ_top (t : TypeId) (w : World) (z : Array Value) (hz : z.size = 128) (k : Nat) (h : k = w.heap.size) : RoomQ t (w.alloc (.cells z t)) k := by subst h; exact ⟨z, hz, heap_new _ _⟩
theorem three_nums (w : World) (k u : Nat) (W : World) (hW : ((w.alloc (.cells (numA k) 22)).alloc (.cells (numA u) 22)).alloc (.cells #[.int .u8 0, .int .u8 0, .int .u8 0, .int .u8 0, .int .u8 0, .int .u8 0, .int .u8 0, .int .u8 0, .int .u8 0, .int .u8 0, .int .u8 0, .int .u8 0, .int .u8 0, .int .u8 0, .int .u8 0, .int .u8 0, .int .u8 0, .int .u8 0, .int .u8 0, .int .u8 0, .int .u8 0, .int .u8 0, .int .u8 0, .int .u8 0, .int .u8 0, .int .u8 0, .int .u8 0, .int .u8 0, .int .u8 0, .int .u8 0, .int .u8 0, .int .u8 0] 22) = W) : At W w.heap.size k ∧ At W (w.heap.size + 1) u ∧ Room W (w.heap.size + 1 + 1) ∧ Below w.heap.size w W := by
  subst hW
  refine ⟨((at_new w k).alloc _).alloc _, ?_, room_top _ _ (by simp), (((Below.refl _ _).alloc (Nat.le_refl _) _).alloc (by simp) _).alloc (by simp; omega) _⟩
  have h := at_new (w.alloc (.cells (numA k) 22)) u
  rw [show (w.alloc (.cells (numA k) 22)).heap.size = w.heap.size + 1 from by simp] at h
  exact h.alloc _

end Go.Proofs.YtjkdonjcngmjeaaDoor
/-
  The public key that the document fixes, reckoned.
-/
namespace Go.Proofs.YtjkdonjcngmjeaaDoor
open Go Go.RowKit

end Go.Proofs.YtjkdonjcngmjeaaDoor
