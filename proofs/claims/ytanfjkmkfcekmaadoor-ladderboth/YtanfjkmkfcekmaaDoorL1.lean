/-
  What LimbTells answers: true, whatever two numbers are.
-/
import Derived.Test.YtanfjkmkfcekmaaDoorS1
import Derived.Test.YtanfjkmkfcekmaaDoorR9
import Derived.Test.YtanfjkmkfcekmaaDoorR7
namespace Go.Proofs.YtanfjkmkfcekmaaDoor
open Go.RowKit
set_option linter.unusedSimpArgs false
set_option linter.unusedVariables false

theorem two_nums (w : World) (a b : Nat) (W : World) (hW : (w.alloc (.cells (numA a) 22)).alloc (.cells (numA b) 22) = W) : At W w.heap.size a ∧ At W (w.heap.size + 1) b ∧ Below w.heap.size w W := by
  subst hW
  refine ⟨(at_new w a).alloc _, ?_, ((Below.refl _ _).alloc (Nat.le_refl _) _).alloc (by simp) _⟩
  have h := at_new (w.alloc (.cells (numA a) 22)) b
  rw [show (w.alloc (.cells (numA a) 22)).heap.size = w.heap.size + 1 from by simp] at h
  exact h

theorem w_skip {ops : Array Oper} {rest : List Oper} {o : Oper} {a : Act} {w : World} {Q : Exit → Act → World → Prop} {d : Nat} (hd : o.dst = some d) (hw : Region.wanted o (yielded ops a.tmps) = false) (h : wpList Tryd.prog ops Q rest (a.put o.dst undef) w) : wpList Tryd.prog ops Q (o :: rest) a w := wpList_skip hw h
theorem w_get {ops : Array Oper} {rest : List Oper} {o : Oper} {a : Act} {w : World} {Q : Exit → Act → World → Prop} {d : Nat} (hd : o.dst = some d) (hw : Region.wanted o (yielded ops a.tmps) = true) (x : Operand) (ho : o.op = .load 22 x)
    (g n : Nat) (hx : a.eval x = .pointer (some ⟨g, 0, none⟩)) (hg : At w g n) (h : wpList Tryd.prog ops Q rest (a.put o.dst (.agg (numA n))) w) : wpList Tryd.prog ops Q (o :: rest) a w :=
  BigFrame.wpList_want hw fun K hK => wp_load_row 22 x ho g hx 22 (numA n) (0, 0) _ hg Tryd.underlying22 rfl (by rw [numA_size]; kernel_rfl) (hK _ _ h)
theorem w_val {ops : Array Oper} {rest : List Oper} {o : Oper} {a : Act} {w : World} {Q : Exit → Act → World → Prop} (hw : Region.wanted o (yielded ops a.tmps) = true) (v : Value) (hrun : (execOp a.eval o).run Tryd.prog w = .ok (.value v) w) (h : wpList Tryd.prog ops Q rest (a.put o.dst v) w) : wpList Tryd.prog ops Q (o :: rest) a w :=
  BigFrame.wpList_want hw fun K hK => by
    unfold Oper.wp
    rw [hrun]
    exact hK _ _ h
theorem w_neq {ops : Array Oper} {rest : List Oper} {o : Oper} {a : Act} {w : World} {Q : Exit → Act → World → Prop} {x y : Operand} {d : Nat} (hd : o.dst = some d) (hw : Region.wanted o (yielded ops a.tmps) = true) (n m : Nat) (ho : o.op = .binOp .neq 22 x y 22) (hx : a.eval x = .agg (numA n)) (hy : a.eval y = .agg (numA m)) (hn : n < 115792089237316195423570985008687907853269984665640564039457584007913129639936) (hm : m < 115792089237316195423570985008687907853269984665640564039457584007913129639936) (b : Bool) (hb : (!decide (n = m)) = b)
    (h : wpList Tryd.prog ops Q rest (a.put o.dst (.bool b)) w) : wpList Tryd.prog ops Q (o :: rest) a w :=
  w_val hw (.bool b) ((run_neq_num (t := 22) (e := 5) n m ho hx hy hn hm Tryd.underlying22 Tryd.underlying5 sz5 ag5 eqG w).trans (by rw [hb])) h

set_option maxHeartbeats 1000000 in
theorem tells_true (a b : Nat) (w : World) (la : a < 115792089237316195423570985008687907853269984665640564039457584007913129639936) (lb : b < 115792089237316195423570985008687907853269984665640564039457584007913129639936) (hp : PrimeAt w) :
    Calls Tryd.prog 3 #[.agg (numA a), .agg (numA b), .bool true] w fun e w' => e = .returned (.bool true) ∧ Below w.heap.size w w' := by
  have LA : Kept _ := ⟨la⟩
  have LB : Kept _ := ⟨lb⟩
  have HP : Kept _ := ⟨hp⟩
  clear la lb hp
  go_enter Tryd.func3, Tryd.ntmps3
  go_wp2_with fail
  generalize hW : (w.alloc (.cells (numA a) 22)).alloc (.cells (numA b) 22) = W
  obtain ⟨Aa, Ab, QB⟩ := two_nums w a b W hW
  clear hW
  refine (alive_any _ (PrimeAt.below HP.out QB)).mono ?_
  rintro e w1 ⟨rfl, hb1⟩
  have Aa1 := Aa.under hb1
  have Ab1 := Ab.under hb1
  have QB1 := QB.trans (hb1.mono QB.size)
  clear Aa Ab QB hb1
  go_wp2_with (first | (refine wpList_get rfl (.tmp 3) rfl _ a rfl Aa1 ?_) | (refine wpList_get rfl (.tmp 4) rfl _ b rfl Ab1 ?_))
  refine (Swap_yes a b _).mono ?_
  rintro e w2 ⟨rfl, hb2⟩
  have Aa2 := Aa1.under hb2
  have Ab2 := Ab1.under hb2
  have QB2 := QB1.trans (hb2.mono QB1.size)
  clear Aa1 Ab1 QB1 hb2
  go_wp2_with (first | (refine wpList_put rfl (.tmp 7) (.tmp 16) rfl _ b rfl rfl ((room_top _ _ rfl).alloc _) ?_) | go_in)
  intro w3 A3 P3
  have Aa3 := P3.at ((Aa2.alloc _).alloc _) (Nat.ne_of_lt Aa2.lt)
  have Ab3 := P3.at ((Ab2.alloc _).alloc _) (Nat.ne_of_lt Ab2.lt)
  have R3 := P3.room (room_top _ (w2.heap.size + 1) (by simp)) (by omega)
  have QB3 : Below w.heap.size w w3 := ((QB2.alloc QB2.size _).alloc (by have := QB2.size; simp; omega) _).trans (P3.below QB2.size)
  have hs3 : w3.heap.size = w2.heap.size + 2 := by rw [P3.size]; simp
  have hl2 := Ab2.lt
  have HS : Kept (w.heap.size ≤ w2.heap.size ∧ w.heap.size + 1 < w2.heap.size) := ⟨QB2.size, hl2⟩
  clear P3 Aa2 Ab2 QB2 hl2 hs3
  go_wp2_with (first | (refine wpList_put rfl (.tmp 8) (.tmp 17) rfl _ a rfl rfl R3 ?_) | go_in)
  intro w4 A4 P4
  have Aa4 := P4.at Aa3 (by have := HS.out; omega)
  have Ab4 := P4.at Ab3 (by have := HS.out; omega)
  have Ax4 := P4.at A3 (by omega)
  have QB4 : Below w.heap.size w w4 := QB3.trans (P4.below (by have := HS.out; omega))
  clear P4 Aa3 Ab3 A3 QB3 R3
  go_wp2_with (first | (with_reducible refine w_get (d := 20) ?hd ?hw (.tmp 7) ?ho w2.heap.size b ?hx Ax4 ?_; (case hd => rfl); (case hw => kernel_rfl); (case ho => rfl); (case hx => kernel_rfl); simp only [Act.put, List.setIfInBounds_toArray, List.set_cons_succ, List.set_cons_zero]) | (with_reducible refine w_get (d := 21) ?hd ?hw (.tmp 4) ?ho (w.heap.size + 1) b ?hx Ab4 ?_; (case hd => rfl); (case hw => kernel_rfl); (case ho => rfl); (case hx => kernel_rfl); simp only [Act.put, List.setIfInBounds_toArray, List.set_cons_succ, List.set_cons_zero]) | (with_reducible refine w_neq (d := 22) (x := .tmp 20) (y := .tmp 21) ?hd ?hw b b ?ho ?hx ?hy LB.out LB.out false ?hb ?_; (case hd => rfl); (case hw => kernel_rfl); (case ho => rfl); (case hx => kernel_rfl); (case hy => kernel_rfl); (case hb => simp); simp only [Act.put, List.setIfInBounds_toArray, List.set_cons_succ, List.set_cons_zero]) | (with_reducible refine w_get (d := 24) ?hd ?hw (.tmp 8) ?ho (w2.heap.size + 1) a ?hx A4 ?_; (case hd => rfl); (case hw => kernel_rfl); (case ho => rfl); (case hx => kernel_rfl); simp only [Act.put, List.setIfInBounds_toArray, List.set_cons_succ, List.set_cons_zero]) | (with_reducible refine w_get (d := 25) ?hd ?hw (.tmp 3) ?ho w.heap.size a ?hx Aa4 ?_; (case hd => rfl); (case hw => kernel_rfl); (case ho => rfl); (case hx => kernel_rfl); simp only [Act.put, List.setIfInBounds_toArray, List.set_cons_succ, List.set_cons_zero]) | (with_reducible refine w_neq (d := 26) (x := .tmp 24) (y := .tmp 25) ?hd ?hw a a ?ho ?hx ?hy LA.out LA.out false ?hb ?_; (case hd => rfl); (case hw => kernel_rfl); (case ho => rfl); (case hx => kernel_rfl); (case hy => kernel_rfl); (case hb => simp); simp only [Act.put, List.setIfInBounds_toArray, List.set_cons_succ, List.set_cons_zero]) | (with_reducible refine w_skip (d := 33) ?hd ?hw ?_; (case hd => rfl); (case hw => kernel_rfl); simp only [Act.put, List.setIfInBounds_toArray, List.set_cons_succ, List.set_cons_zero]) | (with_reducible refine w_skip (d := 34) ?hd ?hw ?_; (case hd => rfl); (case hw => kernel_rfl); simp only [Act.put, List.setIfInBounds_toArray, List.set_cons_succ, List.set_cons_zero]) | (with_reducible refine w_skip (d := 35) ?hd ?hw ?_; (case hd => rfl); (case hw => kernel_rfl); simp only [Act.put, List.setIfInBounds_toArray, List.set_cons_succ, List.set_cons_zero]) | (with_reducible refine w_skip (d := 36) ?hd ?hw ?_; (case hd => rfl); (case hw => kernel_rfl); simp only [Act.put, List.setIfInBounds_toArray, List.set_cons_succ, List.set_cons_zero]) | (with_reducible refine w_skip (d := 37) ?hd ?hw ?_; (case hd => rfl); (case hw => kernel_rfl); simp only [Act.put, List.setIfInBounds_toArray, List.set_cons_succ, List.set_cons_zero]) | (with_reducible refine w_skip (d := 38) ?hd ?hw ?_; (case hd => rfl); (case hw => kernel_rfl); simp only [Act.put, List.setIfInBounds_toArray, List.set_cons_succ, List.set_cons_zero]) | (with_reducible refine w_skip (d := 39) ?hd ?hw ?_; (case hd => rfl); (case hw => kernel_rfl); simp only [Act.put, List.setIfInBounds_toArray, List.set_cons_succ, List.set_cons_zero]) | (with_reducible refine w_skip (d := 40) ?hd ?hw ?_; (case hd => rfl); (case hw => kernel_rfl); simp only [Act.put, List.setIfInBounds_toArray, List.set_cons_succ, List.set_cons_zero]))
  have Fa := Aa4
  have Fb := Ab4
  have la := LA.out
  have lb := LB.out
  have HPW := PrimeAt.below HP.out QB4
  have HQ : Kept _ := ⟨QB4⟩
  clear QB4 Ax4 A4 Aa4 Ab4
  generalize w4 = wc at *
  by_cases za : a % 57896044618658097711785492504343953926634992332820282019728792003956564819949 = 0
  · skip
    obtain ⟨v1, ev1⟩ : ∃ v1, v1 = a % 57896044618658097711785492504343953926634992332820282019728792003956564819949 := ⟨_, rfl⟩
    have lv1 : v1 < 115792089237316195423570985008687907853269984665640564039457584007913129639936 := by rw [ev1]; exact Nat.lt_trans (Nat.mod_lt _ (by decide)) (by decide)
    obtain ⟨v2, ev2⟩ : ∃ v2, v2 = (a + b) % 57896044618658097711785492504343953926634992332820282019728792003956564819949 := ⟨_, rfl⟩
    have lv2 : v2 < 115792089237316195423570985008687907853269984665640564039457584007913129639936 := by rw [ev2]; exact Nat.lt_trans (Nat.mod_lt _ (by decide)) (by decide)
    obtain ⟨v3, ev3⟩ : ∃ v3, v3 = (a + (57896044618658097711785492504343953926634992332820282019728792003956564819949 - b % 57896044618658097711785492504343953926634992332820282019728792003956564819949)) % 57896044618658097711785492504343953926634992332820282019728792003956564819949 := ⟨_, rfl⟩
    have lv3 : v3 < 115792089237316195423570985008687907853269984665640564039457584007913129639936 := by rw [ev3]; exact Nat.lt_trans (Nat.mod_lt _ (by decide)) (by decide)
    obtain ⟨v4, ev4⟩ : ∃ v4, v4 = a * b % 57896044618658097711785492504343953926634992332820282019728792003956564819949 := ⟨_, rfl⟩
    have lv4 : v4 < 115792089237316195423570985008687907853269984665640564039457584007913129639936 := by rw [ev4]; exact Nat.lt_trans (Nat.mod_lt _ (by decide)) (by decide)
    obtain ⟨v5, ev5⟩ : ∃ v5, v5 = decide (a % 57896044618658097711785492504343953926634992332820282019728792003956564819949 = 0) := ⟨_, rfl⟩
    have C_limb_Reduce_a : ∀ w', Below wc.heap.size wc w' → Calls Tryd.prog 11 [.agg (numA a)].toArray w' fun e w2 => e = .returned (.agg (numA v1)) ∧ Below wc.heap.size wc w2 := fun w' hb => by rw [ev1]; exact (Reduce_any a w' la).mono fun e w2 hh => ⟨hh.1, hb.trans (hh.2.mono hb.size)⟩
    have C_signetringref01_Reduce_a : ∀ w', Below wc.heap.size wc w' → Calls Tryd.prog 12 [.agg (numA a)].toArray w' fun e w2 => e = .returned (.agg (numA v1)) ∧ Below wc.heap.size wc w2 := fun w' hb => by rw [ev1]; exact (rReduce_any a w' la).mono fun e w2 hh => ⟨hh.1, hb.trans (hh.2.mono hb.size)⟩
    have C_limb_Add_a_b : ∀ w', Below wc.heap.size wc w' → Calls Tryd.prog 13 [.agg (numA a), .agg (numA b)].toArray w' fun e w2 => e = .returned (.agg (numA v2)) ∧ Below wc.heap.size wc w2 := fun w' hb => by rw [ev2]; exact (Add_any a b w' la lb).mono fun e w2 hh => ⟨hh.1, hb.trans (hh.2.mono hb.size)⟩
    have C_signetringref01_Add_a_b : ∀ w', Below wc.heap.size wc w' → Calls Tryd.prog 14 [.agg (numA a), .agg (numA b)].toArray w' fun e w2 => e = .returned (.agg (numA v2)) ∧ Below wc.heap.size wc w2 := fun w' hb => by rw [ev2]; exact (rAdd_any a b w' la lb).mono fun e w2 hh => ⟨hh.1, hb.trans (hh.2.mono hb.size)⟩
    have C_limb_Sub_a_b : ∀ w', Below wc.heap.size wc w' → Calls Tryd.prog 15 [.agg (numA a), .agg (numA b)].toArray w' fun e w2 => e = .returned (.agg (numA v3)) ∧ Below wc.heap.size wc w2 := fun w' hb => by rw [ev3]; exact (Sub_any a b w' la lb (PrimeAt.below HPW hb)).mono fun e w2 hh => ⟨hh.1, hb.trans (hh.2.mono hb.size)⟩
    have C_signetringref01_Sub_a_b : ∀ w', Below wc.heap.size wc w' → Calls Tryd.prog 16 [.agg (numA a), .agg (numA b)].toArray w' fun e w2 => e = .returned (.agg (numA v3)) ∧ Below wc.heap.size wc w2 := fun w' hb => by rw [ev3]; exact (rSub_any a b w' la lb).mono fun e w2 hh => ⟨hh.1, hb.trans (hh.2.mono hb.size)⟩
    have C_limb_Mul_a_b : ∀ w', Below wc.heap.size wc w' → Calls Tryd.prog 17 [.agg (numA a), .agg (numA b)].toArray w' fun e w2 => e = .returned (.agg (numA v4)) ∧ Below wc.heap.size wc w2 := fun w' hb => by rw [ev4]; exact (Mul_any a b w' la lb).mono fun e w2 hh => ⟨hh.1, hb.trans (hh.2.mono hb.size)⟩
    have C_signetringref01_Mul_a_b : ∀ w', Below wc.heap.size wc w' → Calls Tryd.prog 18 [.agg (numA a), .agg (numA b)].toArray w' fun e w2 => e = .returned (.agg (numA v4)) ∧ Below wc.heap.size wc w2 := fun w' hb => by rw [ev4]; exact (rMul_any a b w' la lb).mono fun e w2 hh => ⟨hh.1, hb.trans (hh.2.mono hb.size)⟩
    have C_limb_Zero_a : ∀ w', Below wc.heap.size wc w' → Calls Tryd.prog 19 [.agg (numA a)].toArray w' fun e w2 => e = .returned (.bool v5) ∧ Below wc.heap.size wc w2 := fun w' hb => by rw [ev5]; exact (Zero_any a w' la).mono fun e w2 hh => ⟨hh.1, hb.trans (hh.2.mono hb.size)⟩
    have zv5 : v5 = true := by rw [ev5]; exact decide_eq_true za
    refine wp_region_quiet (C := fun w' => Below wc.heap.size wc w') (by kernel_rfl) (by kernel_rfl) (Below.drew (Below.refl _ _)) ?_
    refine q_load (by kernel_rfl) 22 _ (w.heap.size) 22 (numA a) (0, 0) _ rfl (by kernel_rfl) (fun w' hb => At.under Fa hb) Tryd.underlying22 rfl (by rw [numA_size]; kernel_rfl) ?_
    simp only [Act.put, List.setIfInBounds_toArray, List.set_cons_succ, List.set_cons_zero]
    refine q_call (by kernel_rfl) 11 Tryd.f11 _ _ _ [.agg (numA a)] (.agg (numA v1)) rfl (by kernel_rfl) Tryd.func11 (by kernel_rfl) rfl C_limb_Reduce_a ?_
    simp only [Act.put, List.setIfInBounds_toArray, List.set_cons_succ, List.set_cons_zero]
    refine q_load (by kernel_rfl) 22 _ (w.heap.size) 22 (numA a) (0, 0) _ rfl (by kernel_rfl) (fun w' hb => At.under Fa hb) Tryd.underlying22 rfl (by rw [numA_size]; kernel_rfl) ?_
    simp only [Act.put, List.setIfInBounds_toArray, List.set_cons_succ, List.set_cons_zero]
    refine q_call (by kernel_rfl) 12 Tryd.f12 _ _ _ [.agg (numA a)] (.agg (numA v1)) rfl (by kernel_rfl) Tryd.func12 (by kernel_rfl) rfl C_signetringref01_Reduce_a ?_
    simp only [Act.put, List.setIfInBounds_toArray, List.set_cons_succ, List.set_cons_zero]
    refine q_val (by kernel_rfl) (.bool true) (fun w' => (run_eql_num (t := 22) (e := 5) v1 v1 rfl (by kernel_rfl) (by kernel_rfl) lv1 lv1 Tryd.underlying22 Tryd.underlying5 sz5 ag5 eqG w').trans (by rw [show decide (v1 = v1) = true from decide_eq_true rfl])) ?_
    simp only [Act.put, List.setIfInBounds_toArray, List.set_cons_succ, List.set_cons_zero]
    refine q_val (by kernel_rfl) (.bool true) (fun w' => by kernel_rfl) ?_
    simp only [Act.put, List.setIfInBounds_toArray, List.set_cons_succ, List.set_cons_zero]
    refine q_load (by kernel_rfl) 22 _ (w.heap.size) 22 (numA a) (0, 0) _ rfl (by kernel_rfl) (fun w' hb => At.under Fa hb) Tryd.underlying22 rfl (by rw [numA_size]; kernel_rfl) ?_
    simp only [Act.put, List.setIfInBounds_toArray, List.set_cons_succ, List.set_cons_zero]
    refine q_load (by kernel_rfl) 22 _ (w.heap.size + 1) 22 (numA b) (0, 0) _ rfl (by kernel_rfl) (fun w' hb => At.under Fb hb) Tryd.underlying22 rfl (by rw [numA_size]; kernel_rfl) ?_
    simp only [Act.put, List.setIfInBounds_toArray, List.set_cons_succ, List.set_cons_zero]
    refine q_call (by kernel_rfl) 13 Tryd.f13 _ _ _ [.agg (numA a), .agg (numA b)] (.agg (numA v2)) rfl (by kernel_rfl) Tryd.func13 (by kernel_rfl) rfl C_limb_Add_a_b ?_
    simp only [Act.put, List.setIfInBounds_toArray, List.set_cons_succ, List.set_cons_zero]
    refine q_load (by kernel_rfl) 22 _ (w.heap.size) 22 (numA a) (0, 0) _ rfl (by kernel_rfl) (fun w' hb => At.under Fa hb) Tryd.underlying22 rfl (by rw [numA_size]; kernel_rfl) ?_
    simp only [Act.put, List.setIfInBounds_toArray, List.set_cons_succ, List.set_cons_zero]
    refine q_load (by kernel_rfl) 22 _ (w.heap.size + 1) 22 (numA b) (0, 0) _ rfl (by kernel_rfl) (fun w' hb => At.under Fb hb) Tryd.underlying22 rfl (by rw [numA_size]; kernel_rfl) ?_
    simp only [Act.put, List.setIfInBounds_toArray, List.set_cons_succ, List.set_cons_zero]
    refine q_call (by kernel_rfl) 14 Tryd.f14 _ _ _ [.agg (numA a), .agg (numA b)] (.agg (numA v2)) rfl (by kernel_rfl) Tryd.func14 (by kernel_rfl) rfl C_signetringref01_Add_a_b ?_
    simp only [Act.put, List.setIfInBounds_toArray, List.set_cons_succ, List.set_cons_zero]
    refine q_val (by kernel_rfl) (.bool true) (fun w' => (run_eql_num (t := 22) (e := 5) v2 v2 rfl (by kernel_rfl) (by kernel_rfl) lv2 lv2 Tryd.underlying22 Tryd.underlying5 sz5 ag5 eqG w').trans (by rw [show decide (v2 = v2) = true from decide_eq_true rfl])) ?_
    simp only [Act.put, List.setIfInBounds_toArray, List.set_cons_succ, List.set_cons_zero]
    refine q_val (by kernel_rfl) (.bool true) (fun w' => by kernel_rfl) ?_
    simp only [Act.put, List.setIfInBounds_toArray, List.set_cons_succ, List.set_cons_zero]
    refine q_val (by kernel_rfl) (.bool true) (fun w' => by kernel_rfl) ?_
    simp only [Act.put, List.setIfInBounds_toArray, List.set_cons_succ, List.set_cons_zero]
    refine q_load (by kernel_rfl) 22 _ (w.heap.size) 22 (numA a) (0, 0) _ rfl (by kernel_rfl) (fun w' hb => At.under Fa hb) Tryd.underlying22 rfl (by rw [numA_size]; kernel_rfl) ?_
    simp only [Act.put, List.setIfInBounds_toArray, List.set_cons_succ, List.set_cons_zero]
    refine q_load (by kernel_rfl) 22 _ (w.heap.size + 1) 22 (numA b) (0, 0) _ rfl (by kernel_rfl) (fun w' hb => At.under Fb hb) Tryd.underlying22 rfl (by rw [numA_size]; kernel_rfl) ?_
    simp only [Act.put, List.setIfInBounds_toArray, List.set_cons_succ, List.set_cons_zero]
    refine q_call (by kernel_rfl) 15 Tryd.f15 _ _ _ [.agg (numA a), .agg (numA b)] (.agg (numA v3)) rfl (by kernel_rfl) Tryd.func15 (by kernel_rfl) rfl C_limb_Sub_a_b ?_
    simp only [Act.put, List.setIfInBounds_toArray, List.set_cons_succ, List.set_cons_zero]
    refine q_load (by kernel_rfl) 22 _ (w.heap.size) 22 (numA a) (0, 0) _ rfl (by kernel_rfl) (fun w' hb => At.under Fa hb) Tryd.underlying22 rfl (by rw [numA_size]; kernel_rfl) ?_
    simp only [Act.put, List.setIfInBounds_toArray, List.set_cons_succ, List.set_cons_zero]
    refine q_load (by kernel_rfl) 22 _ (w.heap.size + 1) 22 (numA b) (0, 0) _ rfl (by kernel_rfl) (fun w' hb => At.under Fb hb) Tryd.underlying22 rfl (by rw [numA_size]; kernel_rfl) ?_
    simp only [Act.put, List.setIfInBounds_toArray, List.set_cons_succ, List.set_cons_zero]
    refine q_call (by kernel_rfl) 16 Tryd.f16 _ _ _ [.agg (numA a), .agg (numA b)] (.agg (numA v3)) rfl (by kernel_rfl) Tryd.func16 (by kernel_rfl) rfl C_signetringref01_Sub_a_b ?_
    simp only [Act.put, List.setIfInBounds_toArray, List.set_cons_succ, List.set_cons_zero]
    refine q_val (by kernel_rfl) (.bool true) (fun w' => (run_eql_num (t := 22) (e := 5) v3 v3 rfl (by kernel_rfl) (by kernel_rfl) lv3 lv3 Tryd.underlying22 Tryd.underlying5 sz5 ag5 eqG w').trans (by rw [show decide (v3 = v3) = true from decide_eq_true rfl])) ?_
    simp only [Act.put, List.setIfInBounds_toArray, List.set_cons_succ, List.set_cons_zero]
    refine q_val (by kernel_rfl) (.bool true) (fun w' => by kernel_rfl) ?_
    simp only [Act.put, List.setIfInBounds_toArray, List.set_cons_succ, List.set_cons_zero]
    refine q_val (by kernel_rfl) (.bool true) (fun w' => by kernel_rfl) ?_
    simp only [Act.put, List.setIfInBounds_toArray, List.set_cons_succ, List.set_cons_zero]
    refine q_load (by kernel_rfl) 22 _ (w.heap.size) 22 (numA a) (0, 0) _ rfl (by kernel_rfl) (fun w' hb => At.under Fa hb) Tryd.underlying22 rfl (by rw [numA_size]; kernel_rfl) ?_
    simp only [Act.put, List.setIfInBounds_toArray, List.set_cons_succ, List.set_cons_zero]
    refine q_load (by kernel_rfl) 22 _ (w.heap.size + 1) 22 (numA b) (0, 0) _ rfl (by kernel_rfl) (fun w' hb => At.under Fb hb) Tryd.underlying22 rfl (by rw [numA_size]; kernel_rfl) ?_
    simp only [Act.put, List.setIfInBounds_toArray, List.set_cons_succ, List.set_cons_zero]
    refine q_call (by kernel_rfl) 17 Tryd.f17 _ _ _ [.agg (numA a), .agg (numA b)] (.agg (numA v4)) rfl (by kernel_rfl) Tryd.func17 (by kernel_rfl) rfl C_limb_Mul_a_b ?_
    simp only [Act.put, List.setIfInBounds_toArray, List.set_cons_succ, List.set_cons_zero]
    refine q_load (by kernel_rfl) 22 _ (w.heap.size) 22 (numA a) (0, 0) _ rfl (by kernel_rfl) (fun w' hb => At.under Fa hb) Tryd.underlying22 rfl (by rw [numA_size]; kernel_rfl) ?_
    simp only [Act.put, List.setIfInBounds_toArray, List.set_cons_succ, List.set_cons_zero]
    refine q_load (by kernel_rfl) 22 _ (w.heap.size + 1) 22 (numA b) (0, 0) _ rfl (by kernel_rfl) (fun w' hb => At.under Fb hb) Tryd.underlying22 rfl (by rw [numA_size]; kernel_rfl) ?_
    simp only [Act.put, List.setIfInBounds_toArray, List.set_cons_succ, List.set_cons_zero]
    refine q_call (by kernel_rfl) 18 Tryd.f18 _ _ _ [.agg (numA a), .agg (numA b)] (.agg (numA v4)) rfl (by kernel_rfl) Tryd.func18 (by kernel_rfl) rfl C_signetringref01_Mul_a_b ?_
    simp only [Act.put, List.setIfInBounds_toArray, List.set_cons_succ, List.set_cons_zero]
    refine q_val (by kernel_rfl) (.bool true) (fun w' => (run_eql_num (t := 22) (e := 5) v4 v4 rfl (by kernel_rfl) (by kernel_rfl) lv4 lv4 Tryd.underlying22 Tryd.underlying5 sz5 ag5 eqG w').trans (by rw [show decide (v4 = v4) = true from decide_eq_true rfl])) ?_
    simp only [Act.put, List.setIfInBounds_toArray, List.set_cons_succ, List.set_cons_zero]
    refine q_val (by kernel_rfl) (.bool true) (fun w' => by kernel_rfl) ?_
    simp only [Act.put, List.setIfInBounds_toArray, List.set_cons_succ, List.set_cons_zero]
    refine q_val (by kernel_rfl) (.bool true) (fun w' => by kernel_rfl) ?_
    simp only [Act.put, List.setIfInBounds_toArray, List.set_cons_succ, List.set_cons_zero]
    refine q_load (by kernel_rfl) 22 _ (w.heap.size) 22 (numA a) (0, 0) _ rfl (by kernel_rfl) (fun w' hb => At.under Fa hb) Tryd.underlying22 rfl (by rw [numA_size]; kernel_rfl) ?_
    simp only [Act.put, List.setIfInBounds_toArray, List.set_cons_succ, List.set_cons_zero]
    refine q_call (by kernel_rfl) 19 Tryd.f19 _ _ _ [.agg (numA a)] (.bool true) rfl (by kernel_rfl) Tryd.func19 (by kernel_rfl) rfl (by rw [← zv5]; exact C_limb_Zero_a) ?_
    simp only [Act.put, List.setIfInBounds_toArray, List.set_cons_succ, List.set_cons_zero]
    refine q_load (by kernel_rfl) 22 _ (w.heap.size) 22 (numA a) (0, 0) _ rfl (by kernel_rfl) (fun w' hb => At.under Fa hb) Tryd.underlying22 rfl (by rw [numA_size]; kernel_rfl) ?_
    simp only [Act.put, List.setIfInBounds_toArray, List.set_cons_succ, List.set_cons_zero]
    refine q_call (by kernel_rfl) 12 Tryd.f12 _ _ _ [.agg (numA a)] (.agg (numA v1)) rfl (by kernel_rfl) Tryd.func12 (by kernel_rfl) rfl C_signetringref01_Reduce_a ?_
    simp only [Act.put, List.setIfInBounds_toArray, List.set_cons_succ, List.set_cons_zero]
    refine q_val (by kernel_rfl) (.agg (numA 0)) (fun w' => by kernel_rfl) ?_
    simp only [Act.put, List.setIfInBounds_toArray, List.set_cons_succ, List.set_cons_zero]
    refine q_val (by kernel_rfl) (.bool true) (fun w' => (run_eql_num (t := 22) (e := 5) v1 0 rfl (by kernel_rfl) (by kernel_rfl) lv1 (by decide) Tryd.underlying22 Tryd.underlying5 sz5 ag5 eqG w').trans (by rw [show decide (v1 = 0) = true from decide_eq_true (by rw [ev1]; exact za)])) ?_
    simp only [Act.put, List.setIfInBounds_toArray, List.set_cons_succ, List.set_cons_zero]
    refine q_val (by kernel_rfl) (.bool true) (fun w' => by kernel_rfl) ?_
    simp only [Act.put, List.setIfInBounds_toArray, List.set_cons_succ, List.set_cons_zero]
    refine q_val (by kernel_rfl) (.bool true) (fun w' => by kernel_rfl) ?_
    simp only [Act.put, List.setIfInBounds_toArray, List.set_cons_succ, List.set_cons_zero]
    refine q_val (by kernel_rfl) (.bool true) (fun w' => by kernel_rfl) ?_
    simp only [Act.put, List.setIfInBounds_toArray, List.set_cons_succ, List.set_cons_zero]
    refine wpQuiet_nil ?_
    intro w5 h5
    have H5 : Kept _ := ⟨h5⟩
    clear h5 za la lb Fa Fb HPW C_limb_Reduce_a C_signetringref01_Reduce_a C_limb_Add_a_b C_signetringref01_Add_a_b C_limb_Sub_a_b C_signetringref01_Sub_a_b C_limb_Mul_a_b C_signetringref01_Mul_a_b C_limb_Zero_a ev1 ev2 ev3 ev4 ev5 lv1 lv2 lv3 lv4 zv5
    go_wp2_with fail
    go_ret
    exact ⟨rfl, HQ.out.trans (Below.mono H5.out HQ.out.size)⟩
  · skip
    obtain ⟨v1, ev1⟩ : ∃ v1, v1 = a % 57896044618658097711785492504343953926634992332820282019728792003956564819949 := ⟨_, rfl⟩
    have lv1 : v1 < 115792089237316195423570985008687907853269984665640564039457584007913129639936 := by rw [ev1]; exact Nat.lt_trans (Nat.mod_lt _ (by decide)) (by decide)
    obtain ⟨v2, ev2⟩ : ∃ v2, v2 = (a + b) % 57896044618658097711785492504343953926634992332820282019728792003956564819949 := ⟨_, rfl⟩
    have lv2 : v2 < 115792089237316195423570985008687907853269984665640564039457584007913129639936 := by rw [ev2]; exact Nat.lt_trans (Nat.mod_lt _ (by decide)) (by decide)
    obtain ⟨v3, ev3⟩ : ∃ v3, v3 = (a + (57896044618658097711785492504343953926634992332820282019728792003956564819949 - b % 57896044618658097711785492504343953926634992332820282019728792003956564819949)) % 57896044618658097711785492504343953926634992332820282019728792003956564819949 := ⟨_, rfl⟩
    have lv3 : v3 < 115792089237316195423570985008687907853269984665640564039457584007913129639936 := by rw [ev3]; exact Nat.lt_trans (Nat.mod_lt _ (by decide)) (by decide)
    obtain ⟨v4, ev4⟩ : ∃ v4, v4 = a * b % 57896044618658097711785492504343953926634992332820282019728792003956564819949 := ⟨_, rfl⟩
    have lv4 : v4 < 115792089237316195423570985008687907853269984665640564039457584007913129639936 := by rw [ev4]; exact Nat.lt_trans (Nat.mod_lt _ (by decide)) (by decide)
    obtain ⟨v5, ev5⟩ : ∃ v5, v5 = decide (a % 57896044618658097711785492504343953926634992332820282019728792003956564819949 = 0) := ⟨_, rfl⟩
    have C_limb_Reduce_a : ∀ w', Below wc.heap.size wc w' → Calls Tryd.prog 11 [.agg (numA a)].toArray w' fun e w2 => e = .returned (.agg (numA v1)) ∧ Below wc.heap.size wc w2 := fun w' hb => by rw [ev1]; exact (Reduce_any a w' la).mono fun e w2 hh => ⟨hh.1, hb.trans (hh.2.mono hb.size)⟩
    have C_signetringref01_Reduce_a : ∀ w', Below wc.heap.size wc w' → Calls Tryd.prog 12 [.agg (numA a)].toArray w' fun e w2 => e = .returned (.agg (numA v1)) ∧ Below wc.heap.size wc w2 := fun w' hb => by rw [ev1]; exact (rReduce_any a w' la).mono fun e w2 hh => ⟨hh.1, hb.trans (hh.2.mono hb.size)⟩
    have C_limb_Add_a_b : ∀ w', Below wc.heap.size wc w' → Calls Tryd.prog 13 [.agg (numA a), .agg (numA b)].toArray w' fun e w2 => e = .returned (.agg (numA v2)) ∧ Below wc.heap.size wc w2 := fun w' hb => by rw [ev2]; exact (Add_any a b w' la lb).mono fun e w2 hh => ⟨hh.1, hb.trans (hh.2.mono hb.size)⟩
    have C_signetringref01_Add_a_b : ∀ w', Below wc.heap.size wc w' → Calls Tryd.prog 14 [.agg (numA a), .agg (numA b)].toArray w' fun e w2 => e = .returned (.agg (numA v2)) ∧ Below wc.heap.size wc w2 := fun w' hb => by rw [ev2]; exact (rAdd_any a b w' la lb).mono fun e w2 hh => ⟨hh.1, hb.trans (hh.2.mono hb.size)⟩
    have C_limb_Sub_a_b : ∀ w', Below wc.heap.size wc w' → Calls Tryd.prog 15 [.agg (numA a), .agg (numA b)].toArray w' fun e w2 => e = .returned (.agg (numA v3)) ∧ Below wc.heap.size wc w2 := fun w' hb => by rw [ev3]; exact (Sub_any a b w' la lb (PrimeAt.below HPW hb)).mono fun e w2 hh => ⟨hh.1, hb.trans (hh.2.mono hb.size)⟩
    have C_signetringref01_Sub_a_b : ∀ w', Below wc.heap.size wc w' → Calls Tryd.prog 16 [.agg (numA a), .agg (numA b)].toArray w' fun e w2 => e = .returned (.agg (numA v3)) ∧ Below wc.heap.size wc w2 := fun w' hb => by rw [ev3]; exact (rSub_any a b w' la lb).mono fun e w2 hh => ⟨hh.1, hb.trans (hh.2.mono hb.size)⟩
    have C_limb_Mul_a_b : ∀ w', Below wc.heap.size wc w' → Calls Tryd.prog 17 [.agg (numA a), .agg (numA b)].toArray w' fun e w2 => e = .returned (.agg (numA v4)) ∧ Below wc.heap.size wc w2 := fun w' hb => by rw [ev4]; exact (Mul_any a b w' la lb).mono fun e w2 hh => ⟨hh.1, hb.trans (hh.2.mono hb.size)⟩
    have C_signetringref01_Mul_a_b : ∀ w', Below wc.heap.size wc w' → Calls Tryd.prog 18 [.agg (numA a), .agg (numA b)].toArray w' fun e w2 => e = .returned (.agg (numA v4)) ∧ Below wc.heap.size wc w2 := fun w' hb => by rw [ev4]; exact (rMul_any a b w' la lb).mono fun e w2 hh => ⟨hh.1, hb.trans (hh.2.mono hb.size)⟩
    have C_limb_Zero_a : ∀ w', Below wc.heap.size wc w' → Calls Tryd.prog 19 [.agg (numA a)].toArray w' fun e w2 => e = .returned (.bool v5) ∧ Below wc.heap.size wc w2 := fun w' hb => by rw [ev5]; exact (Zero_any a w' la).mono fun e w2 hh => ⟨hh.1, hb.trans (hh.2.mono hb.size)⟩
    have zv5 : v5 = false := by rw [ev5]; exact decide_eq_false za
    refine wp_region_quiet (C := fun w' => Below wc.heap.size wc w') (by kernel_rfl) (by kernel_rfl) (Below.drew (Below.refl _ _)) ?_
    refine q_load (by kernel_rfl) 22 _ (w.heap.size) 22 (numA a) (0, 0) _ rfl (by kernel_rfl) (fun w' hb => At.under Fa hb) Tryd.underlying22 rfl (by rw [numA_size]; kernel_rfl) ?_
    simp only [Act.put, List.setIfInBounds_toArray, List.set_cons_succ, List.set_cons_zero]
    refine q_call (by kernel_rfl) 11 Tryd.f11 _ _ _ [.agg (numA a)] (.agg (numA v1)) rfl (by kernel_rfl) Tryd.func11 (by kernel_rfl) rfl C_limb_Reduce_a ?_
    simp only [Act.put, List.setIfInBounds_toArray, List.set_cons_succ, List.set_cons_zero]
    refine q_load (by kernel_rfl) 22 _ (w.heap.size) 22 (numA a) (0, 0) _ rfl (by kernel_rfl) (fun w' hb => At.under Fa hb) Tryd.underlying22 rfl (by rw [numA_size]; kernel_rfl) ?_
    simp only [Act.put, List.setIfInBounds_toArray, List.set_cons_succ, List.set_cons_zero]
    refine q_call (by kernel_rfl) 12 Tryd.f12 _ _ _ [.agg (numA a)] (.agg (numA v1)) rfl (by kernel_rfl) Tryd.func12 (by kernel_rfl) rfl C_signetringref01_Reduce_a ?_
    simp only [Act.put, List.setIfInBounds_toArray, List.set_cons_succ, List.set_cons_zero]
    refine q_val (by kernel_rfl) (.bool true) (fun w' => (run_eql_num (t := 22) (e := 5) v1 v1 rfl (by kernel_rfl) (by kernel_rfl) lv1 lv1 Tryd.underlying22 Tryd.underlying5 sz5 ag5 eqG w').trans (by rw [show decide (v1 = v1) = true from decide_eq_true rfl])) ?_
    simp only [Act.put, List.setIfInBounds_toArray, List.set_cons_succ, List.set_cons_zero]
    refine q_val (by kernel_rfl) (.bool true) (fun w' => by kernel_rfl) ?_
    simp only [Act.put, List.setIfInBounds_toArray, List.set_cons_succ, List.set_cons_zero]
    refine q_load (by kernel_rfl) 22 _ (w.heap.size) 22 (numA a) (0, 0) _ rfl (by kernel_rfl) (fun w' hb => At.under Fa hb) Tryd.underlying22 rfl (by rw [numA_size]; kernel_rfl) ?_
    simp only [Act.put, List.setIfInBounds_toArray, List.set_cons_succ, List.set_cons_zero]
    refine q_load (by kernel_rfl) 22 _ (w.heap.size + 1) 22 (numA b) (0, 0) _ rfl (by kernel_rfl) (fun w' hb => At.under Fb hb) Tryd.underlying22 rfl (by rw [numA_size]; kernel_rfl) ?_
    simp only [Act.put, List.setIfInBounds_toArray, List.set_cons_succ, List.set_cons_zero]
    refine q_call (by kernel_rfl) 13 Tryd.f13 _ _ _ [.agg (numA a), .agg (numA b)] (.agg (numA v2)) rfl (by kernel_rfl) Tryd.func13 (by kernel_rfl) rfl C_limb_Add_a_b ?_
    simp only [Act.put, List.setIfInBounds_toArray, List.set_cons_succ, List.set_cons_zero]
    refine q_load (by kernel_rfl) 22 _ (w.heap.size) 22 (numA a) (0, 0) _ rfl (by kernel_rfl) (fun w' hb => At.under Fa hb) Tryd.underlying22 rfl (by rw [numA_size]; kernel_rfl) ?_
    simp only [Act.put, List.setIfInBounds_toArray, List.set_cons_succ, List.set_cons_zero]
    refine q_load (by kernel_rfl) 22 _ (w.heap.size + 1) 22 (numA b) (0, 0) _ rfl (by kernel_rfl) (fun w' hb => At.under Fb hb) Tryd.underlying22 rfl (by rw [numA_size]; kernel_rfl) ?_
    simp only [Act.put, List.setIfInBounds_toArray, List.set_cons_succ, List.set_cons_zero]
    refine q_call (by kernel_rfl) 14 Tryd.f14 _ _ _ [.agg (numA a), .agg (numA b)] (.agg (numA v2)) rfl (by kernel_rfl) Tryd.func14 (by kernel_rfl) rfl C_signetringref01_Add_a_b ?_
    simp only [Act.put, List.setIfInBounds_toArray, List.set_cons_succ, List.set_cons_zero]
    refine q_val (by kernel_rfl) (.bool true) (fun w' => (run_eql_num (t := 22) (e := 5) v2 v2 rfl (by kernel_rfl) (by kernel_rfl) lv2 lv2 Tryd.underlying22 Tryd.underlying5 sz5 ag5 eqG w').trans (by rw [show decide (v2 = v2) = true from decide_eq_true rfl])) ?_
    simp only [Act.put, List.setIfInBounds_toArray, List.set_cons_succ, List.set_cons_zero]
    refine q_val (by kernel_rfl) (.bool true) (fun w' => by kernel_rfl) ?_
    simp only [Act.put, List.setIfInBounds_toArray, List.set_cons_succ, List.set_cons_zero]
    refine q_val (by kernel_rfl) (.bool true) (fun w' => by kernel_rfl) ?_
    simp only [Act.put, List.setIfInBounds_toArray, List.set_cons_succ, List.set_cons_zero]
    refine q_load (by kernel_rfl) 22 _ (w.heap.size) 22 (numA a) (0, 0) _ rfl (by kernel_rfl) (fun w' hb => At.under Fa hb) Tryd.underlying22 rfl (by rw [numA_size]; kernel_rfl) ?_
    simp only [Act.put, List.setIfInBounds_toArray, List.set_cons_succ, List.set_cons_zero]
    refine q_load (by kernel_rfl) 22 _ (w.heap.size + 1) 22 (numA b) (0, 0) _ rfl (by kernel_rfl) (fun w' hb => At.under Fb hb) Tryd.underlying22 rfl (by rw [numA_size]; kernel_rfl) ?_
    simp only [Act.put, List.setIfInBounds_toArray, List.set_cons_succ, List.set_cons_zero]
    refine q_call (by kernel_rfl) 15 Tryd.f15 _ _ _ [.agg (numA a), .agg (numA b)] (.agg (numA v3)) rfl (by kernel_rfl) Tryd.func15 (by kernel_rfl) rfl C_limb_Sub_a_b ?_
    simp only [Act.put, List.setIfInBounds_toArray, List.set_cons_succ, List.set_cons_zero]
    refine q_load (by kernel_rfl) 22 _ (w.heap.size) 22 (numA a) (0, 0) _ rfl (by kernel_rfl) (fun w' hb => At.under Fa hb) Tryd.underlying22 rfl (by rw [numA_size]; kernel_rfl) ?_
    simp only [Act.put, List.setIfInBounds_toArray, List.set_cons_succ, List.set_cons_zero]
    refine q_load (by kernel_rfl) 22 _ (w.heap.size + 1) 22 (numA b) (0, 0) _ rfl (by kernel_rfl) (fun w' hb => At.under Fb hb) Tryd.underlying22 rfl (by rw [numA_size]; kernel_rfl) ?_
    simp only [Act.put, List.setIfInBounds_toArray, List.set_cons_succ, List.set_cons_zero]
    refine q_call (by kernel_rfl) 16 Tryd.f16 _ _ _ [.agg (numA a), .agg (numA b)] (.agg (numA v3)) rfl (by kernel_rfl) Tryd.func16 (by kernel_rfl) rfl C_signetringref01_Sub_a_b ?_
    simp only [Act.put, List.setIfInBounds_toArray, List.set_cons_succ, List.set_cons_zero]
    refine q_val (by kernel_rfl) (.bool true) (fun w' => (run_eql_num (t := 22) (e := 5) v3 v3 rfl (by kernel_rfl) (by kernel_rfl) lv3 lv3 Tryd.underlying22 Tryd.underlying5 sz5 ag5 eqG w').trans (by rw [show decide (v3 = v3) = true from decide_eq_true rfl])) ?_
    simp only [Act.put, List.setIfInBounds_toArray, List.set_cons_succ, List.set_cons_zero]
    refine q_val (by kernel_rfl) (.bool true) (fun w' => by kernel_rfl) ?_
    simp only [Act.put, List.setIfInBounds_toArray, List.set_cons_succ, List.set_cons_zero]
    refine q_val (by kernel_rfl) (.bool true) (fun w' => by kernel_rfl) ?_
    simp only [Act.put, List.setIfInBounds_toArray, List.set_cons_succ, List.set_cons_zero]
    refine q_load (by kernel_rfl) 22 _ (w.heap.size) 22 (numA a) (0, 0) _ rfl (by kernel_rfl) (fun w' hb => At.under Fa hb) Tryd.underlying22 rfl (by rw [numA_size]; kernel_rfl) ?_
    simp only [Act.put, List.setIfInBounds_toArray, List.set_cons_succ, List.set_cons_zero]
    refine q_load (by kernel_rfl) 22 _ (w.heap.size + 1) 22 (numA b) (0, 0) _ rfl (by kernel_rfl) (fun w' hb => At.under Fb hb) Tryd.underlying22 rfl (by rw [numA_size]; kernel_rfl) ?_
    simp only [Act.put, List.setIfInBounds_toArray, List.set_cons_succ, List.set_cons_zero]
    refine q_call (by kernel_rfl) 17 Tryd.f17 _ _ _ [.agg (numA a), .agg (numA b)] (.agg (numA v4)) rfl (by kernel_rfl) Tryd.func17 (by kernel_rfl) rfl C_limb_Mul_a_b ?_
    simp only [Act.put, List.setIfInBounds_toArray, List.set_cons_succ, List.set_cons_zero]
    refine q_load (by kernel_rfl) 22 _ (w.heap.size) 22 (numA a) (0, 0) _ rfl (by kernel_rfl) (fun w' hb => At.under Fa hb) Tryd.underlying22 rfl (by rw [numA_size]; kernel_rfl) ?_
    simp only [Act.put, List.setIfInBounds_toArray, List.set_cons_succ, List.set_cons_zero]
    refine q_load (by kernel_rfl) 22 _ (w.heap.size + 1) 22 (numA b) (0, 0) _ rfl (by kernel_rfl) (fun w' hb => At.under Fb hb) Tryd.underlying22 rfl (by rw [numA_size]; kernel_rfl) ?_
    simp only [Act.put, List.setIfInBounds_toArray, List.set_cons_succ, List.set_cons_zero]
    refine q_call (by kernel_rfl) 18 Tryd.f18 _ _ _ [.agg (numA a), .agg (numA b)] (.agg (numA v4)) rfl (by kernel_rfl) Tryd.func18 (by kernel_rfl) rfl C_signetringref01_Mul_a_b ?_
    simp only [Act.put, List.setIfInBounds_toArray, List.set_cons_succ, List.set_cons_zero]
    refine q_val (by kernel_rfl) (.bool true) (fun w' => (run_eql_num (t := 22) (e := 5) v4 v4 rfl (by kernel_rfl) (by kernel_rfl) lv4 lv4 Tryd.underlying22 Tryd.underlying5 sz5 ag5 eqG w').trans (by rw [show decide (v4 = v4) = true from decide_eq_true rfl])) ?_
    simp only [Act.put, List.setIfInBounds_toArray, List.set_cons_succ, List.set_cons_zero]
    refine q_val (by kernel_rfl) (.bool true) (fun w' => by kernel_rfl) ?_
    simp only [Act.put, List.setIfInBounds_toArray, List.set_cons_succ, List.set_cons_zero]
    refine q_val (by kernel_rfl) (.bool true) (fun w' => by kernel_rfl) ?_
    simp only [Act.put, List.setIfInBounds_toArray, List.set_cons_succ, List.set_cons_zero]
    refine q_load (by kernel_rfl) 22 _ (w.heap.size) 22 (numA a) (0, 0) _ rfl (by kernel_rfl) (fun w' hb => At.under Fa hb) Tryd.underlying22 rfl (by rw [numA_size]; kernel_rfl) ?_
    simp only [Act.put, List.setIfInBounds_toArray, List.set_cons_succ, List.set_cons_zero]
    refine q_call (by kernel_rfl) 19 Tryd.f19 _ _ _ [.agg (numA a)] (.bool false) rfl (by kernel_rfl) Tryd.func19 (by kernel_rfl) rfl (by rw [← zv5]; exact C_limb_Zero_a) ?_
    simp only [Act.put, List.setIfInBounds_toArray, List.set_cons_succ, List.set_cons_zero]
    refine q_load (by kernel_rfl) 22 _ (w.heap.size) 22 (numA a) (0, 0) _ rfl (by kernel_rfl) (fun w' hb => At.under Fa hb) Tryd.underlying22 rfl (by rw [numA_size]; kernel_rfl) ?_
    simp only [Act.put, List.setIfInBounds_toArray, List.set_cons_succ, List.set_cons_zero]
    refine q_call (by kernel_rfl) 12 Tryd.f12 _ _ _ [.agg (numA a)] (.agg (numA v1)) rfl (by kernel_rfl) Tryd.func12 (by kernel_rfl) rfl C_signetringref01_Reduce_a ?_
    simp only [Act.put, List.setIfInBounds_toArray, List.set_cons_succ, List.set_cons_zero]
    refine q_val (by kernel_rfl) (.agg (numA 0)) (fun w' => by kernel_rfl) ?_
    simp only [Act.put, List.setIfInBounds_toArray, List.set_cons_succ, List.set_cons_zero]
    refine q_val (by kernel_rfl) (.bool false) (fun w' => (run_eql_num (t := 22) (e := 5) v1 0 rfl (by kernel_rfl) (by kernel_rfl) lv1 (by decide) Tryd.underlying22 Tryd.underlying5 sz5 ag5 eqG w').trans (by rw [show decide (v1 = 0) = false from decide_eq_false (by rw [ev1]; exact za)])) ?_
    simp only [Act.put, List.setIfInBounds_toArray, List.set_cons_succ, List.set_cons_zero]
    refine q_val (by kernel_rfl) (.bool true) (fun w' => by kernel_rfl) ?_
    simp only [Act.put, List.setIfInBounds_toArray, List.set_cons_succ, List.set_cons_zero]
    refine q_val (by kernel_rfl) (.bool true) (fun w' => by kernel_rfl) ?_
    simp only [Act.put, List.setIfInBounds_toArray, List.set_cons_succ, List.set_cons_zero]
    refine q_val (by kernel_rfl) (.bool true) (fun w' => by kernel_rfl) ?_
    simp only [Act.put, List.setIfInBounds_toArray, List.set_cons_succ, List.set_cons_zero]
    refine wpQuiet_nil ?_
    intro w5 h5
    have H5 : Kept _ := ⟨h5⟩
    clear h5 za la lb Fa Fb HPW C_limb_Reduce_a C_signetringref01_Reduce_a C_limb_Add_a_b C_signetringref01_Add_a_b C_limb_Sub_a_b C_signetringref01_Sub_a_b C_limb_Mul_a_b C_signetringref01_Mul_a_b C_limb_Zero_a ev1 ev2 ev3 ev4 ev5 lv1 lv2 lv3 lv4 zv5
    go_wp2_with fail
    go_ret
    exact ⟨rfl, HQ.out.trans (Below.mono H5.out HQ.out.size)⟩


set_option maxHeartbeats 1000000 in
theorem tells_false (a b : Nat) (w : World) (la : a < 115792089237316195423570985008687907853269984665640564039457584007913129639936) (lb : b < 115792089237316195423570985008687907853269984665640564039457584007913129639936) (hp : PrimeAt w) :
    Calls Tryd.prog 3 #[.agg (numA a), .agg (numA b), .bool false] w fun e w' => e = .returned (.bool true) ∧ Below w.heap.size w w' := by
  have LA : Kept _ := ⟨la⟩
  have LB : Kept _ := ⟨lb⟩
  have HP : Kept _ := ⟨hp⟩
  clear la lb hp
  go_enter Tryd.func3, Tryd.ntmps3
  go_wp2_with fail
  generalize hW : (w.alloc (.cells (numA a) 22)).alloc (.cells (numA b) 22) = W
  obtain ⟨Aa, Ab, QB⟩ := two_nums w a b W hW
  clear hW
  refine (alive_any _ (PrimeAt.below HP.out QB)).mono ?_
  rintro e w1 ⟨rfl, hb1⟩
  have Aa1 := Aa.under hb1
  have Ab1 := Ab.under hb1
  have QB1 := QB.trans (hb1.mono QB.size)
  clear Aa Ab QB hb1
  go_wp2_with (first | (refine wpList_get rfl (.tmp 3) rfl _ a rfl Aa1 ?_) | (refine wpList_get rfl (.tmp 4) rfl _ b rfl Ab1 ?_))
  refine (Swap_no a b _).mono ?_
  rintro e w2 ⟨rfl, hb2⟩
  have Aa2 := Aa1.under hb2
  have Ab2 := Ab1.under hb2
  have QB2 := QB1.trans (hb2.mono QB1.size)
  clear Aa1 Ab1 QB1 hb2
  go_wp2_with (first | (refine wpList_put rfl (.tmp 7) (.tmp 16) rfl _ a rfl rfl ((room_top _ _ rfl).alloc _) ?_) | go_in)
  intro w3 A3 P3
  have Aa3 := P3.at ((Aa2.alloc _).alloc _) (Nat.ne_of_lt Aa2.lt)
  have Ab3 := P3.at ((Ab2.alloc _).alloc _) (Nat.ne_of_lt Ab2.lt)
  have R3 := P3.room (room_top _ (w2.heap.size + 1) (by simp)) (by omega)
  have QB3 : Below w.heap.size w w3 := ((QB2.alloc QB2.size _).alloc (by have := QB2.size; simp; omega) _).trans (P3.below QB2.size)
  have hs3 : w3.heap.size = w2.heap.size + 2 := by rw [P3.size]; simp
  have hl2 := Ab2.lt
  have HS : Kept (w.heap.size ≤ w2.heap.size ∧ w.heap.size + 1 < w2.heap.size) := ⟨QB2.size, hl2⟩
  clear P3 Aa2 Ab2 QB2 hl2 hs3
  go_wp2_with (first | (refine wpList_put rfl (.tmp 8) (.tmp 17) rfl _ b rfl rfl R3 ?_) | go_in)
  intro w4 A4 P4
  have Aa4 := P4.at Aa3 (by have := HS.out; omega)
  have Ab4 := P4.at Ab3 (by have := HS.out; omega)
  have Ax4 := P4.at A3 (by omega)
  have QB4 : Below w.heap.size w w4 := QB3.trans (P4.below (by have := HS.out; omega))
  clear P4 Aa3 Ab3 A3 QB3 R3
  go_wp2_with (first | (with_reducible refine w_skip (d := 20) ?hd ?hw ?_; (case hd => rfl); (case hw => kernel_rfl); simp only [Act.put, List.setIfInBounds_toArray, List.set_cons_succ, List.set_cons_zero]) | (with_reducible refine w_skip (d := 21) ?hd ?hw ?_; (case hd => rfl); (case hw => kernel_rfl); simp only [Act.put, List.setIfInBounds_toArray, List.set_cons_succ, List.set_cons_zero]) | (with_reducible refine w_skip (d := 22) ?hd ?hw ?_; (case hd => rfl); (case hw => kernel_rfl); simp only [Act.put, List.setIfInBounds_toArray, List.set_cons_succ, List.set_cons_zero]) | (with_reducible refine w_skip (d := 23) ?hd ?hw ?_; (case hd => rfl); (case hw => kernel_rfl); simp only [Act.put, List.setIfInBounds_toArray, List.set_cons_succ, List.set_cons_zero]) | (with_reducible refine w_skip (d := 24) ?hd ?hw ?_; (case hd => rfl); (case hw => kernel_rfl); simp only [Act.put, List.setIfInBounds_toArray, List.set_cons_succ, List.set_cons_zero]) | (with_reducible refine w_skip (d := 25) ?hd ?hw ?_; (case hd => rfl); (case hw => kernel_rfl); simp only [Act.put, List.setIfInBounds_toArray, List.set_cons_succ, List.set_cons_zero]) | (with_reducible refine w_skip (d := 26) ?hd ?hw ?_; (case hd => rfl); (case hw => kernel_rfl); simp only [Act.put, List.setIfInBounds_toArray, List.set_cons_succ, List.set_cons_zero]) | (with_reducible refine w_skip (d := 27) ?hd ?hw ?_; (case hd => rfl); (case hw => kernel_rfl); simp only [Act.put, List.setIfInBounds_toArray, List.set_cons_succ, List.set_cons_zero]) | (with_reducible refine w_get (d := 33) ?hd ?hw (.tmp 7) ?ho w2.heap.size a ?hx Ax4 ?_; (case hd => rfl); (case hw => kernel_rfl); (case ho => rfl); (case hx => kernel_rfl); simp only [Act.put, List.setIfInBounds_toArray, List.set_cons_succ, List.set_cons_zero]) | (with_reducible refine w_get (d := 34) ?hd ?hw (.tmp 3) ?ho w.heap.size a ?hx Aa4 ?_; (case hd => rfl); (case hw => kernel_rfl); (case ho => rfl); (case hx => kernel_rfl); simp only [Act.put, List.setIfInBounds_toArray, List.set_cons_succ, List.set_cons_zero]) | (with_reducible refine w_neq (d := 35) (x := .tmp 33) (y := .tmp 34) ?hd ?hw a a ?ho ?hx ?hy LA.out LA.out false ?hb ?_; (case hd => rfl); (case hw => kernel_rfl); (case ho => rfl); (case hx => kernel_rfl); (case hy => kernel_rfl); (case hb => simp); simp only [Act.put, List.setIfInBounds_toArray, List.set_cons_succ, List.set_cons_zero]) | (with_reducible refine w_get (d := 37) ?hd ?hw (.tmp 8) ?ho (w2.heap.size + 1) b ?hx A4 ?_; (case hd => rfl); (case hw => kernel_rfl); (case ho => rfl); (case hx => kernel_rfl); simp only [Act.put, List.setIfInBounds_toArray, List.set_cons_succ, List.set_cons_zero]) | (with_reducible refine w_get (d := 38) ?hd ?hw (.tmp 4) ?ho (w.heap.size + 1) b ?hx Ab4 ?_; (case hd => rfl); (case hw => kernel_rfl); (case ho => rfl); (case hx => kernel_rfl); simp only [Act.put, List.setIfInBounds_toArray, List.set_cons_succ, List.set_cons_zero]) | (with_reducible refine w_neq (d := 39) (x := .tmp 37) (y := .tmp 38) ?hd ?hw b b ?ho ?hx ?hy LB.out LB.out false ?hb ?_; (case hd => rfl); (case hw => kernel_rfl); (case ho => rfl); (case hx => kernel_rfl); (case hy => kernel_rfl); (case hb => simp); simp only [Act.put, List.setIfInBounds_toArray, List.set_cons_succ, List.set_cons_zero]))
  have Fa := Aa4
  have Fb := Ab4
  have la := LA.out
  have lb := LB.out
  have HPW := PrimeAt.below HP.out QB4
  have HQ : Kept _ := ⟨QB4⟩
  clear QB4 Ax4 A4 Aa4 Ab4
  generalize w4 = wc at *
  by_cases za : a % 57896044618658097711785492504343953926634992332820282019728792003956564819949 = 0
  · skip
    obtain ⟨v1, ev1⟩ : ∃ v1, v1 = a % 57896044618658097711785492504343953926634992332820282019728792003956564819949 := ⟨_, rfl⟩
    have lv1 : v1 < 115792089237316195423570985008687907853269984665640564039457584007913129639936 := by rw [ev1]; exact Nat.lt_trans (Nat.mod_lt _ (by decide)) (by decide)
    obtain ⟨v2, ev2⟩ : ∃ v2, v2 = (a + b) % 57896044618658097711785492504343953926634992332820282019728792003956564819949 := ⟨_, rfl⟩
    have lv2 : v2 < 115792089237316195423570985008687907853269984665640564039457584007913129639936 := by rw [ev2]; exact Nat.lt_trans (Nat.mod_lt _ (by decide)) (by decide)
    obtain ⟨v3, ev3⟩ : ∃ v3, v3 = (a + (57896044618658097711785492504343953926634992332820282019728792003956564819949 - b % 57896044618658097711785492504343953926634992332820282019728792003956564819949)) % 57896044618658097711785492504343953926634992332820282019728792003956564819949 := ⟨_, rfl⟩
    have lv3 : v3 < 115792089237316195423570985008687907853269984665640564039457584007913129639936 := by rw [ev3]; exact Nat.lt_trans (Nat.mod_lt _ (by decide)) (by decide)
    obtain ⟨v4, ev4⟩ : ∃ v4, v4 = a * b % 57896044618658097711785492504343953926634992332820282019728792003956564819949 := ⟨_, rfl⟩
    have lv4 : v4 < 115792089237316195423570985008687907853269984665640564039457584007913129639936 := by rw [ev4]; exact Nat.lt_trans (Nat.mod_lt _ (by decide)) (by decide)
    obtain ⟨v5, ev5⟩ : ∃ v5, v5 = decide (a % 57896044618658097711785492504343953926634992332820282019728792003956564819949 = 0) := ⟨_, rfl⟩
    have C_limb_Reduce_a : ∀ w', Below wc.heap.size wc w' → Calls Tryd.prog 11 [.agg (numA a)].toArray w' fun e w2 => e = .returned (.agg (numA v1)) ∧ Below wc.heap.size wc w2 := fun w' hb => by rw [ev1]; exact (Reduce_any a w' la).mono fun e w2 hh => ⟨hh.1, hb.trans (hh.2.mono hb.size)⟩
    have C_signetringref01_Reduce_a : ∀ w', Below wc.heap.size wc w' → Calls Tryd.prog 12 [.agg (numA a)].toArray w' fun e w2 => e = .returned (.agg (numA v1)) ∧ Below wc.heap.size wc w2 := fun w' hb => by rw [ev1]; exact (rReduce_any a w' la).mono fun e w2 hh => ⟨hh.1, hb.trans (hh.2.mono hb.size)⟩
    have C_limb_Add_a_b : ∀ w', Below wc.heap.size wc w' → Calls Tryd.prog 13 [.agg (numA a), .agg (numA b)].toArray w' fun e w2 => e = .returned (.agg (numA v2)) ∧ Below wc.heap.size wc w2 := fun w' hb => by rw [ev2]; exact (Add_any a b w' la lb).mono fun e w2 hh => ⟨hh.1, hb.trans (hh.2.mono hb.size)⟩
    have C_signetringref01_Add_a_b : ∀ w', Below wc.heap.size wc w' → Calls Tryd.prog 14 [.agg (numA a), .agg (numA b)].toArray w' fun e w2 => e = .returned (.agg (numA v2)) ∧ Below wc.heap.size wc w2 := fun w' hb => by rw [ev2]; exact (rAdd_any a b w' la lb).mono fun e w2 hh => ⟨hh.1, hb.trans (hh.2.mono hb.size)⟩
    have C_limb_Sub_a_b : ∀ w', Below wc.heap.size wc w' → Calls Tryd.prog 15 [.agg (numA a), .agg (numA b)].toArray w' fun e w2 => e = .returned (.agg (numA v3)) ∧ Below wc.heap.size wc w2 := fun w' hb => by rw [ev3]; exact (Sub_any a b w' la lb (PrimeAt.below HPW hb)).mono fun e w2 hh => ⟨hh.1, hb.trans (hh.2.mono hb.size)⟩
    have C_signetringref01_Sub_a_b : ∀ w', Below wc.heap.size wc w' → Calls Tryd.prog 16 [.agg (numA a), .agg (numA b)].toArray w' fun e w2 => e = .returned (.agg (numA v3)) ∧ Below wc.heap.size wc w2 := fun w' hb => by rw [ev3]; exact (rSub_any a b w' la lb).mono fun e w2 hh => ⟨hh.1, hb.trans (hh.2.mono hb.size)⟩
    have C_limb_Mul_a_b : ∀ w', Below wc.heap.size wc w' → Calls Tryd.prog 17 [.agg (numA a), .agg (numA b)].toArray w' fun e w2 => e = .returned (.agg (numA v4)) ∧ Below wc.heap.size wc w2 := fun w' hb => by rw [ev4]; exact (Mul_any a b w' la lb).mono fun e w2 hh => ⟨hh.1, hb.trans (hh.2.mono hb.size)⟩
    have C_signetringref01_Mul_a_b : ∀ w', Below wc.heap.size wc w' → Calls Tryd.prog 18 [.agg (numA a), .agg (numA b)].toArray w' fun e w2 => e = .returned (.agg (numA v4)) ∧ Below wc.heap.size wc w2 := fun w' hb => by rw [ev4]; exact (rMul_any a b w' la lb).mono fun e w2 hh => ⟨hh.1, hb.trans (hh.2.mono hb.size)⟩
    have C_limb_Zero_a : ∀ w', Below wc.heap.size wc w' → Calls Tryd.prog 19 [.agg (numA a)].toArray w' fun e w2 => e = .returned (.bool v5) ∧ Below wc.heap.size wc w2 := fun w' hb => by rw [ev5]; exact (Zero_any a w' la).mono fun e w2 hh => ⟨hh.1, hb.trans (hh.2.mono hb.size)⟩
    have zv5 : v5 = true := by rw [ev5]; exact decide_eq_true za
    refine wp_region_quiet (C := fun w' => Below wc.heap.size wc w') (by kernel_rfl) (by kernel_rfl) (Below.drew (Below.refl _ _)) ?_
    refine q_load (by kernel_rfl) 22 _ (w.heap.size) 22 (numA a) (0, 0) _ rfl (by kernel_rfl) (fun w' hb => At.under Fa hb) Tryd.underlying22 rfl (by rw [numA_size]; kernel_rfl) ?_
    simp only [Act.put, List.setIfInBounds_toArray, List.set_cons_succ, List.set_cons_zero]
    refine q_call (by kernel_rfl) 11 Tryd.f11 _ _ _ [.agg (numA a)] (.agg (numA v1)) rfl (by kernel_rfl) Tryd.func11 (by kernel_rfl) rfl C_limb_Reduce_a ?_
    simp only [Act.put, List.setIfInBounds_toArray, List.set_cons_succ, List.set_cons_zero]
    refine q_load (by kernel_rfl) 22 _ (w.heap.size) 22 (numA a) (0, 0) _ rfl (by kernel_rfl) (fun w' hb => At.under Fa hb) Tryd.underlying22 rfl (by rw [numA_size]; kernel_rfl) ?_
    simp only [Act.put, List.setIfInBounds_toArray, List.set_cons_succ, List.set_cons_zero]
    refine q_call (by kernel_rfl) 12 Tryd.f12 _ _ _ [.agg (numA a)] (.agg (numA v1)) rfl (by kernel_rfl) Tryd.func12 (by kernel_rfl) rfl C_signetringref01_Reduce_a ?_
    simp only [Act.put, List.setIfInBounds_toArray, List.set_cons_succ, List.set_cons_zero]
    refine q_val (by kernel_rfl) (.bool true) (fun w' => (run_eql_num (t := 22) (e := 5) v1 v1 rfl (by kernel_rfl) (by kernel_rfl) lv1 lv1 Tryd.underlying22 Tryd.underlying5 sz5 ag5 eqG w').trans (by rw [show decide (v1 = v1) = true from decide_eq_true rfl])) ?_
    simp only [Act.put, List.setIfInBounds_toArray, List.set_cons_succ, List.set_cons_zero]
    refine q_val (by kernel_rfl) (.bool true) (fun w' => by kernel_rfl) ?_
    simp only [Act.put, List.setIfInBounds_toArray, List.set_cons_succ, List.set_cons_zero]
    refine q_load (by kernel_rfl) 22 _ (w.heap.size) 22 (numA a) (0, 0) _ rfl (by kernel_rfl) (fun w' hb => At.under Fa hb) Tryd.underlying22 rfl (by rw [numA_size]; kernel_rfl) ?_
    simp only [Act.put, List.setIfInBounds_toArray, List.set_cons_succ, List.set_cons_zero]
    refine q_load (by kernel_rfl) 22 _ (w.heap.size + 1) 22 (numA b) (0, 0) _ rfl (by kernel_rfl) (fun w' hb => At.under Fb hb) Tryd.underlying22 rfl (by rw [numA_size]; kernel_rfl) ?_
    simp only [Act.put, List.setIfInBounds_toArray, List.set_cons_succ, List.set_cons_zero]
    refine q_call (by kernel_rfl) 13 Tryd.f13 _ _ _ [.agg (numA a), .agg (numA b)] (.agg (numA v2)) rfl (by kernel_rfl) Tryd.func13 (by kernel_rfl) rfl C_limb_Add_a_b ?_
    simp only [Act.put, List.setIfInBounds_toArray, List.set_cons_succ, List.set_cons_zero]
    refine q_load (by kernel_rfl) 22 _ (w.heap.size) 22 (numA a) (0, 0) _ rfl (by kernel_rfl) (fun w' hb => At.under Fa hb) Tryd.underlying22 rfl (by rw [numA_size]; kernel_rfl) ?_
    simp only [Act.put, List.setIfInBounds_toArray, List.set_cons_succ, List.set_cons_zero]
    refine q_load (by kernel_rfl) 22 _ (w.heap.size + 1) 22 (numA b) (0, 0) _ rfl (by kernel_rfl) (fun w' hb => At.under Fb hb) Tryd.underlying22 rfl (by rw [numA_size]; kernel_rfl) ?_
    simp only [Act.put, List.setIfInBounds_toArray, List.set_cons_succ, List.set_cons_zero]
    refine q_call (by kernel_rfl) 14 Tryd.f14 _ _ _ [.agg (numA a), .agg (numA b)] (.agg (numA v2)) rfl (by kernel_rfl) Tryd.func14 (by kernel_rfl) rfl C_signetringref01_Add_a_b ?_
    simp only [Act.put, List.setIfInBounds_toArray, List.set_cons_succ, List.set_cons_zero]
    refine q_val (by kernel_rfl) (.bool true) (fun w' => (run_eql_num (t := 22) (e := 5) v2 v2 rfl (by kernel_rfl) (by kernel_rfl) lv2 lv2 Tryd.underlying22 Tryd.underlying5 sz5 ag5 eqG w').trans (by rw [show decide (v2 = v2) = true from decide_eq_true rfl])) ?_
    simp only [Act.put, List.setIfInBounds_toArray, List.set_cons_succ, List.set_cons_zero]
    refine q_val (by kernel_rfl) (.bool true) (fun w' => by kernel_rfl) ?_
    simp only [Act.put, List.setIfInBounds_toArray, List.set_cons_succ, List.set_cons_zero]
    refine q_val (by kernel_rfl) (.bool true) (fun w' => by kernel_rfl) ?_
    simp only [Act.put, List.setIfInBounds_toArray, List.set_cons_succ, List.set_cons_zero]
    refine q_load (by kernel_rfl) 22 _ (w.heap.size) 22 (numA a) (0, 0) _ rfl (by kernel_rfl) (fun w' hb => At.under Fa hb) Tryd.underlying22 rfl (by rw [numA_size]; kernel_rfl) ?_
    simp only [Act.put, List.setIfInBounds_toArray, List.set_cons_succ, List.set_cons_zero]
    refine q_load (by kernel_rfl) 22 _ (w.heap.size + 1) 22 (numA b) (0, 0) _ rfl (by kernel_rfl) (fun w' hb => At.under Fb hb) Tryd.underlying22 rfl (by rw [numA_size]; kernel_rfl) ?_
    simp only [Act.put, List.setIfInBounds_toArray, List.set_cons_succ, List.set_cons_zero]
    refine q_call (by kernel_rfl) 15 Tryd.f15 _ _ _ [.agg (numA a), .agg (numA b)] (.agg (numA v3)) rfl (by kernel_rfl) Tryd.func15 (by kernel_rfl) rfl C_limb_Sub_a_b ?_
    simp only [Act.put, List.setIfInBounds_toArray, List.set_cons_succ, List.set_cons_zero]
    refine q_load (by kernel_rfl) 22 _ (w.heap.size) 22 (numA a) (0, 0) _ rfl (by kernel_rfl) (fun w' hb => At.under Fa hb) Tryd.underlying22 rfl (by rw [numA_size]; kernel_rfl) ?_
    simp only [Act.put, List.setIfInBounds_toArray, List.set_cons_succ, List.set_cons_zero]
    refine q_load (by kernel_rfl) 22 _ (w.heap.size + 1) 22 (numA b) (0, 0) _ rfl (by kernel_rfl) (fun w' hb => At.under Fb hb) Tryd.underlying22 rfl (by rw [numA_size]; kernel_rfl) ?_
    simp only [Act.put, List.setIfInBounds_toArray, List.set_cons_succ, List.set_cons_zero]
    refine q_call (by kernel_rfl) 16 Tryd.f16 _ _ _ [.agg (numA a), .agg (numA b)] (.agg (numA v3)) rfl (by kernel_rfl) Tryd.func16 (by kernel_rfl) rfl C_signetringref01_Sub_a_b ?_
    simp only [Act.put, List.setIfInBounds_toArray, List.set_cons_succ, List.set_cons_zero]
    refine q_val (by kernel_rfl) (.bool true) (fun w' => (run_eql_num (t := 22) (e := 5) v3 v3 rfl (by kernel_rfl) (by kernel_rfl) lv3 lv3 Tryd.underlying22 Tryd.underlying5 sz5 ag5 eqG w').trans (by rw [show decide (v3 = v3) = true from decide_eq_true rfl])) ?_
    simp only [Act.put, List.setIfInBounds_toArray, List.set_cons_succ, List.set_cons_zero]
    refine q_val (by kernel_rfl) (.bool true) (fun w' => by kernel_rfl) ?_
    simp only [Act.put, List.setIfInBounds_toArray, List.set_cons_succ, List.set_cons_zero]
    refine q_val (by kernel_rfl) (.bool true) (fun w' => by kernel_rfl) ?_
    simp only [Act.put, List.setIfInBounds_toArray, List.set_cons_succ, List.set_cons_zero]
    refine q_load (by kernel_rfl) 22 _ (w.heap.size) 22 (numA a) (0, 0) _ rfl (by kernel_rfl) (fun w' hb => At.under Fa hb) Tryd.underlying22 rfl (by rw [numA_size]; kernel_rfl) ?_
    simp only [Act.put, List.setIfInBounds_toArray, List.set_cons_succ, List.set_cons_zero]
    refine q_load (by kernel_rfl) 22 _ (w.heap.size + 1) 22 (numA b) (0, 0) _ rfl (by kernel_rfl) (fun w' hb => At.under Fb hb) Tryd.underlying22 rfl (by rw [numA_size]; kernel_rfl) ?_
    simp only [Act.put, List.setIfInBounds_toArray, List.set_cons_succ, List.set_cons_zero]
    refine q_call (by kernel_rfl) 17 Tryd.f17 _ _ _ [.agg (numA a), .agg (numA b)] (.agg (numA v4)) rfl (by kernel_rfl) Tryd.func17 (by kernel_rfl) rfl C_limb_Mul_a_b ?_
    simp only [Act.put, List.setIfInBounds_toArray, List.set_cons_succ, List.set_cons_zero]
    refine q_load (by kernel_rfl) 22 _ (w.heap.size) 22 (numA a) (0, 0) _ rfl (by kernel_rfl) (fun w' hb => At.under Fa hb) Tryd.underlying22 rfl (by rw [numA_size]; kernel_rfl) ?_
    simp only [Act.put, List.setIfInBounds_toArray, List.set_cons_succ, List.set_cons_zero]
    refine q_load (by kernel_rfl) 22 _ (w.heap.size + 1) 22 (numA b) (0, 0) _ rfl (by kernel_rfl) (fun w' hb => At.under Fb hb) Tryd.underlying22 rfl (by rw [numA_size]; kernel_rfl) ?_
    simp only [Act.put, List.setIfInBounds_toArray, List.set_cons_succ, List.set_cons_zero]
    refine q_call (by kernel_rfl) 18 Tryd.f18 _ _ _ [.agg (numA a), .agg (numA b)] (.agg (numA v4)) rfl (by kernel_rfl) Tryd.func18 (by kernel_rfl) rfl C_signetringref01_Mul_a_b ?_
    simp only [Act.put, List.setIfInBounds_toArray, List.set_cons_succ, List.set_cons_zero]
    refine q_val (by kernel_rfl) (.bool true) (fun w' => (run_eql_num (t := 22) (e := 5) v4 v4 rfl (by kernel_rfl) (by kernel_rfl) lv4 lv4 Tryd.underlying22 Tryd.underlying5 sz5 ag5 eqG w').trans (by rw [show decide (v4 = v4) = true from decide_eq_true rfl])) ?_
    simp only [Act.put, List.setIfInBounds_toArray, List.set_cons_succ, List.set_cons_zero]
    refine q_val (by kernel_rfl) (.bool true) (fun w' => by kernel_rfl) ?_
    simp only [Act.put, List.setIfInBounds_toArray, List.set_cons_succ, List.set_cons_zero]
    refine q_val (by kernel_rfl) (.bool true) (fun w' => by kernel_rfl) ?_
    simp only [Act.put, List.setIfInBounds_toArray, List.set_cons_succ, List.set_cons_zero]
    refine q_load (by kernel_rfl) 22 _ (w.heap.size) 22 (numA a) (0, 0) _ rfl (by kernel_rfl) (fun w' hb => At.under Fa hb) Tryd.underlying22 rfl (by rw [numA_size]; kernel_rfl) ?_
    simp only [Act.put, List.setIfInBounds_toArray, List.set_cons_succ, List.set_cons_zero]
    refine q_call (by kernel_rfl) 19 Tryd.f19 _ _ _ [.agg (numA a)] (.bool true) rfl (by kernel_rfl) Tryd.func19 (by kernel_rfl) rfl (by rw [← zv5]; exact C_limb_Zero_a) ?_
    simp only [Act.put, List.setIfInBounds_toArray, List.set_cons_succ, List.set_cons_zero]
    refine q_load (by kernel_rfl) 22 _ (w.heap.size) 22 (numA a) (0, 0) _ rfl (by kernel_rfl) (fun w' hb => At.under Fa hb) Tryd.underlying22 rfl (by rw [numA_size]; kernel_rfl) ?_
    simp only [Act.put, List.setIfInBounds_toArray, List.set_cons_succ, List.set_cons_zero]
    refine q_call (by kernel_rfl) 12 Tryd.f12 _ _ _ [.agg (numA a)] (.agg (numA v1)) rfl (by kernel_rfl) Tryd.func12 (by kernel_rfl) rfl C_signetringref01_Reduce_a ?_
    simp only [Act.put, List.setIfInBounds_toArray, List.set_cons_succ, List.set_cons_zero]
    refine q_val (by kernel_rfl) (.agg (numA 0)) (fun w' => by kernel_rfl) ?_
    simp only [Act.put, List.setIfInBounds_toArray, List.set_cons_succ, List.set_cons_zero]
    refine q_val (by kernel_rfl) (.bool true) (fun w' => (run_eql_num (t := 22) (e := 5) v1 0 rfl (by kernel_rfl) (by kernel_rfl) lv1 (by decide) Tryd.underlying22 Tryd.underlying5 sz5 ag5 eqG w').trans (by rw [show decide (v1 = 0) = true from decide_eq_true (by rw [ev1]; exact za)])) ?_
    simp only [Act.put, List.setIfInBounds_toArray, List.set_cons_succ, List.set_cons_zero]
    refine q_val (by kernel_rfl) (.bool true) (fun w' => by kernel_rfl) ?_
    simp only [Act.put, List.setIfInBounds_toArray, List.set_cons_succ, List.set_cons_zero]
    refine q_val (by kernel_rfl) (.bool true) (fun w' => by kernel_rfl) ?_
    simp only [Act.put, List.setIfInBounds_toArray, List.set_cons_succ, List.set_cons_zero]
    refine q_val (by kernel_rfl) (.bool true) (fun w' => by kernel_rfl) ?_
    simp only [Act.put, List.setIfInBounds_toArray, List.set_cons_succ, List.set_cons_zero]
    refine wpQuiet_nil ?_
    intro w5 h5
    have H5 : Kept _ := ⟨h5⟩
    clear h5 za la lb Fa Fb HPW C_limb_Reduce_a C_signetringref01_Reduce_a C_limb_Add_a_b C_signetringref01_Add_a_b C_limb_Sub_a_b C_signetringref01_Sub_a_b C_limb_Mul_a_b C_signetringref01_Mul_a_b C_limb_Zero_a ev1 ev2 ev3 ev4 ev5 lv1 lv2 lv3 lv4 zv5
    go_wp2_with fail
    go_ret
    exact ⟨rfl, HQ.out.trans (Below.mono H5.out HQ.out.size)⟩
  · skip
    obtain ⟨v1, ev1⟩ : ∃ v1, v1 = a % 57896044618658097711785492504343953926634992332820282019728792003956564819949 := ⟨_, rfl⟩
    have lv1 : v1 < 115792089237316195423570985008687907853269984665640564039457584007913129639936 := by rw [ev1]; exact Nat.lt_trans (Nat.mod_lt _ (by decide)) (by decide)
    obtain ⟨v2, ev2⟩ : ∃ v2, v2 = (a + b) % 57896044618658097711785492504343953926634992332820282019728792003956564819949 := ⟨_, rfl⟩
    have lv2 : v2 < 115792089237316195423570985008687907853269984665640564039457584007913129639936 := by rw [ev2]; exact Nat.lt_trans (Nat.mod_lt _ (by decide)) (by decide)
    obtain ⟨v3, ev3⟩ : ∃ v3, v3 = (a + (57896044618658097711785492504343953926634992332820282019728792003956564819949 - b % 57896044618658097711785492504343953926634992332820282019728792003956564819949)) % 57896044618658097711785492504343953926634992332820282019728792003956564819949 := ⟨_, rfl⟩
    have lv3 : v3 < 115792089237316195423570985008687907853269984665640564039457584007913129639936 := by rw [ev3]; exact Nat.lt_trans (Nat.mod_lt _ (by decide)) (by decide)
    obtain ⟨v4, ev4⟩ : ∃ v4, v4 = a * b % 57896044618658097711785492504343953926634992332820282019728792003956564819949 := ⟨_, rfl⟩
    have lv4 : v4 < 115792089237316195423570985008687907853269984665640564039457584007913129639936 := by rw [ev4]; exact Nat.lt_trans (Nat.mod_lt _ (by decide)) (by decide)
    obtain ⟨v5, ev5⟩ : ∃ v5, v5 = decide (a % 57896044618658097711785492504343953926634992332820282019728792003956564819949 = 0) := ⟨_, rfl⟩
    have C_limb_Reduce_a : ∀ w', Below wc.heap.size wc w' → Calls Tryd.prog 11 [.agg (numA a)].toArray w' fun e w2 => e = .returned (.agg (numA v1)) ∧ Below wc.heap.size wc w2 := fun w' hb => by rw [ev1]; exact (Reduce_any a w' la).mono fun e w2 hh => ⟨hh.1, hb.trans (hh.2.mono hb.size)⟩
    have C_signetringref01_Reduce_a : ∀ w', Below wc.heap.size wc w' → Calls Tryd.prog 12 [.agg (numA a)].toArray w' fun e w2 => e = .returned (.agg (numA v1)) ∧ Below wc.heap.size wc w2 := fun w' hb => by rw [ev1]; exact (rReduce_any a w' la).mono fun e w2 hh => ⟨hh.1, hb.trans (hh.2.mono hb.size)⟩
    have C_limb_Add_a_b : ∀ w', Below wc.heap.size wc w' → Calls Tryd.prog 13 [.agg (numA a), .agg (numA b)].toArray w' fun e w2 => e = .returned (.agg (numA v2)) ∧ Below wc.heap.size wc w2 := fun w' hb => by rw [ev2]; exact (Add_any a b w' la lb).mono fun e w2 hh => ⟨hh.1, hb.trans (hh.2.mono hb.size)⟩
    have C_signetringref01_Add_a_b : ∀ w', Below wc.heap.size wc w' → Calls Tryd.prog 14 [.agg (numA a), .agg (numA b)].toArray w' fun e w2 => e = .returned (.agg (numA v2)) ∧ Below wc.heap.size wc w2 := fun w' hb => by rw [ev2]; exact (rAdd_any a b w' la lb).mono fun e w2 hh => ⟨hh.1, hb.trans (hh.2.mono hb.size)⟩
    have C_limb_Sub_a_b : ∀ w', Below wc.heap.size wc w' → Calls Tryd.prog 15 [.agg (numA a), .agg (numA b)].toArray w' fun e w2 => e = .returned (.agg (numA v3)) ∧ Below wc.heap.size wc w2 := fun w' hb => by rw [ev3]; exact (Sub_any a b w' la lb (PrimeAt.below HPW hb)).mono fun e w2 hh => ⟨hh.1, hb.trans (hh.2.mono hb.size)⟩
    have C_signetringref01_Sub_a_b : ∀ w', Below wc.heap.size wc w' → Calls Tryd.prog 16 [.agg (numA a), .agg (numA b)].toArray w' fun e w2 => e = .returned (.agg (numA v3)) ∧ Below wc.heap.size wc w2 := fun w' hb => by rw [ev3]; exact (rSub_any a b w' la lb).mono fun e w2 hh => ⟨hh.1, hb.trans (hh.2.mono hb.size)⟩
    have C_limb_Mul_a_b : ∀ w', Below wc.heap.size wc w' → Calls Tryd.prog 17 [.agg (numA a), .agg (numA b)].toArray w' fun e w2 => e = .returned (.agg (numA v4)) ∧ Below wc.heap.size wc w2 := fun w' hb => by rw [ev4]; exact (Mul_any a b w' la lb).mono fun e w2 hh => ⟨hh.1, hb.trans (hh.2.mono hb.size)⟩
    have C_signetringref01_Mul_a_b : ∀ w', Below wc.heap.size wc w' → Calls Tryd.prog 18 [.agg (numA a), .agg (numA b)].toArray w' fun e w2 => e = .returned (.agg (numA v4)) ∧ Below wc.heap.size wc w2 := fun w' hb => by rw [ev4]; exact (rMul_any a b w' la lb).mono fun e w2 hh => ⟨hh.1, hb.trans (hh.2.mono hb.size)⟩
    have C_limb_Zero_a : ∀ w', Below wc.heap.size wc w' → Calls Tryd.prog 19 [.agg (numA a)].toArray w' fun e w2 => e = .returned (.bool v5) ∧ Below wc.heap.size wc w2 := fun w' hb => by rw [ev5]; exact (Zero_any a w' la).mono fun e w2 hh => ⟨hh.1, hb.trans (hh.2.mono hb.size)⟩
    have zv5 : v5 = false := by rw [ev5]; exact decide_eq_false za
    refine wp_region_quiet (C := fun w' => Below wc.heap.size wc w') (by kernel_rfl) (by kernel_rfl) (Below.drew (Below.refl _ _)) ?_
    refine q_load (by kernel_rfl) 22 _ (w.heap.size) 22 (numA a) (0, 0) _ rfl (by kernel_rfl) (fun w' hb => At.under Fa hb) Tryd.underlying22 rfl (by rw [numA_size]; kernel_rfl) ?_
    simp only [Act.put, List.setIfInBounds_toArray, List.set_cons_succ, List.set_cons_zero]
    refine q_call (by kernel_rfl) 11 Tryd.f11 _ _ _ [.agg (numA a)] (.agg (numA v1)) rfl (by kernel_rfl) Tryd.func11 (by kernel_rfl) rfl C_limb_Reduce_a ?_
    simp only [Act.put, List.setIfInBounds_toArray, List.set_cons_succ, List.set_cons_zero]
    refine q_load (by kernel_rfl) 22 _ (w.heap.size) 22 (numA a) (0, 0) _ rfl (by kernel_rfl) (fun w' hb => At.under Fa hb) Tryd.underlying22 rfl (by rw [numA_size]; kernel_rfl) ?_
    simp only [Act.put, List.setIfInBounds_toArray, List.set_cons_succ, List.set_cons_zero]
    refine q_call (by kernel_rfl) 12 Tryd.f12 _ _ _ [.agg (numA a)] (.agg (numA v1)) rfl (by kernel_rfl) Tryd.func12 (by kernel_rfl) rfl C_signetringref01_Reduce_a ?_
    simp only [Act.put, List.setIfInBounds_toArray, List.set_cons_succ, List.set_cons_zero]
    refine q_val (by kernel_rfl) (.bool true) (fun w' => (run_eql_num (t := 22) (e := 5) v1 v1 rfl (by kernel_rfl) (by kernel_rfl) lv1 lv1 Tryd.underlying22 Tryd.underlying5 sz5 ag5 eqG w').trans (by rw [show decide (v1 = v1) = true from decide_eq_true rfl])) ?_
    simp only [Act.put, List.setIfInBounds_toArray, List.set_cons_succ, List.set_cons_zero]
    refine q_val (by kernel_rfl) (.bool true) (fun w' => by kernel_rfl) ?_
    simp only [Act.put, List.setIfInBounds_toArray, List.set_cons_succ, List.set_cons_zero]
    refine q_load (by kernel_rfl) 22 _ (w.heap.size) 22 (numA a) (0, 0) _ rfl (by kernel_rfl) (fun w' hb => At.under Fa hb) Tryd.underlying22 rfl (by rw [numA_size]; kernel_rfl) ?_
    simp only [Act.put, List.setIfInBounds_toArray, List.set_cons_succ, List.set_cons_zero]
    refine q_load (by kernel_rfl) 22 _ (w.heap.size + 1) 22 (numA b) (0, 0) _ rfl (by kernel_rfl) (fun w' hb => At.under Fb hb) Tryd.underlying22 rfl (by rw [numA_size]; kernel_rfl) ?_
    simp only [Act.put, List.setIfInBounds_toArray, List.set_cons_succ, List.set_cons_zero]
    refine q_call (by kernel_rfl) 13 Tryd.f13 _ _ _ [.agg (numA a), .agg (numA b)] (.agg (numA v2)) rfl (by kernel_rfl) Tryd.func13 (by kernel_rfl) rfl C_limb_Add_a_b ?_
    simp only [Act.put, List.setIfInBounds_toArray, List.set_cons_succ, List.set_cons_zero]
    refine q_load (by kernel_rfl) 22 _ (w.heap.size) 22 (numA a) (0, 0) _ rfl (by kernel_rfl) (fun w' hb => At.under Fa hb) Tryd.underlying22 rfl (by rw [numA_size]; kernel_rfl) ?_
    simp only [Act.put, List.setIfInBounds_toArray, List.set_cons_succ, List.set_cons_zero]
    refine q_load (by kernel_rfl) 22 _ (w.heap.size + 1) 22 (numA b) (0, 0) _ rfl (by kernel_rfl) (fun w' hb => At.under Fb hb) Tryd.underlying22 rfl (by rw [numA_size]; kernel_rfl) ?_
    simp only [Act.put, List.setIfInBounds_toArray, List.set_cons_succ, List.set_cons_zero]
    refine q_call (by kernel_rfl) 14 Tryd.f14 _ _ _ [.agg (numA a), .agg (numA b)] (.agg (numA v2)) rfl (by kernel_rfl) Tryd.func14 (by kernel_rfl) rfl C_signetringref01_Add_a_b ?_
    simp only [Act.put, List.setIfInBounds_toArray, List.set_cons_succ, List.set_cons_zero]
    refine q_val (by kernel_rfl) (.bool true) (fun w' => (run_eql_num (t := 22) (e := 5) v2 v2 rfl (by kernel_rfl) (by kernel_rfl) lv2 lv2 Tryd.underlying22 Tryd.underlying5 sz5 ag5 eqG w').trans (by rw [show decide (v2 = v2) = true from decide_eq_true rfl])) ?_
    simp only [Act.put, List.setIfInBounds_toArray, List.set_cons_succ, List.set_cons_zero]
    refine q_val (by kernel_rfl) (.bool true) (fun w' => by kernel_rfl) ?_
    simp only [Act.put, List.setIfInBounds_toArray, List.set_cons_succ, List.set_cons_zero]
    refine q_val (by kernel_rfl) (.bool true) (fun w' => by kernel_rfl) ?_
    simp only [Act.put, List.setIfInBounds_toArray, List.set_cons_succ, List.set_cons_zero]
    refine q_load (by kernel_rfl) 22 _ (w.heap.size) 22 (numA a) (0, 0) _ rfl (by kernel_rfl) (fun w' hb => At.under Fa hb) Tryd.underlying22 rfl (by rw [numA_size]; kernel_rfl) ?_
    simp only [Act.put, List.setIfInBounds_toArray, List.set_cons_succ, List.set_cons_zero]
    refine q_load (by kernel_rfl) 22 _ (w.heap.size + 1) 22 (numA b) (0, 0) _ rfl (by kernel_rfl) (fun w' hb => At.under Fb hb) Tryd.underlying22 rfl (by rw [numA_size]; kernel_rfl) ?_
    simp only [Act.put, List.setIfInBounds_toArray, List.set_cons_succ, List.set_cons_zero]
    refine q_call (by kernel_rfl) 15 Tryd.f15 _ _ _ [.agg (numA a), .agg (numA b)] (.agg (numA v3)) rfl (by kernel_rfl) Tryd.func15 (by kernel_rfl) rfl C_limb_Sub_a_b ?_
    simp only [Act.put, List.setIfInBounds_toArray, List.set_cons_succ, List.set_cons_zero]
    refine q_load (by kernel_rfl) 22 _ (w.heap.size) 22 (numA a) (0, 0) _ rfl (by kernel_rfl) (fun w' hb => At.under Fa hb) Tryd.underlying22 rfl (by rw [numA_size]; kernel_rfl) ?_
    simp only [Act.put, List.setIfInBounds_toArray, List.set_cons_succ, List.set_cons_zero]
    refine q_load (by kernel_rfl) 22 _ (w.heap.size + 1) 22 (numA b) (0, 0) _ rfl (by kernel_rfl) (fun w' hb => At.under Fb hb) Tryd.underlying22 rfl (by rw [numA_size]; kernel_rfl) ?_
    simp only [Act.put, List.setIfInBounds_toArray, List.set_cons_succ, List.set_cons_zero]
    refine q_call (by kernel_rfl) 16 Tryd.f16 _ _ _ [.agg (numA a), .agg (numA b)] (.agg (numA v3)) rfl (by kernel_rfl) Tryd.func16 (by kernel_rfl) rfl C_signetringref01_Sub_a_b ?_
    simp only [Act.put, List.setIfInBounds_toArray, List.set_cons_succ, List.set_cons_zero]
    refine q_val (by kernel_rfl) (.bool true) (fun w' => (run_eql_num (t := 22) (e := 5) v3 v3 rfl (by kernel_rfl) (by kernel_rfl) lv3 lv3 Tryd.underlying22 Tryd.underlying5 sz5 ag5 eqG w').trans (by rw [show decide (v3 = v3) = true from decide_eq_true rfl])) ?_
    simp only [Act.put, List.setIfInBounds_toArray, List.set_cons_succ, List.set_cons_zero]
    refine q_val (by kernel_rfl) (.bool true) (fun w' => by kernel_rfl) ?_
    simp only [Act.put, List.setIfInBounds_toArray, List.set_cons_succ, List.set_cons_zero]
    refine q_val (by kernel_rfl) (.bool true) (fun w' => by kernel_rfl) ?_
    simp only [Act.put, List.setIfInBounds_toArray, List.set_cons_succ, List.set_cons_zero]
    refine q_load (by kernel_rfl) 22 _ (w.heap.size) 22 (numA a) (0, 0) _ rfl (by kernel_rfl) (fun w' hb => At.under Fa hb) Tryd.underlying22 rfl (by rw [numA_size]; kernel_rfl) ?_
    simp only [Act.put, List.setIfInBounds_toArray, List.set_cons_succ, List.set_cons_zero]
    refine q_load (by kernel_rfl) 22 _ (w.heap.size + 1) 22 (numA b) (0, 0) _ rfl (by kernel_rfl) (fun w' hb => At.under Fb hb) Tryd.underlying22 rfl (by rw [numA_size]; kernel_rfl) ?_
    simp only [Act.put, List.setIfInBounds_toArray, List.set_cons_succ, List.set_cons_zero]
    refine q_call (by kernel_rfl) 17 Tryd.f17 _ _ _ [.agg (numA a), .agg (numA b)] (.agg (numA v4)) rfl (by kernel_rfl) Tryd.func17 (by kernel_rfl) rfl C_limb_Mul_a_b ?_
    simp only [Act.put, List.setIfInBounds_toArray, List.set_cons_succ, List.set_cons_zero]
    refine q_load (by kernel_rfl) 22 _ (w.heap.size) 22 (numA a) (0, 0) _ rfl (by kernel_rfl) (fun w' hb => At.under Fa hb) Tryd.underlying22 rfl (by rw [numA_size]; kernel_rfl) ?_
    simp only [Act.put, List.setIfInBounds_toArray, List.set_cons_succ, List.set_cons_zero]
    refine q_load (by kernel_rfl) 22 _ (w.heap.size + 1) 22 (numA b) (0, 0) _ rfl (by kernel_rfl) (fun w' hb => At.under Fb hb) Tryd.underlying22 rfl (by rw [numA_size]; kernel_rfl) ?_
    simp only [Act.put, List.setIfInBounds_toArray, List.set_cons_succ, List.set_cons_zero]
    refine q_call (by kernel_rfl) 18 Tryd.f18 _ _ _ [.agg (numA a), .agg (numA b)] (.agg (numA v4)) rfl (by kernel_rfl) Tryd.func18 (by kernel_rfl) rfl C_signetringref01_Mul_a_b ?_
    simp only [Act.put, List.setIfInBounds_toArray, List.set_cons_succ, List.set_cons_zero]
    refine q_val (by kernel_rfl) (.bool true) (fun w' => (run_eql_num (t := 22) (e := 5) v4 v4 rfl (by kernel_rfl) (by kernel_rfl) lv4 lv4 Tryd.underlying22 Tryd.underlying5 sz5 ag5 eqG w').trans (by rw [show decide (v4 = v4) = true from decide_eq_true rfl])) ?_
    simp only [Act.put, List.setIfInBounds_toArray, List.set_cons_succ, List.set_cons_zero]
    refine q_val (by kernel_rfl) (.bool true) (fun w' => by kernel_rfl) ?_
    simp only [Act.put, List.setIfInBounds_toArray, List.set_cons_succ, List.set_cons_zero]
    refine q_val (by kernel_rfl) (.bool true) (fun w' => by kernel_rfl) ?_
    simp only [Act.put, List.setIfInBounds_toArray, List.set_cons_succ, List.set_cons_zero]
    refine q_load (by kernel_rfl) 22 _ (w.heap.size) 22 (numA a) (0, 0) _ rfl (by kernel_rfl) (fun w' hb => At.under Fa hb) Tryd.underlying22 rfl (by rw [numA_size]; kernel_rfl) ?_
    simp only [Act.put, List.setIfInBounds_toArray, List.set_cons_succ, List.set_cons_zero]
    refine q_call (by kernel_rfl) 19 Tryd.f19 _ _ _ [.agg (numA a)] (.bool false) rfl (by kernel_rfl) Tryd.func19 (by kernel_rfl) rfl (by rw [← zv5]; exact C_limb_Zero_a) ?_
    simp only [Act.put, List.setIfInBounds_toArray, List.set_cons_succ, List.set_cons_zero]
    refine q_load (by kernel_rfl) 22 _ (w.heap.size) 22 (numA a) (0, 0) _ rfl (by kernel_rfl) (fun w' hb => At.under Fa hb) Tryd.underlying22 rfl (by rw [numA_size]; kernel_rfl) ?_
    simp only [Act.put, List.setIfInBounds_toArray, List.set_cons_succ, List.set_cons_zero]
    refine q_call (by kernel_rfl) 12 Tryd.f12 _ _ _ [.agg (numA a)] (.agg (numA v1)) rfl (by kernel_rfl) Tryd.func12 (by kernel_rfl) rfl C_signetringref01_Reduce_a ?_
    simp only [Act.put, List.setIfInBounds_toArray, List.set_cons_succ, List.set_cons_zero]
    refine q_val (by kernel_rfl) (.agg (numA 0)) (fun w' => by kernel_rfl) ?_
    simp only [Act.put, List.setIfInBounds_toArray, List.set_cons_succ, List.set_cons_zero]
    refine q_val (by kernel_rfl) (.bool false) (fun w' => (run_eql_num (t := 22) (e := 5) v1 0 rfl (by kernel_rfl) (by kernel_rfl) lv1 (by decide) Tryd.underlying22 Tryd.underlying5 sz5 ag5 eqG w').trans (by rw [show decide (v1 = 0) = false from decide_eq_false (by rw [ev1]; exact za)])) ?_
    simp only [Act.put, List.setIfInBounds_toArray, List.set_cons_succ, List.set_cons_zero]
    refine q_val (by kernel_rfl) (.bool true) (fun w' => by kernel_rfl) ?_
    simp only [Act.put, List.setIfInBounds_toArray, List.set_cons_succ, List.set_cons_zero]
    refine q_val (by kernel_rfl) (.bool true) (fun w' => by kernel_rfl) ?_
    simp only [Act.put, List.setIfInBounds_toArray, List.set_cons_succ, List.set_cons_zero]
    refine q_val (by kernel_rfl) (.bool true) (fun w' => by kernel_rfl) ?_
    simp only [Act.put, List.setIfInBounds_toArray, List.set_cons_succ, List.set_cons_zero]
    refine wpQuiet_nil ?_
    intro w5 h5
    have H5 : Kept _ := ⟨h5⟩
    clear h5 za la lb Fa Fb HPW C_limb_Reduce_a C_signetringref01_Reduce_a C_limb_Add_a_b C_signetringref01_Add_a_b C_limb_Sub_a_b C_signetringref01_Sub_a_b C_limb_Mul_a_b C_signetringref01_Mul_a_b C_limb_Zero_a ev1 ev2 ev3 ev4 ev5 lv1 lv2 lv3 lv4 zv5
    go_wp2_with fail
    go_ret
    exact ⟨rfl, HQ.out.trans (Below.mono H5.out HQ.out.size)⟩


theorem tells_any (a b : Nat) (is : Bool) (w : World) (la : a < 115792089237316195423570985008687907853269984665640564039457584007913129639936) (lb : b < 115792089237316195423570985008687907853269984665640564039457584007913129639936) (hp : PrimeAt w) :
    Calls Tryd.prog 3 #[.agg (numA a), .agg (numA b), .bool is] w fun e w' => e = .returned (.bool true) ∧ Below w.heap.size w w' := by
  cases is
  · exact tells_false a b w la lb hp
  · exact tells_true a b w la lb hp
end Go.Proofs.YtanfjkmkfcekmaaDoor
