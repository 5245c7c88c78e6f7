/-
  What LadderRow answers: true, whatever the secrets, the point and the place to begin at are.
-/
import Derived.Test.YtanfjkmkfcekmaaDoorEdB
import Derived.Test.YtanfjkmkfcekmaaDoorD8
import Derived.Test.YtanfjkmkfcekmaaDoorRowA
namespace Go.Proofs.YtanfjkmkfcekmaaDoor
open Go Go.RowKit
set_option linter.unusedSimpArgs false
set_option linter.unusedVariables false

/-- Secrets on a point, one behind the other. -/
def rowTo (X : Nat → Nat → Nat) (f : Nat → Nat) (u : Nat) : Nat → Nat
  | 0 => u
  | i + 1 => X (f i) (rowTo X f u i)
theorem rowTo_zero (X : Nat → Nat → Nat) (f : Nat → Nat) (u : Nat) : rowTo X f u 0 = u := rfl
theorem rowTo_succ (X : Nat → Nat → Nat) (f : Nat → Nat) (u i : Nat) : rowTo X f u (i + 1) = X (f i) (rowTo X f u i) := rfl
theorem rowTo_round {X : Nat → Nat → Nat} (hX : ∀ a b u, X a (X b u) = X b (X a u)) (f : Nat → Nat) (u : Nat) {len q : Nat} (hq : q < len) (hl : len ≤ 4) : rowTo X (fun i => f ((i + q) % len)) u len = rowTo X f u len := by
  obtain rfl | rfl | rfl | rfl : len = 1 ∨ len = 2 ∨ len = 3 ∨ len = 4 := by omega
  · obtain rfl : q = 0 := by omega
    rfl
  · obtain rfl | rfl : q = 0 ∨ q = 1 := by omega
    · rfl
    · exact hX (f 0) (f 1) u
  · obtain rfl | rfl | rfl : q = 0 ∨ q = 1 ∨ q = 2 := by omega
    · rfl
    · show X (f 0) (X (f 2) (X (f 1) u)) = X (f 2) (X (f 1) (X (f 0) u))
      rw [hX (f 0) (f 2), hX (f 0) (f 1)]
    · show X (f 1) (X (f 0) (X (f 2) u)) = X (f 2) (X (f 1) (X (f 0) u))
      rw [hX (f 0) (f 2), hX (f 1) (f 2)]
  · obtain rfl | rfl | rfl | rfl : q = 0 ∨ q = 1 ∨ q = 2 ∨ q = 3 := by omega
    · rfl
    · show X (f 0) (X (f 3) (X (f 2) (X (f 1) u))) = X (f 3) (X (f 2) (X (f 1) (X (f 0) u)))
      rw [hX (f 0) (f 3), hX (f 0) (f 2), hX (f 0) (f 1)]
    · show X (f 1) (X (f 0) (X (f 3) (X (f 2) u))) = X (f 3) (X (f 2) (X (f 1) (X (f 0) u)))
      rw [hX (f 0) (f 3), hX (f 1) (f 3), hX (f 0) (f 2), hX (f 1) (f 2)]
    · show X (f 2) (X (f 1) (X (f 0) (X (f 3) u))) = X (f 3) (X (f 2) (X (f 1) (X (f 0) u)))
      rw [hX (f 0) (f 3), hX (f 1) (f 3), hX (f 2) (f 3)]
theorem rowTo_lt (f : Nat → Nat) (u : Nat) (hu : u < 115792089237316195423570985008687907853269984665640564039457584007913129639936) : ∀ i, rowTo XN f u i < 115792089237316195423570985008687907853269984665640564039457584007913129639936
  | 0 => by rw [rowTo_zero]; exact hu
  | i + 1 => by rw [rowTo_succ]; exact XN_lt _ _
theorem l_eqnum {ops : Array Oper} {Q : Exit → Act → World → Prop} {a : Act} {o : Oper} {rest : List Oper} {w : World} (hg : o.guard = none) (sx sy : Nat) (ho : o.op = .binOp .eql 22 (.tmp sx) (.tmp sy) 22) (x : Nat) (hx : a.eval (.tmp sx) = .agg (numA x)) (hy : a.eval (.tmp sy) = .agg (numA x)) (lx : x < 115792089237316195423570985008687907853269984665640564039457584007913129639936)
    (h : wpList Tryd.prog ops Q rest (a.put o.dst (.bool true)) w) : wpList Tryd.prog ops Q (o :: rest) a w :=
  l_val hg (.bool true) ((run_eql_num (t := 22) (e := 5) x x ho hx hy lx lx Tryd.underlying22 Tryd.underlying5 sz5 ag5 eqG w).trans (by rw [show decide (x = x) = true from decide_eq_true rfl])) h

set_option maxHeartbeats 1000000 in
theorem row_none (A : Option Addr) (cap : Nat) (u s : Nat) (w : World) (hs : s < 256) (hp : PrimeAt w) :
    Calls Tryd.prog 8 #[.slice A 0 cap, .agg (numA u), .int .u8 (s : Int)] w fun e w' => e = .returned (.bool true) ∧ Below w.heap.size w w' := by
  have HP : Kept _ := ⟨hp⟩
  clear hp
  go_enter Tryd.func8, Tryd.ntmps8
  go_wp2_with fail
  generalize hW : w.alloc (.cells (numA u) 22) = W
  have QB : Below w.heap.size w W := by subst hW; exact (Below.refl _ _).alloc (Nat.le_refl _) _
  clear hW
  refine (alive2_any _ (PrimeAt.below HP.out QB)).mono ?_
  rintro e w1 ⟨rfl, hb1⟩
  have H1 : Kept _ := ⟨QB.trans (hb1.mono QB.size)⟩
  clear hb1 QB
  go_wp2_with fail
  go_ret
  exact ⟨rfl, H1.out⟩

set_option maxHeartbeats 1000000 in
theorem row_any (A : Addr) (len cap : Nat) (f : Nat → Nat) (u s : Nat) (w : World) (lf : ∀ i, i < len → f i < 115792089237316195423570985008687907853269984665640564039457584007913129639936) (lu : u < 115792089237316195423570985008687907853269984665640564039457584007913129639936) (hc : Lies w A len f) (hs : s < 256) (hp : PrimeAt w) :
    Calls Tryd.prog 8 #[.slice (some A) len cap, .agg (numA u), .int .u8 (s : Int)] w fun e w' => e = .returned (.bool true) ∧ Below w.heap.size w w' := by
  have LF : Kept _ := ⟨lf⟩
  have LU : Kept _ := ⟨lu⟩
  have HC : Kept _ := ⟨hc⟩
  have HP : Kept _ := ⟨hp⟩
  clear lf lu hc hp
  go_enter Tryd.func8, Tryd.ntmps8
  go_wp2_with fail
  generalize hW : w.alloc (.cells (numA u) 22) = W
  have Au0 : At W w.heap.size u := by subst hW; exact at_new w u
  have QB : Below w.heap.size w W := by subst hW; exact (Below.refl _ _).alloc (Nat.le_refl _) _
  clear hW
  refine (alive2_any _ (PrimeAt.below HP.out QB)).mono ?_
  rintro e w1 ⟨rfl, hb1⟩
  have Au := Au0.under hb1
  have H1 : Kept _ := ⟨QB.trans (hb1.mono QB.size)⟩
  clear hb1 QB Au0
  by_cases h40 : 4 < len
  · have hd : decide ((4 : Int) < (len : Int)) = true := decide_eq_true (by omega)
    go_wp2_with fail
    go_ret
    exact ⟨rfl, H1.out⟩
  by_cases h0 : len = 0
  · subst h0
    go_wp2_with fail
    go_ret
    exact ⟨rfl, H1.out⟩
  have hd : decide ((4 : Int) < (len : Int)) = false := decide_eq_false (by omega)
  have hne : (len : Int) ≠ 0 := by omega
  have hz0 : ((len : Int) == 0) = false := by simpa using h0
  go_wp2_with fail
  refine region_made2 (W0 := w1) [(21, .agg (numA u)), (22, .agg (numA u))] 2 3 4 5 7 8 u u (by kernel_rfl) (by kernel_rfl) (by kernel_rfl) (by kernel_rfl) (by kernel_rfl) (by kernel_rfl) (by kernel_rfl) (by kernel_rfl) (by kernel_rfl) (by kernel_rfl) (by kernel_rfl) (by kernel_rfl) (Below.refl _ _) ⟨ok_get (by rfl) 21 (w.heap.size) u (.tmp 4) rfl (by kernel_rfl) rfl (by kernel_rfl) (fun w hb => At.under Au hb), ok_get (by rfl) 22 (w.heap.size) u (.tmp 4) rfl (by kernel_rfl) rfl (by kernel_rfl) (fun w hb => At.under Au hb), ok_new (by rfl) 7 rfl zero32 rfl makes_num, ok_new (by rfl) 8 rfl zero32 rfl makes_num, ok_put 2 u 7 21 (by rfl) rfl rfl (by kernel_rfl) (by rfl) (by kernel_rfl) (by kernel_rfl) (by kernel_rfl), ok_put 3 u 8 22 (by rfl) rfl rfl (by kernel_rfl) (by rfl) (by kernel_rfl) (by kernel_rfl) (by kernel_rfl), trivial⟩ ?_
  intro g7 g8 w2 hg7 hg8 hne7 A7 A8 hb2
  simp only [putAll, List.foldl_cons, List.foldl_nil, Act.put, List.setIfInBounds_toArray, List.set_cons_succ, List.set_cons_zero]
  have Q2 : Kept _ := ⟨H1.out.trans (hb2.mono H1.out.size)⟩
  have hg7' : w.heap.size ≤ g7 := Nat.le_trans H1.out.size hg7
  have hg8' : w.heap.size ≤ g8 := Nat.le_trans H1.out.size hg8
  clear Au hb2 H1 hg7 hg8
  go_wp2_with fail
  obtain ⟨q, hq⟩ : ∃ q, q = s % len := ⟨_, rfl⟩
  have hql : q < len := by rw [hq]; exact Nat.mod_lt _ (by omega)
  rw [show ((s : Int) % (len : Int)) = (q : Int) from by rw [hq]; simp]
  clear hq
  go_loopg [30] len (fun k s30 wr => ∃ i x y : Nat, i + k = len ∧ s30 = .int .i64 (i : Int) ∧ Below w.heap.size w wr ∧ At wr g7 x ∧ At wr g8 y ∧ Kept (x = rowTo XN f u i ∧ y = rowTo XN (fun i => f ((i + q) % len)) u i))
  case atStart => exact ⟨0, u, u, by omega, rfl, Q2.out, A7, A8, ⟨(rowTo_zero _ _ _).symm, (rowTo_zero _ _ _).symm⟩⟩
  case round =>
    obtain ⟨i, x, y, hik, rfl, HB, Ax, Ay, KE⟩ := hrel
    clear Q2 A7 A8
    have lx : x < 115792089237316195423570985008687907853269984665640564039457584007913129639936 := by rw [KE.out.1]; exact rowTo_lt f u LU.out i
    have ly : y < 115792089237316195423570985008687907853269984665640564039457584007913129639936 := by rw [KE.out.2]; exact rowTo_lt _ u LU.out i
    have LX : Kept _ := ⟨lx⟩
    have LY : Kept _ := ⟨ly⟩
    have HL : Kept _ := ⟨HC.out.below HB⟩
    clear lx ly
    by_cases hk0 : gk = 0
    · obtain rfl : i = len := by omega
      subst hk0
      clear hik
      have KXY : Kept (y = x) := ⟨by rw [KE.out.1, KE.out.2, rowTo_round XN_comm f u hql (by omega)]⟩
      clear KE
      rw [KXY.out] at Ay
      clear KXY LY HL
      have HQ : Kept _ := ⟨HB⟩
      clear HB
      go_wp2_with (first | (refine wpList_get rfl (.tmp 7) rfl _ x rfl Ax ?_) | (refine wpList_get rfl (.tmp 8) rfl _ x rfl Ay ?_) | (refine l_eqnum rfl 51 52 rfl x rfl rfl LX.out ?_; simp only [Act.put, List.setIfInBounds_toArray, List.set_cons_succ, List.set_cons_zero]))
      go_ret
      exact ⟨rfl, HQ.out⟩
    · have hil : i < len := by omega
      have hlt : ((i : Int) < (len : Int)) := by omega
      have hr : (i + q) % len < len := Nat.mod_lt _ (by omega)
      obtain ⟨r, er⟩ : ∃ r, r = (i + q) % len := ⟨_, rfl⟩
      rw [← er] at hr
      have ER : Kept _ := ⟨er⟩
      have hrlt : ((r : Int) < (len : Int)) := by omega
      obtain ⟨z, ez⟩ : ∃ z, z = XN (f i) x := ⟨_, rfl⟩
      obtain ⟨v, ev⟩ : ∃ v, v = XN (f r) y := ⟨_, rfl⟩
      have KN : Kept (z = rowTo XN f u (i + 1) ∧ v = rowTo XN (fun i => f ((i + q) % len)) u (i + 1)) := ⟨by rw [ez, KE.out.1, rowTo_succ], by rw [ev, KE.out.2, er, rowTo_succ]⟩
      have EU : Kept _ := ⟨ez⟩
      have EV : Kept _ := ⟨ev⟩
      clear KE er ez ev
      go_wp2_with fail
      have lx := LX.out
      have lz := LF.out i hil
      have HPW := PrimeAt.below HP.out HB
      have Fc : ∀ w', Below wr.heap.size wr w' → ∀ j v, (numA (f i))[j]? = some v → w'.cell? ((A.add (i * 32)).add j) = some v := fun w' hb => (HL.out.below hb).cells i hil
      have Cx : ∀ w', Below wr.heap.size wr w' → Calls Tryd.prog 25 [.agg (numA (f i)), .agg (numA x)].toArray w' fun e w2 => e = .returned (.agg (numA z)) ∧ Below wr.heap.size wr w2 := fun w' hb => by rw [EU.out]; exact (X_any (f i) x w' lz lx (PrimeAt.below HPW hb)).mono fun e w2 hh => ⟨hh.1, hb.trans (hh.2.mono hb.size)⟩
      refine wp_region_quiet_cut (C := fun w' => Below wr.heap.size wr w') 6 rfl (by kernel_rfl) (by kernel_rfl) (by kernel_rfl) (by kernel_rfl) (by kernel_rfl) (Below.drew (Below.refl _ _)) ?_
      dsimp only [List.take_succ_cons, List.take_zero]
      refine q_val (by kernel_rfl) (.slice (some A) len cap) (fun w' => by kernel_rfl) ?_
      simp only [Act.put, List.setIfInBounds_toArray, List.set_cons_succ, List.set_cons_zero]
      refine q_val (by kernel_rfl) (.int .i64 (i : Int)) (fun w' => by kernel_rfl) ?_
      simp only [Act.put, List.setIfInBounds_toArray, List.set_cons_succ, List.set_cons_zero]
      refine q_val (by kernel_rfl) (.pointer (some (A.add (i * 32)))) (fun w' => ?ia) ?_
      case ia => simp [execOp, Act.eval, go_sem, hlt, hil]
      simp only [Act.put, List.setIfInBounds_toArray, List.set_cons_succ, List.set_cons_zero]
      refine q_load_cells (by kernel_rfl) 22 _ (A.add (i * 32)) (numA (f i)) _ rfl (by kernel_rfl) Fc Tryd.underlying22 rfl (by rw [numA_size]; kernel_rfl) ?_
      simp only [Act.put, List.setIfInBounds_toArray, List.set_cons_succ, List.set_cons_zero]
      refine q_load (by kernel_rfl) 22 _ (g7) 22 (numA x) (0, 0) _ rfl (by kernel_rfl) (fun w' hb => At.under Ax hb) Tryd.underlying22 rfl (by rw [numA_size]; kernel_rfl) ?_
      simp only [Act.put, List.setIfInBounds_toArray, List.set_cons_succ, List.set_cons_zero]
      refine q_call (by kernel_rfl) 25 Tryd.f25 _ _ _ [.agg (numA (f i)), .agg (numA x)] (.agg (numA z)) rfl (by kernel_rfl) Tryd.func25 (by kernel_rfl) rfl Cx ?_
      simp only [Act.put, List.setIfInBounds_toArray, List.set_cons_succ, List.set_cons_zero]
      refine wpQuiet_nil ?_
      intro w3 hw3
      have Ay3 := Ay.under hw3
      have HB3 := HB.trans (hw3.mono HB.size)
      refine wpList_put rfl (.tmp 7) (.tmp 38) rfl g7 z (by kernel_rfl) (by kernel_rfl) (Ax.under hw3).room ?_
      intro w4 A4 P4
      have Ay4 := P4.at Ay3 (Ne.symm hne7)
      have HB4 : Below w.heap.size w w4 := HB3.trans (P4.below hg7')
      have HL4 : Kept _ := ⟨HC.out.below HB4⟩
      clear hw3 Ay3 HB3 P4 Ax Ay HB HL Fc Cx lx lz EU HPW
      go_wp2_with fail
      have ly := LY.out
      have lz := LF.out r hr
      have HPW := PrimeAt.below HP.out HB4
      have Fc : ∀ w', Below w4.heap.size w4 w' → ∀ j v, (numA (f r))[j]? = some v → w'.cell? ((A.add (r * 32)).add j) = some v := fun w' hb => (HL4.out.below hb).cells r hr
      have Cx : ∀ w', Below w4.heap.size w4 w' → Calls Tryd.prog 25 [.agg (numA (f r)), .agg (numA y)].toArray w' fun e w2 => e = .returned (.agg (numA v)) ∧ Below w4.heap.size w4 w2 := fun w' hb => by rw [EV.out]; exact (X_any (f r) y w' lz ly (PrimeAt.below HPW hb)).mono fun e w2 hh => ⟨hh.1, hb.trans (hh.2.mono hb.size)⟩
      have et : (((i + q : Nat) : Int)).tmod (len : Int) = (r : Int) := by rw [ER.out]; exact (Int.ofNat_tmod (i + q) len).symm
      refine wp_region_quiet_cut (C := fun w' => Below w4.heap.size w4 w') 11 rfl (by kernel_rfl) (by kernel_rfl) (by kernel_rfl) (by kernel_rfl) (by kernel_rfl) (Below.drew (Below.refl _ _)) ?_
      dsimp only [List.take_succ_cons, List.take_zero]
      refine q_val (by kernel_rfl) (.slice (some A) len cap) (fun w' => by kernel_rfl) ?_
      simp only [Act.put, List.setIfInBounds_toArray, List.set_cons_succ, List.set_cons_zero]
      refine q_val (by kernel_rfl) (.int .i64 (i : Int)) (fun w' => by kernel_rfl) ?_
      simp only [Act.put, List.setIfInBounds_toArray, List.set_cons_succ, List.set_cons_zero]
      refine q_val (by kernel_rfl) (.int .i64 (q : Int)) (fun w' => by kernel_rfl) ?_
      simp only [Act.put, List.setIfInBounds_toArray, List.set_cons_succ, List.set_cons_zero]
      refine q_val (by kernel_rfl) (.int .i64 ((i + q : Nat) : Int)) (fun w' => ?ad) ?_
      case ad =>
        simp [execOp, Act.eval, go_sem]
        first | (rw [IntKind.wrap_i64]; unfold wrap64; omega) | (simp [IntKind.wrap_i64, wrap64]; omega)
      simp only [Act.put, List.setIfInBounds_toArray, List.set_cons_succ, List.set_cons_zero]
      refine q_val (by kernel_rfl) (.slice (some A) len cap) (fun w' => by kernel_rfl) ?_
      simp only [Act.put, List.setIfInBounds_toArray, List.set_cons_succ, List.set_cons_zero]
      refine q_val (by kernel_rfl) (.int .i64 (len : Int)) (fun w' => by kernel_rfl) ?_
      simp only [Act.put, List.setIfInBounds_toArray, List.set_cons_succ, List.set_cons_zero]
      refine q_val (by kernel_rfl) (.int .i64 (r : Int)) (fun w' => ?rm) ?_
      case rm =>
        simp [execOp, Act.eval, go_sem, hne, ← et]
        exact h0
      simp only [Act.put, List.setIfInBounds_toArray, List.set_cons_succ, List.set_cons_zero]
      refine q_val (by kernel_rfl) (.pointer (some (A.add (r * 32)))) (fun w' => ?ia) ?_
      case ia => simp [execOp, Act.eval, go_sem, hrlt, hr]
      simp only [Act.put, List.setIfInBounds_toArray, List.set_cons_succ, List.set_cons_zero]
      refine q_load_cells (by kernel_rfl) 22 _ (A.add (r * 32)) (numA (f r)) _ rfl (by kernel_rfl) Fc Tryd.underlying22 rfl (by rw [numA_size]; kernel_rfl) ?_
      simp only [Act.put, List.setIfInBounds_toArray, List.set_cons_succ, List.set_cons_zero]
      refine q_load (by kernel_rfl) 22 _ (g8) 22 (numA y) (0, 0) _ rfl (by kernel_rfl) (fun w' hb => At.under Ay4 hb) Tryd.underlying22 rfl (by rw [numA_size]; kernel_rfl) ?_
      simp only [Act.put, List.setIfInBounds_toArray, List.set_cons_succ, List.set_cons_zero]
      refine q_call (by kernel_rfl) 25 Tryd.f25 _ _ _ [.agg (numA (f r)), .agg (numA y)] (.agg (numA v)) rfl (by kernel_rfl) Tryd.func25 (by kernel_rfl) rfl Cx ?_
      simp only [Act.put, List.setIfInBounds_toArray, List.set_cons_succ, List.set_cons_zero]
      refine wpQuiet_nil ?_
      intro w5 hw5
      have A5 := A4.under hw5
      have HB5 := HB4.trans (hw5.mono HB4.size)
      refine wpList_put rfl (.tmp 8) (.tmp 49) rfl g8 v (by kernel_rfl) (by kernel_rfl) (Ay4.under hw5).room ?_
      intro w6 A6 P6
      have Ax6 := P6.at A5 hne7
      have HB6 : Below w.heap.size w w6 := HB5.trans (P6.below hg8')
      clear hw5 A5 HB5 P6 A4 Ay4 HB4 HL4 Fc Cx ly lz EV et HPW
      go_wp2_with fail
      go_roundg (gk - 1)
      case measure => omega
      case rel => exact ⟨i + 1, z, v, by omega, by simp, HB6, Ax6, A6, KN⟩

theorem row_all (v : Value) (u : Nat) (n : Int) (w : World) (hv : v = .slice none 0 0 ∨ ∃ A len cap f, v = .slice (some A) len cap ∧ (len = 0 ∨ Lies w A len f) ∧ ∀ i, i < len → f i < 115792089237316195423570985008687907853269984665640564039457584007913129639936)
    (lu : u < 115792089237316195423570985008687907853269984665640564039457584007913129639936) (hn : (Lit.int .u8 n).wf = true) (hp : PrimeAt w) : Calls Tryd.prog 8 #[v, .agg (numA u), .int .u8 n] w fun e w' => e = .returned (.bool true) ∧ Below w.heap.size w w' := by
  have hb := bounds_u8 hn
  obtain ⟨s, rfl⟩ := Int.eq_ofNat_of_zero_le hb.1
  rcases hv with rfl | ⟨A, len, cap, f, rfl, h0 | hl, hf⟩
  · exact row_none none 0 u s w (by omega) hp
  · subst h0; exact row_none (some A) cap u s w (by omega) hp
  · exact row_any A len cap f u s w hf lu hl (by omega) hp
end Go.Proofs.YtanfjkmkfcekmaaDoor
