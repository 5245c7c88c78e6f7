/-
  Sums of numbers, what is left modulo p, and the bytes of a number, by the program.
-/
import Derived.Test.YtfcinakpdnblfaaYB
namespace Go.Proofs.Ytfcinakpdnblfaa.sh
open Go Go.RowKit
set_option linter.unusedVariables false
set_option linter.unusedSimpArgs false

theorem nt_info : (Try.prog.info? 43).map (·.size) = some 3 := by kernel_rfl
theorem a16_info : (Try.prog.info? 25).map (·.size) = some 16 := by kernel_rfl
set_option maxHeartbeats 1000000 in
theorem plus_any (x0 x1 x2 y0 y1 y2 : Nat) (w : World) (hx : x0 < 18446744073709551616 ∧ x1 < 18446744073709551616 ∧ x2 < 18446744073709551616) (hy : y0 < 18446744073709551616 ∧ y1 < 18446744073709551616 ∧ y2 < 18446744073709551616) :
    Calls Try.prog 15 #[.agg #[.int .u64 (x0 : Int), .int .u64 (x1 : Int), .int .u64 (x2 : Int)], .agg #[.int .u64 (y0 : Int), .int .u64 (y1 : Int), .int .u64 (y2 : Int)]] w
      fun e w' => ∃ z0 z1 z2 c : Nat, e = .returned (.agg #[.int .u64 (z0 : Int), .int .u64 (z1 : Int), .int .u64 (z2 : Int)]) ∧ Below w.heap.size w w' ∧
        Kept (z0 < 18446744073709551616 ∧ z1 < 18446744073709551616 ∧ z2 < 18446744073709551616 ∧ z0 + 18446744073709551616 * z1 + 340282366920938463463374607431768211456 * z2 + 6277101735386680763835789423207666416102355444464034512896 * c = x0 + 18446744073709551616 * x1 + 340282366920938463463374607431768211456 * x2 + (y0 + 18446744073709551616 * y1 + 340282366920938463463374607431768211456 * y2)) := by
  obtain ⟨z0, c0, h0, H0⟩ := call_add64_0 x0 y0
  obtain ⟨z1, c1, h1, H1⟩ := call_add64 x1 y1 c0 (by have := H0.out; have := hx.1; have := hy.1; omega)
  obtain ⟨z2, c2, h2, H2⟩ := call_add64 x2 y2 c1 (by have := H1.out; have := H0.out; have := hx.1; have := hy.1; have := hx.2.1; have := hy.2.1; omega)
  have HF : Kept (z0 < 18446744073709551616 ∧ z1 < 18446744073709551616 ∧ z2 < 18446744073709551616 ∧ z0 + 18446744073709551616 * z1 + 340282366920938463463374607431768211456 * z2 + 6277101735386680763835789423207666416102355444464034512896 * c2 = x0 + 18446744073709551616 * x1 + 340282366920938463463374607431768211456 * x2 + (y0 + 18446744073709551616 * y1 + 340282366920938463463374607431768211456 * y2)) := ⟨by
    have := H0.out; have := H1.out; have := H2.out
    omega⟩
  clear H0 H1 H2 hx hy
  go_enter Try.func15, Try.ntmps15
  go_wp2
  refine wp_loop_rounds 4 ?_
  rw [rounds_succ]
  go_wp2
  go_region
  go_wp2
  rw [rounds_succ]
  go_wp2
  go_region
  go_wp2
  rw [rounds_succ]
  go_wp2
  go_region
  go_wp2
  rw [rounds_succ]
  go_wp2
  refine bodyPost_ret (v := .agg #[.int .u64 (z0 : Int), .int .u64 (z1 : Int), .int .u64 (z2 : Int)]) (by simp [results, Try.results15, go_sem]) rfl ⟨z0, z1, z2, c2, rfl, ?_, HF⟩
  repeat (first | exact Below.refl _ _ | refine Below.drew ?_ | refine Below.alloc ?_ (by simp <;> omega) _ | refine Below.setCell ?_ (by simp <;> omega) _)

theorem plusD (N K : Nat) (w : World) (h : N + K < 6277101735386680763835789423207666416102355444464034512896) :
    Calls Try.prog 15 #[.agg (ints .u64 (nw N)), .agg (ints .u64 (nw K))] w fun e w' => e = .returned (.agg (ints .u64 (nw (N + K)))) ∧ Below w.heap.size w w' := by
  refine (plus_any (wd N 0) (wd N 1) (wd N 2) (wd K 0) (wd K 1) (wd K 2) w ⟨wd_lt _ _, wd_lt _ _, wd_lt _ _⟩ ⟨wd_lt _ _, wd_lt _ _, wd_lt _ _⟩).mono ?_
  rintro e w' ⟨z0, z1, z2, c, rfl, hb, H⟩
  refine ⟨?_, hb⟩
  obtain ⟨h0, h1, h2, h3⟩ := H.out
  rw [nw_sum N (by omega), nw_sum K (by omega)] at h3
  rw [nw_of z0 z1 z2 (N + K) h0 h1 h2 (by omega)]
  rfl

theorem run_shr2 {o : Oper} {a : Act} {x : Operand} {m z : Nat} (ho : o.op = .binOp .shr 39 x (.const (.int .u64 2)) 59) (hx : a.eval x = .int .u64 (m : Int)) (hm : m < 18446744073709551616) (hz : z = m / 4) (w : World) : (execOp a.eval o).run Try.prog w = .ok (.value (.int .u64 (z : Int))) w := by
  have e3 : a.eval (.const (.int .u64 2)) = .int .u64 2 := rfl
  unfold execOp
  simp only [ho, hx, e3]
  rw [hz]
  simp [go_sem, Op.shift, IntKind.bits]
  exact Int.fdiv_eq_ediv_of_nonneg _ (by decide)
theorem run_and3 {o : Oper} {a : Act} {x : Operand} {m z : Nat} (ho : o.op = .binOp .and 39 x (.const (.int .u64 3)) 39) (hx : a.eval x = .int .u64 (m : Int)) (hm : m < 18446744073709551616) (hz : z = m % 4) (w : World) : (execOp a.eval o).run Try.prog w = .ok (.value (.int .u64 (z : Int))) w := by
  have e3 : a.eval (.const (.int .u64 3)) = .int .u64 3 := rfl
  have h := u64_and_nat m 3 hm (by decide)
  rw [show (3 : Nat) = 2 ^ 2 - 1 by decide, Nat.and_two_pow_sub_one_eq_mod] at h
  unfold execOp
  simp only [ho, hx, e3]
  rw [hz]
  simp [go_sem]
  exact h
theorem red_less (N : Nat) (h : N < 2722258935367507707706996859454145691638) (h0 : wd (N + 5) 2 / 4 = 0) : N % 1361129467683753853853498429727072845819 = N := by
  rw [wd2] at h0
  omega
theorem red_more (N : Nat) (h : N < 2722258935367507707706996859454145691638) (h0 : wd (N + 5) 2 / 4 ≠ 0) : nw (N % 1361129467683753853853498429727072845819) = [wd (N + 5) 0, wd (N + 5) 1, wd (N + 5) 2 % 4] := by
  refine nw_of _ _ _ _ (wd_lt _ _) (wd_lt _ _) (by omega) ?_
  have hs := nw_sum (N + 5) (by omega)
  generalize wd (N + 5) 0 = a at *
  generalize wd (N + 5) 1 = b at *
  generalize wd (N + 5) 2 = c at *
  have hc : c / 4 = 1 := by omega
  have hm : 1361129467683753853853498429727072845819 ≤ N := by omega
  have hmod : N % 1361129467683753853853498429727072845819 = N - 1361129467683753853853498429727072845819 := by rw [Nat.mod_eq_sub_mod hm]; exact Nat.mod_eq_of_lt (by omega)
  rw [hmod]
  omega

set_option maxRecDepth 100000 in
set_option maxHeartbeats 1000000 in
theorem reducedD (N : Nat) (w : World) (hN : N < 2722258935367507707706996859454145691638) :
    Calls Try.prog 18 #[.agg (ints .u64 (nw N))] w fun e w' => e = .returned (.agg (ints .u64 (nw (N % 1361129467683753853853498429727072845819)))) ∧ Below w.heap.size w w' := by
  obtain ⟨L, hL⟩ : ∃ L, L = nw (N % 1361129467683753853853498429727072845819) := ⟨_, rfl⟩
  obtain ⟨a, ha⟩ : ∃ a, a = nw N := ⟨_, rfl⟩
  obtain ⟨m, hm⟩ : ∃ m, m = nw (N + 5) := ⟨_, rfl⟩
  obtain ⟨m2, hm2⟩ : ∃ m, m = wd (N + 5) 2 := ⟨_, rfl⟩
  obtain ⟨q, hq⟩ : ∃ q, q = m2 / 4 := ⟨_, rfl⟩
  obtain ⟨r, hr⟩ : ∃ r, r = m2 % 4 := ⟨_, rfl⟩
  rw [← hL, ← ha]
  have LL : Kept (L.length = 3) := ⟨by rw [hL]; rfl⟩
  have LA : Kept (a.length = 3) := ⟨by rw [ha]; rfl⟩
  have LM : Kept (m.length = 3) := ⟨by rw [hm]; rfl⟩
  have G2 : Kept ((ints .u64 m)[2]? = some (.int .u64 (m2 : Int))) := ⟨ints_get (by rw [hm, hm2]; rfl)⟩
  have B2 : Kept (m2 < 18446744073709551616) := ⟨by rw [hm2]; exact wd_lt _ _⟩
  have Hq : Kept _ := ⟨hq⟩
  have Hr : Kept _ := ⟨hr⟩
  have C0 : Kept (q = 0 → L = a) := ⟨fun h => by rw [hL, ha, red_less N hN (by rw [← hm2, ← hq, h])]⟩
  have C1 : Kept (q ≠ 0 → m.set 2 r = L) := ⟨fun h => by rw [hL, red_more N hN (by rw [← hm2, ← hq]; exact h), hm, hr, hm2]; rfl⟩
  have CP : Kept (∀ w', Calls Try.prog 15 #[.agg (ints .u64 a), .agg #[.int .u64 5, .int .u64 0, .int .u64 0]] w' fun e w2 => e = .returned (.agg (ints .u64 m)) ∧ Below w'.heap.size w' w2) := ⟨fun w' => by rw [ha, hm]; exact plusD N 5 w' (by omega)⟩
  obtain ⟨ZZ, hZZ⟩ : ∃ ZZ : Array Value, ZZ = #[.int .u64 0, .int .u64 0, .int .u64 0] := ⟨_, rfl⟩
  have LZ : Kept (ZZ.size = 3) := ⟨by rw [hZZ]; rfl⟩
  have A0 : Blk ((w.alloc (.cells (ints .u64 a) 43)).alloc (.cells #[.int .u64 0, .int .u64 0, .int .u64 0] 43)) w.heap.size 43 (ints .u64 a) := (blk_new w _ _).alloc _
  have A1 : Blk ((w.alloc (.cells (ints .u64 a) 43)).alloc (.cells #[.int .u64 0, .int .u64 0, .int .u64 0] 43)) (w.heap.size + 1) 43 ZZ := by rw [hZZ]; exact blk_top _ _ _ _ (by simp)
  have Q0 : Below w.heap.size w ((w.alloc (.cells (ints .u64 a) 43)).alloc (.cells #[.int .u64 0, .int .u64 0, .int .u64 0] 43)) := ((Below.refl _ _).alloc (Nat.le_refl _) _).alloc (by simp) _
  clear hL ha hm hm2 hq hr hN hZZ
  go_enter Try.func18, Try.ntmps18
  go_wp2_with (first | ((with_reducible refine wv_row (d := 4) ?hd ?hw 43 (.tmp 1) ?ho (w.heap.size) ?hx (t' := 43) (ints .u64 a) _ _ Try.underlying43 ?hs ?hg ?_); (case hd => rfl); (case hw => kernel_rfl); (case ho => rfl); (case hx => kernel_rfl); (case hs => rw [ints_size, LA.out]; exact nt_info); (case hg => exact A0); simp only [Act.put, List.setIfInBounds_toArray, List.set_cons_succ, List.set_cons_zero]))
  refine (CP.out _).mono ?_
  rintro e w1 ⟨rfl, hb1⟩
  have B0 := A0.under hb1
  have B1 := A1.under hb1
  have Q1 := Q0.trans (hb1.mono Q0.size)
  have hl1 : w.heap.size + 1 < w1.heap.size := B1.lt
  clear A0 A1 Q0 hb1 CP
  go_wp2_with (first | (refine wl_store rfl 43 (.tmp 3) (.tmp 6) rfl w1.heap.size (ints .u64 m) rfl rfl _ (blk_new w1 _ _) (by rw [ints_size, LM.out]; exact nt_info) (by rw [ints_size, LM.out]; rfl) (ints_one _ _) ?_))
  intro w3 A3 P3
  have C0' := P3.blk (B0.alloc _) (by omega)
  have C1' := P3.blk (B1.alloc _) (by omega)
  have Q3 := (Q1.alloc Q1.size _).trans (P3.below (by omega))
  generalize hg3 : w1.heap.size = g3 at *
  clear B0 B1 Q1 P3
  have KA : Kept _ := ⟨A3⟩
  by_cases hq0 : q = 0
  · have e := C0.out hq0
    subst e
    subst hq0
    clear C0 C1
    go_wp2_with (first | ((with_reducible refine wv_elem (d := 8) ?hd ?hw 39 ag_u64 (.tmp 7) ?ho (⟨g3, 2, none⟩) ?hx (.int .u64 (m2 : Int)) ?hc ?_); (case hd => rfl); (case hw => kernel_rfl); (case ho => rfl); (case hx => kernel_rfl); (case hc => exact KA.out.cell G2.out); simp only [Act.put, List.setIfInBounds_toArray, List.set_cons_succ, List.set_cons_zero]) | ((with_reducible refine wv_val (d := 9) ?hd ?hw (.int .u64 (0 : Int)) ?hr ?_); (case hd => rfl); (case hw => kernel_rfl); (case hr => intro w; exact run_shr2 (z := 0) rfl (by kernel_rfl) B2.out Hq.out w); simp only [Act.put, List.setIfInBounds_toArray, List.set_cons_succ, List.set_cons_zero]) | (refine wl_load rfl 43 (.tmp 1) rfl (w.heap.size) rfl (ints .u64 L) 3 39 Try.underlying43 (by rw [ints_size, LL.out]; exact nt_info) C0' ?_) | (refine wl_store rfl 43 (.tmp 2) (.tmp 11) rfl _ (ints .u64 L) rfl rfl _ C1' (by rw [ints_size, LL.out]; exact nt_info) (by rw [ints_size, LL.out, LZ.out]) (ints_one _ _) ?_))
    intro w5 A5 P5
    go_wp2
    exact bodyPost_ret (v := .agg (ints .u64 L)) (results_cell_row Try.results18 _ _ _ 43 (ints .u64 L) (0, 0) _ rfl A5 Try.underlying43 rfl (by rw [ints_size, LL.out]; exact nt_info)) rfl ⟨rfl, Q3.trans (P5.below (by omega))⟩
  · have e := C1.out hq0
    have EM : Kept _ := ⟨e⟩
    have hqi : ¬ (q : Int) = 0 := by omega
    clear C0 C1 e
    go_wp2_with (first | ((with_reducible refine wv_elem (d := 8) ?hd ?hw 39 ag_u64 (.tmp 7) ?ho (⟨g3, 2, none⟩) ?hx (.int .u64 (m2 : Int)) ?hc ?_); (case hd => rfl); (case hw => kernel_rfl); (case ho => rfl); (case hx => kernel_rfl); (case hc => exact KA.out.cell G2.out); simp only [Act.put, List.setIfInBounds_toArray, List.set_cons_succ, List.set_cons_zero]) | ((with_reducible refine wv_val (d := 9) ?hd ?hw (.int .u64 (q : Int)) ?hr ?_); (case hd => rfl); (case hw => kernel_rfl); (case hr => intro w; exact run_shr2 rfl (by kernel_rfl) B2.out Hq.out w); simp only [Act.put, List.setIfInBounds_toArray, List.set_cons_succ, List.set_cons_zero]) | ((with_reducible refine wv_elem (d := 13) ?hd ?hw 39 ag_u64 (.tmp 12) ?ho (⟨g3, 2, none⟩) ?hx (.int .u64 (m2 : Int)) ?hc ?_); (case hd => rfl); (case hw => kernel_rfl); (case ho => rfl); (case hx => kernel_rfl); (case hc => exact KA.out.cell G2.out); simp only [Act.put, List.setIfInBounds_toArray, List.set_cons_succ, List.set_cons_zero]) | ((with_reducible refine wv_val (d := 14) ?hd ?hw (.int .u64 (r : Int)) ?hr ?_); (case hd => rfl); (case hw => kernel_rfl); (case hr => intro w; exact run_and3 rfl (by kernel_rfl) B2.out Hr.out w); simp only [Act.put, List.setIfInBounds_toArray, List.set_cons_succ, List.set_cons_zero]) | (refine wl_setElem rfl 39 sz_u64 (.tmp 15) (.tmp 14) rfl g3 2 .u64 (r : Int) rfl rfl _ KA.out (by rw [ints_size, LM.out]; decide) ?_))
    intro w4 A4 P4
    rw [ints_set, EM.out] at A4
    have C1'' := P4.blk C1' (by omega)
    have Q4 := Q3.trans (P4.below (by omega))
    clear C0' C1' Q3 P4 KA A3
    go_wp2_with (first | (refine wl_load rfl 43 (.tmp 3) rfl g3 rfl (ints .u64 L) 3 39 Try.underlying43 (by rw [ints_size, LL.out]; exact nt_info) A4 ?_) | (refine wl_store rfl 43 (.tmp 2) (.tmp 16) rfl _ (ints .u64 L) rfl rfl _ C1'' (by rw [ints_size, LL.out]; exact nt_info) (by rw [ints_size, LL.out, LZ.out]) (ints_one _ _) ?_))
    intro w5 A5 P5
    go_wp2
    exact bodyPost_ret (v := .agg (ints .u64 L)) (results_cell_row Try.results18 _ _ _ 43 (ints .u64 L) (0, 0) _ rfl A5 Try.underlying43 rfl (by rw [ints_size, LL.out]; exact nt_info)) rfl ⟨rfl, Q4.trans (P5.below (by omega))⟩
end Go.Proofs.Ytfcinakpdnblfaa.sh
