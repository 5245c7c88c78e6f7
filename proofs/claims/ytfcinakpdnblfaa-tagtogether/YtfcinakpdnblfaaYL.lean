/-
  TagTogether, walked.
-/
import Derived.Test.YtfcinakpdnblfaaYJ
namespace Go.Proofs.Ytfcinakpdnblfaa.sh
open Go Go.RowKit
set_option linter.unusedVariables false
set_option linter.unusedSimpArgs false

theorem half_clamp (key ot : List Nat) (h : key.length = 32) : clampL (key.take 16 ++ ot) = clampL key := by
  unfold clampL
  rw [List.take_append_of_le_length (by simp; omega), List.take_take]
  rfl
theorem half_s (key ot : List Nat) (h : key.length = 32) : sN (key.take 16 ++ ot) = val ot := by
  unfold sN
  rw [List.drop_left' (by simp; omega)]
theorem half_none (key ot : List Nat) (h : key.length = 32) (ho : ot.length = 16) (hy : Bytes ot) : tagL (key.take 16 ++ ot) [] = ot := by
  unfold tagL
  rw [half_s key ot h]
  show digs (0 % 1361129467683753853853498429727072845819 + val ot) 16 = ot
  rw [Nat.zero_mod, Nat.zero_add, ← ho]
  exact digs_val ot hy.all
theorem val_tag (key b : List Nat) : val (tagL key b) = (polyT (rN key) b ((b.length + 15) / 16) % 1361129467683753853853498429727072845819 + sN key) % 340282366920938463463374607431768211456 := by
  unfold tagL
  rw [val_digs]
theorem same_apart (A B s t : Nat) : ((A + s) % 340282366920938463463374607431768211456 + 340282366920938463463374607431768211456 - (B + s) % 340282366920938463463374607431768211456) % 340282366920938463463374607431768211456 = ((A + t) % 340282366920938463463374607431768211456 + 340282366920938463463374607431768211456 - (B + t) % 340282366920938463463374607431768211456) % 340282366920938463463374607431768211456 := by omega
theorem half_apart (key ot a b : List Nat) (h : key.length = 32) : digs (minusN (tagL (key.take 16 ++ ot) a) (tagL (key.take 16 ++ ot) b)) 16 = digs (minusN (tagL key a) (tagL key b)) 16 := by
  refine digs_congr _ _ 16 ?_
  have e16 : (256 : Nat) ^ 16 = 340282366920938463463374607431768211456 := by decide
  rw [e16]
  unfold minusN
  have hr : rN (key.take 16 ++ ot) = rN key := by unfold rN; rw [half_clamp key ot h]
  rw [val_tag, val_tag, val_tag, val_tag, hr]
  exact same_apart _ _ _ _
theorem splice_key (key ot : List Nat) (h : key.length = 32) (ho : ot.length = 16) : splice key 16 ot = key.take 16 ++ ot := by
  unfold splice
  rw [List.drop_of_length_le (by omega), List.append_nil]

set_option maxRecDepth 100000 in
set_option maxHeartbeats 4000000 in
theorem together6 (key ot : List Nat) (v0 v1 : Value) (l0 l1 : List Nat) (w : World) (hk : key.length = 32) (hy : Bytes key) (ho : ot.length = 16) (hyo : Bytes ot) (hv0 : BytesV v0 w l0) (hy0 : Bytes l0) (hm0 : l0.length ≤ maxLen) (hv1 : BytesV v1 w l1) (hy1 : Bytes l1) (hm1 : l1.length ≤ maxLen) :
    Calls Try.prog 5 #[.agg (ints .u8 key), .agg (ints .u8 ot), .agg #[v0, v1]] w fun e w' => e = .returned (.bool true) ∧ Below w.heap.size w w' := by
  obtain ⟨KL, hKL⟩ : ∃ L, L = key.take 16 ++ ot := ⟨_, rfl⟩
  have LKL : Kept (KL.length = 32) := ⟨by rw [hKL]; simp; omega⟩
  have YKL : Bytes KL := by rw [hKL]; exact (hy.take 16).append hyo
  obtain ⟨TA, hTA⟩ : ∃ T, T = tagL key l0 := ⟨_, rfl⟩
  obtain ⟨TB, hTB⟩ : ∃ T, T = tagL key l1 := ⟨_, rfl⟩
  obtain ⟨UA, hUA⟩ : ∃ T, T = tagL KL l0 := ⟨_, rfl⟩
  obtain ⟨UB, hUB⟩ : ∃ T, T = tagL KL l1 := ⟨_, rfl⟩
  obtain ⟨DM, hDM⟩ : ∃ D, D = digs (minusN TA TB) 16 := ⟨_, rfl⟩
  have hDM2 : DM = digs (minusN UA UB) 16 := by rw [hDM, hTA, hTB, hUA, hUB, hKL]; exact (half_apart key ot l0 l1 hk).symm
  have LD : Kept (DM.length = 16) := ⟨by rw [hDM]; exact digs_len _ _⟩
  have LK : Kept _ := ⟨hk⟩
  have LO : Kept _ := ⟨ho⟩
  have CTA : Kept (∀ w' v, BytesV v w' l0 → Calls Try.prog 10 #[.agg (ints .u8 key), v] w' fun e w2 => e = .returned (.agg (ints .u8 TA)) ∧ Below w'.heap.size w' w2) := ⟨fun w' v hv => by rw [hTA]; exact SumD key l0 v w' hk hy hy0 hv⟩
  have CTB : Kept (∀ w' v, BytesV v w' l1 → Calls Try.prog 10 #[.agg (ints .u8 key), v] w' fun e w2 => e = .returned (.agg (ints .u8 TB)) ∧ Below w'.heap.size w' w2) := ⟨fun w' v hv => by rw [hTB]; exact SumD key l1 v w' hk hy hy1 hv⟩
  have CUA : Kept (∀ w' v, BytesV v w' l0 → Calls Try.prog 10 #[.agg (ints .u8 KL), v] w' fun e w2 => e = .returned (.agg (ints .u8 UA)) ∧ Below w'.heap.size w' w2) := ⟨fun w' v hv => by rw [hUA]; exact SumD KL l0 v w' LKL.out YKL hy0 hv⟩
  have CUB : Kept (∀ w' v, BytesV v w' l1 → Calls Try.prog 10 #[.agg (ints .u8 KL), v] w' fun e w2 => e = .returned (.agg (ints .u8 UB)) ∧ Below w'.heap.size w' w2) := ⟨fun w' v hv => by rw [hUB]; exact SumD KL l1 v w' LKL.out YKL hy1 hv⟩
  have CN : Kept (∀ w', Calls Try.prog 10 #[.agg (ints .u8 KL), .slice none 0 0] w' fun e w2 => e = .returned (.agg (ints .u8 ot)) ∧ Below w'.heap.size w' w2) := ⟨fun w' => by
    have h := SumD KL [] (.slice none 0 0) w' LKL.out YKL nil_bytes ⟨none, 0, rfl, Nat.le_refl _, fun h => absurd rfl h⟩
    have e : tagL KL [] = ot := by rw [hKL]; exact half_none key ot hk ho hyo
    rw [e] at h
    exact h⟩
  have MA : Kept (∀ w', Calls Try.prog 13 #[.agg (ints .u8 TA), .agg (ints .u8 TB)] w' fun e w2 => e = .returned (.agg (ints .u8 DM)) ∧ Below w'.heap.size w' w2) := ⟨fun w' => by rw [hDM]; exact minusD TA TB w' (by rw [hTA]; exact tagL_len _ _) (by rw [hTB]; exact tagL_len _ _) (by rw [hTA]; exact tagL_bytes _ _) (by rw [hTB]; exact tagL_bytes _ _)⟩
  have MB : Kept (∀ w', Calls Try.prog 13 #[.agg (ints .u8 UA), .agg (ints .u8 UB)] w' fun e w2 => e = .returned (.agg (ints .u8 DM)) ∧ Below w'.heap.size w' w2) := ⟨fun w' => by rw [hDM2]; exact minusD UA UB w' (by rw [hUA]; exact tagL_len _ _) (by rw [hUB]; exact tagL_len _ _) (by rw [hUA]; exact tagL_bytes _ _) (by rw [hUB]; exact tagL_bytes _ _)⟩
  have ES : Kept ((splice (ints .u8 key).toList 16 (ints .u8 (ot.take 16)).toList).toArray = ints .u8 KL) := ⟨by rw [splice_ints, List.take_of_length_le (by omega), splice_key key ot hk ho, ← hKL]⟩
  have KV0 : Kept _ := ⟨hv0⟩
  have KV1 : Kept _ := ⟨hv1⟩
  obtain ⟨p0, c0, rfl, _, _⟩ := hv0
  obtain ⟨p1, c1, rfl, _, _⟩ := hv1
  obtain ⟨n0, hn0⟩ : ∃ n, n = l0.length := ⟨_, rfl⟩
  obtain ⟨n1, hn1⟩ : ∃ n, n = l1.length := ⟨_, rfl⟩
  rw [← hn0] at KV0 hm0 ⊢
  rw [← hn1] at KV1 hm1 ⊢
  obtain ⟨PR, hPR⟩ : ∃ P : Array Value, P = #[.slice p0 n0 c0, .slice p1 n1 c1] := ⟨_, rfl⟩
  have A0 : Blk (((w.alloc (.cells (ints .u8 key) 22)).alloc (.cells (ints .u8 ot) 25)).alloc (.cells #[.slice p0 n0 c0, .slice p1 n1 c1] 33)) w.heap.size 22 (ints .u8 key) := ((blk_new w _ _).alloc _).alloc _
  have A1 : Blk (((w.alloc (.cells (ints .u8 key) 22)).alloc (.cells (ints .u8 ot) 25)).alloc (.cells #[.slice p0 n0 c0, .slice p1 n1 c1] 33)) (w.heap.size + 1) 25 (ints .u8 ot) := (blk_top _ _ _ _ (by simp)).alloc _
  have A2 : Blk (((w.alloc (.cells (ints .u8 key) 22)).alloc (.cells (ints .u8 ot) 25)).alloc (.cells #[.slice p0 n0 c0, .slice p1 n1 c1] 33)) (w.heap.size + 2) 33 #[.slice p0 n0 c0, .slice p1 n1 c1] := blk_top _ _ _ _ (by simp)
  have Q0 : Below w.heap.size w (((w.alloc (.cells (ints .u8 key) 22)).alloc (.cells (ints .u8 ot) 25)).alloc (.cells #[.slice p0 n0 c0, .slice p1 n1 c1] 33)) := (((Below.refl _ _).alloc (Nat.le_refl _) _).alloc (by simp) _).alloc (by simp; omega) _
  clear hKL YKL hTA hTB hUA hUB hDM hDM2 hk hy ho hyo hy0 hy1 hn0 hn1
  go_enter Try.func5, Try.ntmps5
  go_wp2_with fail
  refine (alive6 _).mono ?_
  rintro e w1 ⟨rfl, hb1⟩
  have B0 := A0.under hb1
  have B1 := A1.under hb1
  have B2 := A2.under hb1
  have Q1 := Q0.trans (hb1.mono Q0.size)
  clear A0 A1 A2 Q0 hb1
  go_wp2_with fail
  refine region_ownL w1 5 [(13, .pointer (some ⟨w.heap.size + 2, 0, none⟩)), (14, .slice p0 n0 c0), (15, .pointer (some ⟨w.heap.size + 2, 1, none⟩)), (16, .slice p1 n1 c1), (7, .slice p0 n0 c0)] [] [] [] rfl (by kernel_rfl) (by kernel_rfl) (by kernel_rfl) (by kernel_rfl) (by kernel_rfl) (by kernel_rfl) (by kernel_rfl) (by kernel_rfl) (by kernel_rfl) (by kernel_rfl) (by kernel_rfl) ?hst1 ?hst2 (Below.refl _ _) (fun hA => ⟨ow_val hA (wants_none rfl) 13 (.pointer (some ⟨w.heap.size + 2, 0, none⟩)) (by kernel_rfl) rfl rfl rfl rfl (by kernel_rfl) (fun w => by kernel_rfl), ow_elem hA (wants_none rfl) 14 (.slice p0 n0 c0) (by kernel_rfl) rfl rfl rfl rfl (by kernel_rfl) 23 ag_bytes (.tmp 13) rfl (⟨w.heap.size + 2, 0, none⟩) (by kernel_rfl) (fun w1 hb => (B2.under hb).cell rfl), ow_val hA (wants_none rfl) 15 (.pointer (some ⟨w.heap.size + 2, 1, none⟩)) (by kernel_rfl) rfl rfl rfl rfl (by kernel_rfl) (fun w => by kernel_rfl), ow_elem hA (wants_none rfl) 16 (.slice p1 n1 c1) (by kernel_rfl) rfl rfl rfl rfl (by kernel_rfl) 23 ag_bytes (.tmp 15) rfl (⟨w.heap.size + 2, 1, none⟩) (by kernel_rfl) (fun w1 hb => (B2.under hb).cell rfl), ow_val hA (wants_none rfl) 7 (.slice p0 n0 c0) (by kernel_rfl) rfl rfl rfl rfl (by kernel_rfl) (fun w => by kernel_rfl), trivial⟩) ?_
  case hst1 => intro q hq; cases hq
  case hst2 => intro q hq; cases hq
  intro fv w2 hf hD hb2
  simp only [putR, List.foldl_cons, List.foldl_nil, List.map_cons, List.map_nil, Act.put, List.setIfInBounds_toArray, List.set_cons_succ, List.set_cons_zero]
  have D0 := B0.under hb2
  have D1 := B1.under hb2
  have Q2 := Q1.trans (hb2.mono Q1.size)
  have sz2 : w.heap.size + 2 < w2.heap.size := (B2.under hb2).lt
  clear hf hD B0 B1 B2 Q1 hb2
  by_cases h0 : n0 ≤ 1000
  case neg =>
    have hi : (1000 : Int) < (n0 : Int) := by omega
    go_wp2_with fail
    go_ret
    exact ⟨rfl, Q2⟩
  case pos =>
  have h0i : ¬ (1000 : Int) < (n0 : Int) := by omega
  by_cases h1 : n1 ≤ 1000
  case neg =>
    have hi : (1000 : Int) < (n1 : Int) := by omega
    go_wp2_with fail
    go_ret
    exact ⟨rfl, Q2⟩
  case pos =>
  have h1i : ¬ (1000 : Int) < (n1 : Int) := by omega
  go_wp2_with (first | ((with_reducible refine wv_row (d := 25) ?hd ?hw 22 (.tmp 3) ?ho (w.heap.size) ?hx (t' := 22) (ints .u8 key) _ _ Try.underlying22 ?hs ?hg ?_); (case hd => rfl); (case hw => kernel_rfl); (case ho => rfl); (case hx => kernel_rfl); (case hs => rw [ints_size, LK.out]; exact t32_info); (case hg => exact D0); simp only [Act.put, List.setIfInBounds_toArray, List.set_cons_succ, List.set_cons_zero]) | (refine wl_store rfl 22 (.tmp 9) (.tmp 25) rfl w2.heap.size (ints .u8 key) rfl rfl _ (blk_new w2 _ _) (by rw [ints_size, LK.out]; exact t32_info) (by rw [ints_size, LK.out]; rfl) (ints_one _ _) ?_))
  intro w3 E9 P3
  have E0 := P3.blk (D0.alloc _) (by omega)
  have E1 := P3.blk (D1.alloc _) (by omega)
  have Q3 := (Q2.alloc Q2.size _).trans (P3.below (by omega))
  generalize hg9 : w2.heap.size = g9 at *
  clear D0 D1 Q2 P3 hg9
  have VO : Kept (BytesV (.slice (some ⟨w.heap.size + 1, 0, none⟩) 16 16) w3 ot) := ⟨arr_bytes E1 LO.out⟩
  go_wp2_with fail
  refine region_ownL w3 2 [(26, .slice (some ⟨g9, 16, none⟩) 16 16), (27, .slice (some ⟨w.heap.size + 1, 0, none⟩) 16 16)] [] [] [] rfl (by kernel_rfl) (by kernel_rfl) (by kernel_rfl) (by kernel_rfl) (by kernel_rfl) (by kernel_rfl) (by kernel_rfl) (by kernel_rfl) (by kernel_rfl) (by kernel_rfl) (by kernel_rfl) ?hst1 ?hst2 (Below.refl _ _) (fun hA => ⟨ow_val hA (wants_none rfl) 26 (.slice (some ⟨g9, 16, none⟩) 16 16) (by kernel_rfl) rfl rfl rfl rfl (by kernel_rfl) (fun w => arr_from_run 16 rfl (by kernel_rfl) Try.underlying22 sz_u8 (by decide) w), ow_val hA (wants_none rfl) 27 (.slice (some ⟨w.heap.size + 1, 0, none⟩) 16 16) (by kernel_rfl) rfl rfl rfl rfl (by kernel_rfl) (fun w => arr_all_run rfl (by kernel_rfl) Try.underlying25 sz_u8 (by decide) w), trivial⟩) ?_
  case hst1 => intro q hq; cases hq
  case hst2 => intro q hq; cases hq
  intro fv w4 hf hD hb4
  simp only [putR, List.foldl_cons, List.foldl_nil, List.map_cons, List.map_nil, Act.put, List.setIfInBounds_toArray, List.set_cons_succ, List.set_cons_zero]
  refine wl_copyV rfl (.tmp 26) (.tmp 27) 23 23 rfl Try.underlying23 g9 16 16 16 (by kernel_rfl) (some ⟨w.heap.size + 1, 0, none⟩) 16 16 (by kernel_rfl) _ (E9.under hb4) ot (VO.out.under hb4) 16 rfl (by rw [ints_size, LK.out]; decide) ?_
  intro w5 G9 P5
  rw [ES.out] at G9
  have G0 := P5.blk (E0.under hb4) (by omega)
  have G1 := P5.blk (E1.under hb4) (by omega)
  have Q5 := (Q3.trans (hb4.mono Q3.size)).trans (P5.below (by omega))
  clear hf hD E0 E1 E9 Q3 VO hb4 P5 ES
  go_wp2_with (first | ((with_reducible refine wv_row (d := 29) ?hd ?hw 22 (.tmp 9) ?ho (g9) ?hx (t' := 22) (ints .u8 KL) _ _ Try.underlying22 ?hs ?hg ?_); (case hd => rfl); (case hw => kernel_rfl); (case ho => rfl); (case hx => kernel_rfl); (case hs => rw [ints_size, LKL.out]; exact t32_info); (case hg => exact G9); simp only [Act.put, List.setIfInBounds_toArray, List.set_cons_succ, List.set_cons_zero]))
  refine (CN.out _).mono ?_
  rintro e w6 ⟨rfl, hb6⟩
  have H0 := G0.under hb6
  have H1 := G1.under hb6
  have H9 := G9.under hb6
  have Q6 := Q5.trans (hb6.mono Q5.size)
  have sz6 : g9 < w6.heap.size := H9.lt
  clear G0 G1 G9 Q5 hb6 CN
  go_wp2_with (first | (refine wl_store rfl 25 (.tmp 10) (.tmp 30) rfl w6.heap.size (ints .u8 ot) rfl rfl _ (blk_new w6 _ _) (by rw [ints_size, LO.out]; exact a16_info) (by rw [ints_size, LO.out]; rfl) (ints_one _ _) ?_))
  intro w7 F10 P7
  have F0 := P7.blk (H0.alloc _) (by omega)
  have F1 := P7.blk (H1.alloc _) (by omega)
  have F9 := P7.blk (H9.alloc _) (by omega)
  have Q7 := (Q6.alloc Q6.size _).trans (P7.below (by omega))
  generalize hg10 : w6.heap.size = g10 at *
  clear H0 H1 H9 Q6 P7 hg10
  have S1c : Kept (∀ w', Below w7.heap.size w7 w' → Calls Try.prog 10 [.agg (ints .u8 key), .slice p0 n0 c0].toArray w' fun e w2 => e = .returned (.agg (ints .u8 TA)) ∧ Below w'.heap.size w' w2) := ⟨fun w' hb => CTA.out w' _ (KV0.out.under (Q7.trans (hb.mono Q7.size)))⟩
  have S2c : Kept (∀ w', Below w7.heap.size w7 w' → Calls Try.prog 10 [.agg (ints .u8 key), .slice p1 n1 c1].toArray w' fun e w2 => e = .returned (.agg (ints .u8 TB)) ∧ Below w'.heap.size w' w2) := ⟨fun w' hb => CTB.out w' _ (KV1.out.under (Q7.trans (hb.mono Q7.size)))⟩
  have S3c : Kept (∀ w', Below w7.heap.size w7 w' → Calls Try.prog 10 [.agg (ints .u8 KL), .slice p0 n0 c0].toArray w' fun e w2 => e = .returned (.agg (ints .u8 UA)) ∧ Below w'.heap.size w' w2) := ⟨fun w' hb => CUA.out w' _ (KV0.out.under (Q7.trans (hb.mono Q7.size)))⟩
  have S4c : Kept (∀ w', Below w7.heap.size w7 w' → Calls Try.prog 10 [.agg (ints .u8 KL), .slice p1 n1 c1].toArray w' fun e w2 => e = .returned (.agg (ints .u8 UB)) ∧ Below w'.heap.size w' w2) := ⟨fun w' hb => CUB.out w' _ (KV1.out.under (Q7.trans (hb.mono Q7.size)))⟩
  have M1c : Kept (∀ w', Below w7.heap.size w7 w' → Calls Try.prog 13 [.agg (ints .u8 TA), .agg (ints .u8 TB)].toArray w' fun e w2 => e = .returned (.agg (ints .u8 DM)) ∧ Below w'.heap.size w' w2) := ⟨fun w' _ => MA.out w'⟩
  have M2c : Kept (∀ w', Below w7.heap.size w7 w' → Calls Try.prog 13 [.agg (ints .u8 UA), .agg (ints .u8 UB)].toArray w' fun e w2 => e = .returned (.agg (ints .u8 DM)) ∧ Below w'.heap.size w' w2) := ⟨fun w' _ => MB.out w'⟩
  clear CTA CTB CUA CUB MA MB
  go_wp2_with fail
  refine region_ownL w7 20 [(31, .agg (ints .u8 key)), (32, .slice p0 n0 c0), (33, .agg (ints .u8 TA)), (34, .agg (ints .u8 key)), (35, .slice p1 n1 c1), (36, .agg (ints .u8 TB)), (37, .agg (ints .u8 DM)), (38, .agg (ints .u8 KL)), (39, .slice p0 n0 c0), (40, .agg (ints .u8 UA)), (41, .agg (ints .u8 KL)), (42, .slice p1 n1 c1), (43, .agg (ints .u8 UB)), (44, .agg (ints .u8 DM)), (45, .bool true), (46, .bool true), (47, .agg (ints .u8 ot)), (48, .agg (ints .u8 ot)), (49, .bool true), (50, .bool true)] [] [] [] rfl (by kernel_rfl) (by kernel_rfl) (by kernel_rfl) (by kernel_rfl) (by kernel_rfl) (by kernel_rfl) (by kernel_rfl) (by kernel_rfl) (by kernel_rfl) (by kernel_rfl) (by kernel_rfl) ?hst1 ?hst2 (Below.refl _ _) (fun hA => ⟨ow_row hA (wants_none rfl) 31 (.agg (ints .u8 key)) (by kernel_rfl) rfl rfl rfl rfl (by kernel_rfl) 22 (.tmp 3) rfl (w.heap.size) (by kernel_rfl) 22 (ints .u8 key) 32 5 Try.underlying22 ((by rw [ints_size, LK.out]; exact t32_info)) (fun w1 hb => F0.under hb) rfl, ow_val hA (wants_none rfl) 32 (.slice p0 n0 c0) (by kernel_rfl) rfl rfl rfl rfl (by kernel_rfl) (fun w => by kernel_rfl), ow_calld hA (wants_none rfl) 33 (.agg (ints .u8 TA)) (by kernel_rfl) rfl rfl rfl rfl (by kernel_rfl) 10 Try.f10 _ [.tmp 31, .tmp 32] _ [.agg (ints .u8 key), .slice p0 n0 c0] rfl (by kernel_rfl) Try.func10 (by kernel_rfl) rfl (S1c.out), ow_row hA (wants_none rfl) 34 (.agg (ints .u8 key)) (by kernel_rfl) rfl rfl rfl rfl (by kernel_rfl) 22 (.tmp 3) rfl (w.heap.size) (by kernel_rfl) 22 (ints .u8 key) 32 5 Try.underlying22 ((by rw [ints_size, LK.out]; exact t32_info)) (fun w1 hb => F0.under hb) rfl, ow_val hA (wants_none rfl) 35 (.slice p1 n1 c1) (by kernel_rfl) rfl rfl rfl rfl (by kernel_rfl) (fun w => by kernel_rfl), ow_calld hA (wants_none rfl) 36 (.agg (ints .u8 TB)) (by kernel_rfl) rfl rfl rfl rfl (by kernel_rfl) 10 Try.f10 _ [.tmp 34, .tmp 35] _ [.agg (ints .u8 key), .slice p1 n1 c1] rfl (by kernel_rfl) Try.func10 (by kernel_rfl) rfl (S2c.out), ow_calld hA (wants_none rfl) 37 (.agg (ints .u8 DM)) (by kernel_rfl) rfl rfl rfl rfl (by kernel_rfl) 13 Try.f13 _ [.tmp 33, .tmp 36] _ [.agg (ints .u8 TA), .agg (ints .u8 TB)] rfl (by kernel_rfl) Try.func13 (by kernel_rfl) rfl (M1c.out), ow_row hA (wants_none rfl) 38 (.agg (ints .u8 KL)) (by kernel_rfl) rfl rfl rfl rfl (by kernel_rfl) 22 (.tmp 9) rfl (g9) (by kernel_rfl) 22 (ints .u8 KL) 32 5 Try.underlying22 ((by rw [ints_size, LKL.out]; exact t32_info)) (fun w1 hb => F9.under hb) rfl, ow_val hA (wants_none rfl) 39 (.slice p0 n0 c0) (by kernel_rfl) rfl rfl rfl rfl (by kernel_rfl) (fun w => by kernel_rfl), ow_calld hA (wants_none rfl) 40 (.agg (ints .u8 UA)) (by kernel_rfl) rfl rfl rfl rfl (by kernel_rfl) 10 Try.f10 _ [.tmp 38, .tmp 39] _ [.agg (ints .u8 KL), .slice p0 n0 c0] rfl (by kernel_rfl) Try.func10 (by kernel_rfl) rfl (S3c.out), ow_row hA (wants_none rfl) 41 (.agg (ints .u8 KL)) (by kernel_rfl) rfl rfl rfl rfl (by kernel_rfl) 22 (.tmp 9) rfl (g9) (by kernel_rfl) 22 (ints .u8 KL) 32 5 Try.underlying22 ((by rw [ints_size, LKL.out]; exact t32_info)) (fun w1 hb => F9.under hb) rfl, ow_val hA (wants_none rfl) 42 (.slice p1 n1 c1) (by kernel_rfl) rfl rfl rfl rfl (by kernel_rfl) (fun w => by kernel_rfl), ow_calld hA (wants_none rfl) 43 (.agg (ints .u8 UB)) (by kernel_rfl) rfl rfl rfl rfl (by kernel_rfl) 10 Try.f10 _ [.tmp 41, .tmp 42] _ [.agg (ints .u8 KL), .slice p1 n1 c1] rfl (by kernel_rfl) Try.func10 (by kernel_rfl) rfl (S4c.out), ow_calld hA (wants_none rfl) 44 (.agg (ints .u8 DM)) (by kernel_rfl) rfl rfl rfl rfl (by kernel_rfl) 13 Try.f13 _ [.tmp 40, .tmp 43] _ [.agg (ints .u8 UA), .agg (ints .u8 UB)] rfl (by kernel_rfl) Try.func13 (by kernel_rfl) rfl (M2c.out), ow_val hA (wants_none rfl) 45 (.bool true) (by kernel_rfl) rfl rfl rfl rfl (by kernel_rfl) (fun w => by rw [run_eql_row (DM) (DM) rfl (by kernel_rfl) (by kernel_rfl) LD.out LD.out Try.underlying25 Try.underlying5 sz_u8 ag_u8 eg16]; rw [decide_eq_true rfl]), ow_val hA (wants_none rfl) 46 (.bool true) (by kernel_rfl) rfl rfl rfl rfl (by kernel_rfl) (fun w => by kernel_rfl), ow_row hA (wants_at hA 15 true 46 rfl rfl (by kernel_rfl) rfl rfl (by kernel_rfl)) 47 (.agg (ints .u8 ot)) (by kernel_rfl) rfl rfl rfl rfl (by kernel_rfl) 25 (.tmp 10) rfl (g10) (by kernel_rfl) 25 (ints .u8 ot) 16 5 Try.underlying25 ((by rw [ints_size, LO.out]; exact a16_info)) (fun w1 hb => F10.under hb) rfl, ow_row hA (wants_at hA 15 true 46 rfl rfl (by kernel_rfl) rfl rfl (by kernel_rfl)) 48 (.agg (ints .u8 ot)) (by kernel_rfl) rfl rfl rfl rfl (by kernel_rfl) 25 (.tmp 4) rfl (w.heap.size + 1) (by kernel_rfl) 25 (ints .u8 ot) 16 5 Try.underlying25 ((by rw [ints_size, LO.out]; exact a16_info)) (fun w1 hb => F1.under hb) rfl, ow_val hA (wants_at hA 15 true 46 rfl rfl (by kernel_rfl) rfl rfl (by kernel_rfl)) 49 (.bool true) (by kernel_rfl) rfl rfl rfl rfl (by kernel_rfl) (fun w => by rw [run_eql_row (ot) (ot) rfl (by kernel_rfl) (by kernel_rfl) LO.out LO.out Try.underlying25 Try.underlying5 sz_u8 ag_u8 eg16]; rw [decide_eq_true rfl]), ow_val hA (wants_none rfl) 50 (.bool true) (by kernel_rfl) rfl rfl rfl rfl (by kernel_rfl) (fun w => by kernel_rfl), trivial⟩) ?_
  case hst1 => intro q hq; cases hq
  case hst2 => intro q hq; cases hq
  intro fv w8 hf hD hb8
  simp only [putR, List.foldl_cons, List.foldl_nil, List.map_cons, List.map_nil, Act.put, List.setIfInBounds_toArray, List.set_cons_succ, List.set_cons_zero]
  go_wp2_with fail
  go_ret
  exact ⟨rfl, Q7.trans (hb8.mono Q7.size)⟩
end Go.Proofs.Ytfcinakpdnblfaa.sh
