/-
  General pieces, joined: MJ.
-/
import Derived.Test.YtjkdonjcngmjeaaGreatDoorG38
/-
  PrimsBoxes, walked.
-/
namespace Go.Proofs.YtjkdonjcngmjeaaGreatDoor.sh
open Go Go.RowKit
set_option linter.unusedVariables false
set_option linter.unusedSimpArgs false

theorem openP_bytes (key : List Nat) (n : Nat) (a : List Nat) {b : List Nat} (h : Bytes b) : Bytes (openP key n a b).1 := by
  unfold openP
  split
  · exact fun i x h => by simp at h
  split
  · exact fun i x h => by simp at h
  split
  · exact encL_bytes _ _ _ (h.take _)
  · exact fun i x h => by simp at h

set_option maxRecDepth 100000 in
set_option maxHeartbeats 2000000 in
theorem boxes_big {A B C T : List Nat} {N : Nat} {w : World} (hA : Bytes A) (hB : Bytes B) (hC : Bytes C) (hT : Bytes T) (hN : N < 18446744073709551616) (hr : RootsAt w) (hf : decide (Few A B C T) = false) : Calls Tryz.prog 4 #[.agg #[.string (strOf A), .string (strOf B), .int .u64 (N : Int), .string (strOf C), .string (strOf T)]] w fun e w' => e = .returned (.bool true) ∧ Below w.heap.size w w' := by
  obtain ⟨gx, hgx⟩ : ∃ g, g = w.heap.size := ⟨_, rfl⟩
  obtain ⟨w0, hw0⟩ : ∃ v, v = w.alloc (.cells #[.string (strOf A), .string (strOf B), .int .u64 (N : Int), .string (strOf C), .string (strOf T)] 24) := ⟨_, rfl⟩
  have BX : Kept (Blk w0 gx 24 #[.string (strOf A), .string (strOf B), .int .u64 (N : Int), .string (strOf C), .string (strOf T)]) := ⟨by rw [hw0, hgx]; exact blk_new w _ _⟩
  have Q0 : Kept (Below w.heap.size w w0) := ⟨by rw [hw0]; exact (Below.refl _ _).alloc (Nat.le_refl _) _⟩
  have KX : Kept (∀ w', Below w0.heap.size w0 w' → ∀ (k : Nat) (v : Value), (#[.string (strOf A), .string (strOf B), .int .u64 (N : Int), .string (strOf C), .string (strOf T)] : Array Value)[k]? = some v → w'.cell? ⟨gx, k, none⟩ = some v) := ⟨fun w' hb k v hk => (BX.out.under hb).cell hk⟩
  have IX : Kept ((Tryz.prog.info? 24).map (·.size) = some (#[.string (strOf A), .string (strOf B), .int .u64 (N : Int), .string (strOf C), .string (strOf T)] : Array Value).size) := ⟨by kernel_rfl⟩
  have KR : Kept (RootsAt w0) := ⟨hr.under Q0.out⟩
  have CF : Kept (∀ w, Calls Tryz.prog 10 #[.agg #[.string (strOf A), .string (strOf B), .int .u64 (N : Int), .string (strOf C), .string (strOf T)]] w fun e w' => e = .returned (.bool false) ∧ Below w.heap.size w w') := ⟨fun w => by
    have h9 := few11 (A := A) (B := B) (C := C) (T := T) (N := N) (w := w)
    rw [show decide (Few A B C T) = false from hf] at h9
    exact h9⟩
  have Kw0 : Kept _ := ⟨hw0⟩
  have Kgx : Kept _ := ⟨hgx⟩
  clear hw0 hgx hr hf
  go_enter Tryz.func4, Tryz.ntmps4
  go_wp2_with fail
  rw [← Kw0.out, ← Kgx.out]
  refine (alive11 KR.out).mono ?_
  rintro e w1 ⟨rfl, q1⟩
  have KP1 : Kept _ := ⟨q1⟩
  clear q1
  go_wp2_with fail
  refine RealD.mono ?_
  rintro e w2 ⟨rfl, q2⟩
  have KP2 : Kept _ := ⟨KP1.out.trans (q2.mono KP1.out.size)⟩
  clear q2 KP1
  go_wp2_with (first | ((with_reducible refine wv_rowS (d := 20) ?hd ?hw 24 (.tmp 1) ?ho (gx) ?hx (t' := 24) (#[.string (strOf A), .string (strOf B), .int .u64 (N : Int), .string (strOf C), .string (strOf T)]) _ Tryz.underlying24 ?hs ?hg ?_); (case hd => rfl); (case hw => kernel_rfl); (case ho => rfl); (case hx => kernel_rfl); (case hs => exact IX.out); (case hg => exact (BX.out.under KP2.out)); simp only [Act.put, List.setIfInBounds_toArray, List.set_cons_succ, List.set_cons_zero]))
  refine (CF.out _).mono ?_
  rintro e w3 ⟨rfl, q3⟩
  have KP3 : Kept _ := ⟨KP2.out.trans (q3.mono KP2.out.size)⟩
  clear q3 KP2
  go_wp2_with fail
  go_ret
  exact ⟨rfl, Q0.out.trans (KP3.out.mono Q0.out.size)⟩

set_option maxRecDepth 100000 in
set_option maxHeartbeats 4000000 in
theorem boxes_yes {A B C T : List Nat} {N : Nat} {w : World} (hA : Bytes A) (hB : Bytes B) (hC : Bytes C) (hT : Bytes T) (hN : N < 18446744073709551616) (hr : RootsAt w) (hf : decide (Few A B C T) = true) (h32 : A.length = 32) : Calls Tryz.prog 4 #[.agg #[.string (strOf A), .string (strOf B), .int .u64 (N : Int), .string (strOf C), .string (strOf T)]] w fun e w' => e = .returned (.bool true) ∧ Below w.heap.size w w' := by
  obtain ⟨k, hk⟩ : ∃ k, k = keyZ A := ⟨_, rfl⟩
  have IK : Kept ((Tryz.prog.info? 30).map (·.size) = some (ints .u8 k).size ∧ (ints .u8 k).size = 32) := ⟨by rw [ints_size, hk, keyZ_len]; exact ⟨t32_info, rfl⟩⟩
  have YA : Kept _ := ⟨hA⟩
  have YB : Kept _ := ⟨hB⟩
  have YC : Kept _ := ⟨hC⟩
  have YT : Kept _ := ⟨hT⟩
  have KN : Kept _ := ⟨hN⟩
  have KF : Kept (Few A B C T) := ⟨of_decide_eq_true hf⟩
  have KA : Kept (A.length = 32) := ⟨h32⟩
  have Kk : Kept (k = A) := ⟨by rw [hk, keyZ_key h32]⟩
  have CKy : Kept (∀ w, Calls Tryz.prog 11 #[.string (strOf A)] w fun e w' => e = .returned (.tuple #[.agg (ints .u8 k), .bool true]) ∧ Below w.heap.size w w') := ⟨fun w => by
    have h9 := key11 (w := w) hA
    rw [← hk, decide_eq_true h32] at h9
    exact h9⟩
  obtain ⟨X, hX⟩ : ∃ x, x = sealL A N C T := ⟨_, rfl⟩
  have hs : sealP A N C T = (X, 0) := by rw [hX]; exact sealP_ok _ _ _ _ (by have := KF.out.2.2.1; omega) (by have := KF.out.2.2.2; omega)
  have YX : Kept (Bytes X ∧ X.length ≤ 2000) := ⟨⟨by rw [hX]; exact sealL_bytes _ _ _ hT, by rw [hX, sealL_len]; have := KF.out.2.2.2; omega⟩⟩
  have YL : Kept (∀ l ∈ [X, B, T], Bytes l ∧ l.length ≤ 2000) := ⟨fun l hl => by
    have := KF.out
    simp only [List.mem_cons, List.not_mem_nil, or_false] at hl
    rcases hl with rfl | rfl | rfl
    · exact YX.out
    · exact ⟨hB, by have := this.2.1; omega⟩
    · exact ⟨hT, by have := this.2.2.2; omega⟩⟩
  have CA : Kept (∀ va vb w', BytesV va w' C → BytesV vb w' T → Calls Tryz.prog 16 [.agg (ints .u8 k), .int .u64 (N : Int), va, vb].toArray w' fun e w2 => ∃ v, e = .returned (.tuple #[v, .int .i64 0]) ∧ BytesV v w2 X ∧ Below w'.heap.size w' w2) := ⟨fun va vb w' h1 h2 => by
    have h9 := SealAD A N C T va vb w' h32 hA hN h1 h2 hC hT
    rw [hs] at h9
    rw [Kk.out]
    exact h9⟩
  have CSl : Kept (∀ w, Calls Tryz.prog 171 (.agg #[] :: [.string (strOf A), .int .u64 (N : Int), .string (strOf C), .string (strOf T)]).toArray w fun e w' => e = .returned (.string (strOf X)) ∧ Below w.heap.size w w') := ⟨fun w => by
    have h9 := SealR (w := w) hA h32 hN hC hT
    rw [hs] at h9
    exact h9⟩
  clear hA hB hC hT hN hk hX hs h32
  obtain ⟨gx, hgx⟩ : ∃ g, g = w.heap.size := ⟨_, rfl⟩
  obtain ⟨w0, hw0⟩ : ∃ v, v = w.alloc (.cells #[.string (strOf A), .string (strOf B), .int .u64 (N : Int), .string (strOf C), .string (strOf T)] 24) := ⟨_, rfl⟩
  have BX : Kept (Blk w0 gx 24 #[.string (strOf A), .string (strOf B), .int .u64 (N : Int), .string (strOf C), .string (strOf T)]) := ⟨by rw [hw0, hgx]; exact blk_new w _ _⟩
  have Q0 : Kept (Below w.heap.size w w0) := ⟨by rw [hw0]; exact (Below.refl _ _).alloc (Nat.le_refl _) _⟩
  have KX : Kept (∀ w', Below w0.heap.size w0 w' → ∀ (k : Nat) (v : Value), (#[.string (strOf A), .string (strOf B), .int .u64 (N : Int), .string (strOf C), .string (strOf T)] : Array Value)[k]? = some v → w'.cell? ⟨gx, k, none⟩ = some v) := ⟨fun w' hb k v hk => (BX.out.under hb).cell hk⟩
  have IX : Kept ((Tryz.prog.info? 24).map (·.size) = some (#[.string (strOf A), .string (strOf B), .int .u64 (N : Int), .string (strOf C), .string (strOf T)] : Array Value).size) := ⟨by kernel_rfl⟩
  have KR : Kept (RootsAt w0) := ⟨hr.under Q0.out⟩
  have CF : Kept (∀ w, Calls Tryz.prog 10 #[.agg #[.string (strOf A), .string (strOf B), .int .u64 (N : Int), .string (strOf C), .string (strOf T)]] w fun e w' => e = .returned (.bool true) ∧ Below w.heap.size w w') := ⟨fun w => by
    have h9 := few11 (A := A) (B := B) (C := C) (T := T) (N := N) (w := w)
    rw [show decide (Few A B C T) = true from hf] at h9
    exact h9⟩
  have Kw0 : Kept _ := ⟨hw0⟩
  have Kgx : Kept _ := ⟨hgx⟩
  clear hw0 hgx hr hf
  go_enter Tryz.func4, Tryz.ntmps4
  go_wp2_with fail
  rw [← Kw0.out, ← Kgx.out]
  refine (alive11 KR.out).mono ?_
  rintro e w1 ⟨rfl, q1⟩
  have KP1 : Kept _ := ⟨q1⟩
  clear q1
  go_wp2_with fail
  refine RealD.mono ?_
  rintro e w2 ⟨rfl, q2⟩
  have KP2 : Kept _ := ⟨KP1.out.trans (q2.mono KP1.out.size)⟩
  clear q2 KP1
  go_wp2_with (first | ((with_reducible refine wv_rowS (d := 20) ?hd ?hw 24 (.tmp 1) ?ho (gx) ?hx (t' := 24) (#[.string (strOf A), .string (strOf B), .int .u64 (N : Int), .string (strOf C), .string (strOf T)]) _ Tryz.underlying24 ?hs ?hg ?_); (case hd => rfl); (case hw => kernel_rfl); (case ho => rfl); (case hx => kernel_rfl); (case hs => exact IX.out); (case hg => exact (BX.out.under KP2.out)); simp only [Act.put, List.setIfInBounds_toArray, List.set_cons_succ, List.set_cons_zero]))
  refine (CF.out _).mono ?_
  rintro e w3 ⟨rfl, q3⟩
  have KP3 : Kept _ := ⟨KP2.out.trans (q3.mono KP2.out.size)⟩
  clear q3 KP2
  go_wp2_with (first | ((with_reducible refine wv_elem (d := 28) ?hd ?hw 9 ag_str (.tmp 27) ?ho (⟨gx, 0, none⟩) ?hx (.string (strOf A)) ?hc ?_); (case hd => rfl); (case hw => kernel_rfl); (case ho => rfl); (case hx => kernel_rfl); (case hc => exact KX.out _ (KP3.out) 0 _ rfl); simp only [Act.put, List.setIfInBounds_toArray, List.set_cons_succ, List.set_cons_zero]))
  refine (CKy.out _).mono ?_
  rintro e w4 ⟨rfl, q4⟩
  have KP4 : Kept _ := ⟨KP3.out.trans (q4.mono KP3.out.size)⟩
  clear q4 KP3
  go_wp2_with (first | (refine wl_store rfl 30 (.tmp 4) (.tmp 30) rfl w4.heap.size (ints .u8 k) rfl rfl _ (blk_new _ _ _) IK.out.1 (by rw [IK.out.2]; rfl) (ints_one _ _) ?_; intro w5 hB5 hp5; simp only [Act.put, List.setIfInBounds_toArray, List.set_cons_succ, List.set_cons_zero]) | ((with_reducible refine wv_row (d := 33) ?hd ?hw 30 (.tmp 4) ?ho (w4.heap.size) ?hx (t' := 30) (ints .u8 k) _ _ Tryz.underlying30 ?hs ?hg ?_); (case hd => rfl); (case hw => kernel_rfl); (case ho => rfl); (case hx => kernel_rfl); (case hs => exact IK.out.1); (case hg => exact hB5); simp only [Act.put, List.setIfInBounds_toArray, List.set_cons_succ, List.set_cons_zero]) | ((with_reducible refine wv_elem (d := 35) ?hd ?hw 22 Tryz.isAgg22 (.tmp 34) ?ho (⟨gx, 2, none⟩) ?hx (.int .u64 (N : Int)) ?hc ?_); (case hd => rfl); (case hw => kernel_rfl); (case ho => rfl); (case hx => kernel_rfl); (case hc => exact KX.out _ ((KP4.out.alloc KP4.out.size _).trans (hp5.below KP4.out.size)) 2 _ rfl); simp only [Act.put, List.setIfInBounds_toArray, List.set_cons_succ, List.set_cons_zero]) | ((with_reducible refine wv_elem (d := 37) ?hd ?hw 9 ag_str (.tmp 36) ?ho (⟨gx, 3, none⟩) ?hx (.string (strOf C)) ?hc ?_); (case hd => rfl); (case hw => kernel_rfl); (case ho => rfl); (case hx => kernel_rfl); (case hc => exact KX.out _ ((KP4.out.alloc KP4.out.size _).trans (hp5.below KP4.out.size)) 3 _ rfl); simp only [Act.put, List.setIfInBounds_toArray, List.set_cons_succ, List.set_cons_zero]) | (refine wl_csb rfl (.tmp 37) rfl C (by kernel_rfl) YC.out ?_; intro g1 c1 v1 hg hr1 hc1 hb1; clear hg; simp only [Act.put, List.setIfInBounds_toArray, List.set_cons_succ, List.set_cons_zero]) | ((with_reducible refine wv_elem (d := 40) ?hd ?hw 9 ag_str (.tmp 39) ?ho (⟨gx, 4, none⟩) ?hx (.string (strOf T)) ?hc ?_); (case hd => rfl); (case hw => kernel_rfl); (case ho => rfl); (case hx => kernel_rfl); (case hc => exact KX.out _ (((KP4.out.alloc KP4.out.size _).trans (hp5.below KP4.out.size)).trans (hb1.mono ((KP4.out.alloc KP4.out.size _).trans (hp5.below KP4.out.size)).size)) 4 _ rfl); simp only [Act.put, List.setIfInBounds_toArray, List.set_cons_succ, List.set_cons_zero]) | (refine wl_csb rfl (.tmp 40) rfl T (by kernel_rfl) YT.out ?_; intro g2 c2 v2 hg hr2 hc2 hb2; clear hg; simp only [Act.put, List.setIfInBounds_toArray, List.set_cons_succ, List.set_cons_zero]))
  refine (CA.out _ _ _ ((hr1.under hb2).bytes hc1) (hr2.bytes hc2)).mono ?_
  rintro e w7 ⟨v0, rfl, hv0, q7⟩
  have p2 := (((KP4.out.alloc KP4.out.size _).trans (hp5.below KP4.out.size)).trans (hb1.mono ((KP4.out.alloc KP4.out.size _).trans (hp5.below KP4.out.size)).size)).trans (hb2.mono (((KP4.out.alloc KP4.out.size _).trans (hp5.below KP4.out.size)).trans (hb1.mono ((KP4.out.alloc KP4.out.size _).trans (hp5.below KP4.out.size)).size)).size)
  have KP7 : Kept _ := ⟨p2.trans (q7.mono p2.size)⟩
  have BK : Kept (Blk w7 w4.heap.size 30 (ints .u8 k)) := ⟨((hB5.under hb1).under hb2).under q7⟩
  have KV0 : Kept _ := ⟨hv0⟩
  clear p2 q7 hb1 hb2 hr1 hr2 hc1 hc2 hB5 hp5 hv0 KP4
  generalize v0 = v at *
  have KV : Kept _ := ⟨KV0.out⟩
  clear KV0
  go_wp2_with fail
  refine region_ownL w7 13 [(51, .iface 64 (.agg #[])), (52, .pointer (some ⟨gx, 0, none⟩)), (53, .string (strOf A)), (54, .pointer (some ⟨gx, 2, none⟩)), (55, .int .u64 (N : Int)), (56, .pointer (some ⟨gx, 3, none⟩)), (57, .string (strOf C)), (58, .pointer (some ⟨gx, 4, none⟩)), (59, .string (strOf T)), (60, .string (strOf X)), (61, v), (62, .string (strOf X)), (63, .bool false)] [] [] [] rfl (by kernel_rfl) (by kernel_rfl) (by kernel_rfl) (by kernel_rfl) (by kernel_rfl) (by kernel_rfl) (by kernel_rfl) (by kernel_rfl) (by kernel_rfl) (by kernel_rfl) (by kernel_rfl) ?hst1 ?hst2 (Below.refl _ _) (fun hA => ⟨ow_val hA (wants_none rfl) 51 (.iface 64 (.agg #[])) (by kernel_rfl) rfl rfl rfl rfl (by kernel_rfl) (fun w => by kernel_rfl), ow_val hA (wants_none rfl) 52 (.pointer (some ⟨gx, 0, none⟩)) (by kernel_rfl) rfl rfl rfl rfl (by kernel_rfl) (fun w => by kernel_rfl), ow_elem hA (wants_none rfl) 53 (.string (strOf A)) (by kernel_rfl) rfl rfl rfl rfl (by kernel_rfl) 9 ag_str (.tmp 52) rfl (⟨gx, 0, none⟩) (by kernel_rfl) (fun w1 hb => KX.out _ (KP7.out.trans (hb.mono KP7.out.size)) 0 _ rfl), ow_val hA (wants_none rfl) 54 (.pointer (some ⟨gx, 2, none⟩)) (by kernel_rfl) rfl rfl rfl rfl (by kernel_rfl) (fun w => by kernel_rfl), ow_elem hA (wants_none rfl) 55 (.int .u64 (N : Int)) (by kernel_rfl) rfl rfl rfl rfl (by kernel_rfl) 22 Tryz.isAgg22 (.tmp 54) rfl (⟨gx, 2, none⟩) (by kernel_rfl) (fun w1 hb => KX.out _ (KP7.out.trans (hb.mono KP7.out.size)) 2 _ rfl), ow_val hA (wants_none rfl) 56 (.pointer (some ⟨gx, 3, none⟩)) (by kernel_rfl) rfl rfl rfl rfl (by kernel_rfl) (fun w => by kernel_rfl), ow_elem hA (wants_none rfl) 57 (.string (strOf C)) (by kernel_rfl) rfl rfl rfl rfl (by kernel_rfl) 9 ag_str (.tmp 56) rfl (⟨gx, 3, none⟩) (by kernel_rfl) (fun w1 hb => KX.out _ (KP7.out.trans (hb.mono KP7.out.size)) 3 _ rfl), ow_val hA (wants_none rfl) 58 (.pointer (some ⟨gx, 4, none⟩)) (by kernel_rfl) rfl rfl rfl rfl (by kernel_rfl) (fun w => by kernel_rfl), ow_elem hA (wants_none rfl) 59 (.string (strOf T)) (by kernel_rfl) rfl rfl rfl rfl (by kernel_rfl) 9 ag_str (.tmp 58) rfl (⟨gx, 4, none⟩) (by kernel_rfl) (fun w1 hb => KX.out _ (KP7.out.trans (hb.mono KP7.out.size)) 4 _ rfl), ow_invoke hA (wants_none rfl) 60 (.string (strOf X)) (by kernel_rfl) rfl rfl rfl rfl (by kernel_rfl) (.tmp 51) "Seal" [.tmp 53, .tmp 55, .tmp 57, .tmp 59] _ 64 (.agg #[]) 171 (.agg #[]) Tryz.f171 _ [.string (strOf A), .int .u64 (N : Int), .string (strOf C), .string (strOf T)] rfl (by kernel_rfl) (by kernel_rfl) (fun w => by kernel_rfl) Tryz.func171 (by kernel_rfl) rfl (fun w2 hb => CSl.out w2), ow_val hA (wants_none rfl) 61 (v) (by kernel_rfl) rfl rfl rfl rfl (by kernel_rfl) (fun w => by kernel_rfl), ow_str hA (wants_none rfl) 62 (.string (strOf X)) (by kernel_rfl) rfl rfl rfl rfl (by kernel_rfl) (.tmp 61) rfl (v) (by kernel_rfl) X (fun w1 hb => KV.out.under hb) rfl, ow_val hA (wants_none rfl) 63 (.bool false) (by kernel_rfl) rfl rfl rfl rfl (by kernel_rfl) (fun w => run_sneq rfl (by kernel_rfl) (by kernel_rfl) YX.out.1 YX.out.1 (by simp) w), trivial⟩) ?_
  case hst1 => intro q hq; cases hq
  case hst2 => intro q hq; cases hq
  intro fv w8 hf hD hb8
  simp only [putR, List.foldl_cons, List.foldl_nil, List.map_cons, List.map_nil, Act.put, List.setIfInBounds_toArray, List.set_cons_succ, List.set_cons_zero]
  refine wpList_nil ?_
  have KP8 : Kept _ := ⟨KP7.out.trans (hb8.mono KP7.out.size)⟩
  have BK8 : Kept _ := ⟨BK.out.under hb8⟩
  have KV8 : Kept _ := ⟨KV.out.under hb8⟩
  clear hf hD hb8 KP7 BK KV
  obtain ⟨w9, hw9⟩ : ∃ z, z = w8.alloc (.cells #[.string (strOf X), .string (strOf B), .string (strOf T)] 9) := ⟨_, rfl⟩
  obtain ⟨gs, hgs⟩ : ∃ z, z = w8.heap.size := ⟨_, rfl⟩
  have q9 : Below w8.heap.size w8 w9 := by rw [hw9]; exact (Below.refl _ _).alloc (Nat.le_refl _) _
  have hBs : Blk w9 gs 9 (strs [X, B, T]).toArray := by rw [hw9, hgs]; exact blk_new w8 _ _
  have KS : Kept (∀ w', Below w9.heap.size w9 w' → ∀ (i : Nat) (t : List Nat), [X, B, T][i]? = some t → w'.cell? ⟨gs, i, none⟩ = some (.string (strOf t))) := ⟨fun w' hb i t ht => (hBs.under hb).cell (by have := strs_get ht; simpa using this)⟩
  have KP9 : Kept _ := ⟨KP8.out.trans (q9.mono KP8.out.size)⟩
  have BK9 : Kept _ := ⟨BK8.out.under q9⟩
  have Kw9 : Kept _ := ⟨hw9⟩
  have Kgs : Kept _ := ⟨hgs⟩
  clear q9 hBs hw9 hgs BK8
  go_wp2_with (first | ((with_reducible refine wv_str (d := 65) ?hd ?hw (.tmp 64) ?ho (v) ?hx (X) ?hl ?_); (case hd => rfl); (case hw => kernel_rfl); (case ho => rfl); (case hx => kernel_rfl); (case hl => exact KV8.out); simp only [Act.put, List.setIfInBounds_toArray, List.set_cons_succ, List.set_cons_zero]) | ((with_reducible refine wv_elem (d := 67) ?hd ?hw 9 ag_str (.tmp 66) ?ho (⟨gx, 1, none⟩) ?hx (.string (strOf B)) ?hc ?_); (case hd => rfl); (case hw => kernel_rfl); (case ho => rfl); (case hx => kernel_rfl); (case hc => exact KX.out _ (KP8.out) 1 _ rfl); simp only [Act.put, List.setIfInBounds_toArray, List.set_cons_succ, List.set_cons_zero]) | ((with_reducible refine wv_elem (d := 69) ?hd ?hw 9 ag_str (.tmp 68) ?ho (⟨gx, 4, none⟩) ?hx (.string (strOf T)) ?hc ?_); (case hd => rfl); (case hw => kernel_rfl); (case ho => rfl); (case hx => kernel_rfl); (case hc => exact KX.out _ (KP8.out) 4 _ rfl); simp only [Act.put, List.setIfInBounds_toArray, List.set_cons_succ, List.set_cons_zero]) | (refine wl_bs3 (by kernel_rfl) (.tmp 65) (.tmp 67) (.tmp 69) rfl (X) (B) (T) (by kernel_rfl) (by kernel_rfl) (by kernel_rfl) ?_; simp only [Act.put, List.setIfInBounds_toArray, List.set_cons_succ, List.set_cons_zero]))
  rw [← Kw9.out, ← Kgs.out]
  go_loopg [72] 3 (fun g s72 wr => ∃ i : Nat, i + g = 3 ∧ s72 = .int .i64 (i : Int) ∧ Below w9.heap.size w9 wr)
  case atStart => exact ⟨0, by omega, rfl, Below.refl _ _⟩
  case round =>
    rename World => wz
    obtain ⟨i, hik, rfl, hbz⟩ := hrel
    by_cases hk0 : gk = 0
    case neg =>
      have hin : i < 3 := by omega
      have hin' : (i : Int) < 3 := by omega
      have hi1 : (i : Int) + 1 ≤ 9223372036854775807 := by omega
      obtain ⟨t, ht⟩ : ∃ t, [X, B, T][i]? = some t := ⟨_, List.getElem?_eq_getElem (by simpa using hin)⟩
      have Yt : Kept (Bytes t ∧ t.length ≤ 2000) := ⟨YL.out t (List.mem_of_getElem? ht)⟩
      have Kt : Kept (wz.cell? ⟨gs, i, none⟩ = some (.string (strOf t))) := ⟨KS.out wz hbz i t ht⟩
      have KPz : Kept _ := ⟨KP9.out.trans (hbz.mono KP9.out.size)⟩
      have Kbz : Kept _ := ⟨hbz⟩
      have BKz : Kept _ := ⟨BK9.out.under hbz⟩
      clear ht hbz
      go_wp2_with (first | ((with_reducible refine wv_val (d := 74) ?hd ?hw (.pointer (some ⟨gs, i, none⟩)) ?hr ?_); (case hd => rfl); (case hw => kernel_rfl); (case hr => intro w; exact run_idxG0 (i := i) (l := 3) (c := 3) (g := gs) rfl (by kernel_rfl) (by kernel_rfl) Tryz.underlying43 hin Tryz.sizeOf9 w); simp only [Act.put, List.setIfInBounds_toArray, List.set_cons_succ, List.set_cons_zero]) | ((with_reducible refine wv_elem (d := 75) ?hd ?hw 9 ag_str (.tmp 74) ?ho (⟨gs, i, none⟩) ?hx (.string (strOf t)) ?hc ?_); (case hd => rfl); (case hw => kernel_rfl); (case ho => rfl); (case hx => kernel_rfl); (case hc => exact Kt.out); simp only [Act.put, List.setIfInBounds_toArray, List.set_cons_succ, List.set_cons_zero]) | ((with_reducible refine wv_elem (d := 79) ?hd ?hw 9 ag_str (.tmp 78) ?ho (⟨gx, 0, none⟩) ?hx (.string (strOf A)) ?hc ?_); (case hd => rfl); (case hw => kernel_rfl); (case ho => rfl); (case hx => kernel_rfl); (case hc => exact KX.out _ (KPz.out) 0 _ rfl); simp only [Act.put, List.setIfInBounds_toArray, List.set_cons_succ, List.set_cons_zero]) | ((with_reducible refine wv_elem (d := 81) ?hd ?hw 22 Tryz.isAgg22 (.tmp 80) ?ho (⟨gx, 2, none⟩) ?hx (.int .u64 (N : Int)) ?hc ?_); (case hd => rfl); (case hw => kernel_rfl); (case ho => rfl); (case hx => kernel_rfl); (case hc => exact KX.out _ (KPz.out) 2 _ rfl); simp only [Act.put, List.setIfInBounds_toArray, List.set_cons_succ, List.set_cons_zero]) | ((with_reducible refine wv_elem (d := 83) ?hd ?hw 9 ag_str (.tmp 82) ?ho (⟨gx, 3, none⟩) ?hx (.string (strOf C)) ?hc ?_); (case hd => rfl); (case hw => kernel_rfl); (case ho => rfl); (case hx => kernel_rfl); (case hc => exact KX.out _ (KPz.out) 3 _ rfl); simp only [Act.put, List.setIfInBounds_toArray, List.set_cons_succ, List.set_cons_zero]))
      obtain ⟨Y, hY⟩ : ∃ y, y = (openP A N C t).1 := ⟨_, rfl⟩
      obtain ⟨er, her⟩ : ∃ y, y = (openP A N C t).2 := ⟨_, rfl⟩
      have COp : Kept (∀ w, Calls Tryz.prog 169 #[.agg #[], .string (strOf A), .int .u64 (N : Int), .string (strOf C), .string (strOf t)] w fun e w' => e = .returned (.tuple #[.string (strOf Y), .int .i64 (er : Int)]) ∧ Below w.heap.size w w') := ⟨fun w => by rw [hY, her]; exact OpenR YA.out KA.out KN.out YC.out Yt.out.1⟩
      have CAo : Kept (∀ va vb w', BytesV va w' C → BytesV vb w' t → Calls Tryz.prog 17 [.agg (ints .u8 k), .int .u64 (N : Int), va, vb].toArray w' fun e w2 => ∃ v, e = .returned (.tuple #[v, .int .i64 (er : Int)]) ∧ BytesV v w2 Y ∧ Below w'.heap.size w' w2) := ⟨fun va vb w' h1 h2 => by rw [hY, her, Kk.out]; exact OpenD A N C t va vb w' KA.out YA.out KN.out h1 h2 YC.out Yt.out.1⟩
      have YY : Kept (Bytes Y) := ⟨by rw [hY]; exact openP_bytes _ _ _ Yt.out.1⟩
      clear hY her
      refine (COp.out _).mono ?_
      rintro e wa ⟨rfl, qa⟩
      have KPa : Kept _ := ⟨KPz.out.trans (qa.mono KPz.out.size)⟩
      have Kba : Kept _ := ⟨Kbz.out.trans (qa.mono Kbz.out.size)⟩
      have BKa : Kept _ := ⟨BKz.out.under qa⟩
      clear qa KPz Kbz BKz
      go_wp2_with (first | ((with_reducible refine wv_row (d := 97) ?hd ?hw 30 (.tmp 4) ?ho (w4.heap.size) ?hx (t' := 30) (ints .u8 k) _ _ Tryz.underlying30 ?hs ?hg ?_); (case hd => rfl); (case hw => kernel_rfl); (case ho => rfl); (case hx => kernel_rfl); (case hs => exact IK.out.1); (case hg => exact BKa.out); simp only [Act.put, List.setIfInBounds_toArray, List.set_cons_succ, List.set_cons_zero]) | ((with_reducible refine wv_elem (d := 99) ?hd ?hw 22 Tryz.isAgg22 (.tmp 98) ?ho (⟨gx, 2, none⟩) ?hx (.int .u64 (N : Int)) ?hc ?_); (case hd => rfl); (case hw => kernel_rfl); (case ho => rfl); (case hx => kernel_rfl); (case hc => exact KX.out _ (KPa.out) 2 _ rfl); simp only [Act.put, List.setIfInBounds_toArray, List.set_cons_succ, List.set_cons_zero]) | ((with_reducible refine wv_elem (d := 101) ?hd ?hw 9 ag_str (.tmp 100) ?ho (⟨gx, 3, none⟩) ?hx (.string (strOf C)) ?hc ?_); (case hd => rfl); (case hw => kernel_rfl); (case ho => rfl); (case hx => kernel_rfl); (case hc => exact KX.out _ (KPa.out) 3 _ rfl); simp only [Act.put, List.setIfInBounds_toArray, List.set_cons_succ, List.set_cons_zero]) | (refine wl_csb rfl (.tmp 101) rfl C (by kernel_rfl) YC.out ?_; intro g1 c1 v1 hg hr1 hc1 hb1; clear hg; simp only [Act.put, List.setIfInBounds_toArray, List.set_cons_succ, List.set_cons_zero]) | (refine wl_csb rfl (.tmp 103) rfl t (by kernel_rfl) Yt.out.1 ?_; intro g2 c2 v2 hg hr2 hc2 hb2; clear hg; simp only [Act.put, List.setIfInBounds_toArray, List.set_cons_succ, List.set_cons_zero]))
      refine (CAo.out _ _ _ ((hr1.under hb2).bytes hc1) (hr2.bytes hc2)).mono ?_
      rintro e wb ⟨v2, rfl, hv2, qb⟩
      have p1 := Kba.out.trans (hb1.mono Kba.out.size)
      have p2 := p1.trans (hb2.mono p1.size)
      have Kbb : Kept _ := ⟨p2.trans (qb.mono p2.size)⟩
      have KV2 : Kept _ := ⟨hv2⟩
      clear p1 p2 qb hb1 hb2 hr1 hr2 hc1 hc2 hv2 KPa Kba BKa
      go_wp2_with (first | ((with_reducible refine wv_str (d := 110) ?hd ?hw (.tmp 109) ?ho (v2) ?hx (Y) ?hl ?_); (case hd => rfl); (case hw => kernel_rfl); (case ho => rfl); (case hx => kernel_rfl); (case hl => exact KV2.out); simp only [Act.put, List.setIfInBounds_toArray, List.set_cons_succ, List.set_cons_zero]) | ((with_reducible refine wv_val (d := 111) ?hd ?hw (.bool false) ?hr ?_); (case hd => rfl); (case hw => kernel_rfl); (case hr => intro w; exact run_sneq rfl (by kernel_rfl) (by kernel_rfl) YY.out YY.out (by simp) w); simp only [Act.put, List.setIfInBounds_toArray, List.set_cons_succ, List.set_cons_zero]))
      go_roundg (gk - 1)
      case measure => omega
      case rel => exact ⟨i + 1, by omega, by simp, Kbb.out⟩
    case pos =>
      obtain rfl : 3 = i := by omega
      have Kbz : Kept _ := ⟨KP9.out.trans (hbz.mono KP9.out.size)⟩
      clear hbz
      go_wp2_with fail
      go_ret
      exact ⟨rfl, Q0.out.trans (Kbz.out.mono Q0.out.size)⟩

set_option maxRecDepth 100000 in
set_option maxHeartbeats 4000000 in
theorem boxes_no {A B C T : List Nat} {N : Nat} {w : World} (hA : Bytes A) (hB : Bytes B) (hC : Bytes C) (hT : Bytes T) (hN : N < 18446744073709551616) (hr : RootsAt w) (hf : decide (Few A B C T) = true) (hne : A.length ≠ 32) : Calls Tryz.prog 4 #[.agg #[.string (strOf A), .string (strOf B), .int .u64 (N : Int), .string (strOf C), .string (strOf T)]] w fun e w' => e = .returned (.bool true) ∧ Below w.heap.size w w' := by
  obtain ⟨k, hk⟩ : ∃ k, k = keyZ A := ⟨_, rfl⟩
  have IK : Kept ((Tryz.prog.info? 30).map (·.size) = some (ints .u8 k).size ∧ (ints .u8 k).size = 32) := ⟨by rw [ints_size, hk, keyZ_len]; exact ⟨t32_info, rfl⟩⟩
  have YA : Kept _ := ⟨hA⟩
  have YB : Kept _ := ⟨hB⟩
  have YC : Kept _ := ⟨hC⟩
  have YT : Kept _ := ⟨hT⟩
  have KN : Kept _ := ⟨hN⟩
  have KF : Kept (Few A B C T) := ⟨of_decide_eq_true hf⟩
  have CKy : Kept (∀ w, Calls Tryz.prog 11 #[.string (strOf A)] w fun e w' => e = .returned (.tuple #[.agg (ints .u8 k), .bool false]) ∧ Below w.heap.size w w') := ⟨fun w => by
    have h9 := key11 (w := w) hA
    rw [← hk, decide_eq_false hne] at h9
    exact h9⟩
  obtain ⟨X, hX⟩ : ∃ x : List Nat, x = [] := ⟨_, rfl⟩
  obtain ⟨v, hv⟩ : ∃ v : Value, v = .slice none 0 0 := ⟨_, rfl⟩
  have YX : Kept (Bytes X ∧ X.length ≤ 2000) := ⟨by rw [hX]; exact ⟨fun i x h => by simp at h, by simp⟩⟩
  have YL : Kept (∀ l ∈ [X, B, T], Bytes l ∧ l.length ≤ 2000) := ⟨fun l hl => by
    have := KF.out
    simp only [List.mem_cons, List.not_mem_nil, or_false] at hl
    rcases hl with rfl | rfl | rfl
    · exact YX.out
    · exact ⟨hB, by have := this.2.1; omega⟩
    · exact ⟨hT, by have := this.2.2.2; omega⟩⟩
  obtain ⟨X1, hX1⟩ : ∃ x, x = sealL k N C T := ⟨_, rfl⟩
  have CA : Kept (∀ va vb w', BytesV va w' C → BytesV vb w' T → Calls Tryz.prog 16 [.agg (ints .u8 k), .int .u64 (N : Int), va, vb].toArray w' fun e w2 => ∃ v, e = .returned (.tuple #[v, .int .i64 0]) ∧ BytesV v w2 X1 ∧ Below w'.heap.size w' w2) := ⟨fun va vb w' h1 h2 => by
    have h9 := SealAD k N C T va vb w' (by rw [hk]; exact keyZ_len _) (by rw [hk]; exact keyZ_bytes hA) hN h1 h2 hC hT
    rw [sealP_ok _ _ _ _ (by have := KF.out.2.2.1; omega) (by have := KF.out.2.2.2; omega), ← hX1] at h9
    exact h9⟩
  have CSl : Kept (∀ w, Calls Tryz.prog 171 (.agg #[] :: [.string (strOf A), .int .u64 (N : Int), .string (strOf C), .string (strOf T)]).toArray w fun e w' => e = .returned (.string (strOf X)) ∧ Below w.heap.size w w') := ⟨fun w => by
    rw [hX]
    exact Seal_no hA hne⟩
  have COp : Kept (∀ (t : ByteArray) w, Calls Tryz.prog 169 #[.agg #[], .string (strOf A), .int .u64 (N : Int), .string (strOf C), .string t] w fun e w' => e = .returned (.tuple #[.string ⟨#[]⟩, .int .i64 6]) ∧ Below w.heap.size w w') := ⟨fun t w => Open_no hA hne⟩
  have KVn : Kept (∀ w, BytesV v w X) := ⟨fun w => by rw [hv, hX]; exact nil_bytesV w⟩
  have Kv : Kept (v = .slice none 0 0) := ⟨hv⟩
  clear hA hB hC hT hN hk hX hX1 hne hv
  obtain ⟨gx, hgx⟩ : ∃ g, g = w.heap.size := ⟨_, rfl⟩
  obtain ⟨w0, hw0⟩ : ∃ v, v = w.alloc (.cells #[.string (strOf A), .string (strOf B), .int .u64 (N : Int), .string (strOf C), .string (strOf T)] 24) := ⟨_, rfl⟩
  have BX : Kept (Blk w0 gx 24 #[.string (strOf A), .string (strOf B), .int .u64 (N : Int), .string (strOf C), .string (strOf T)]) := ⟨by rw [hw0, hgx]; exact blk_new w _ _⟩
  have Q0 : Kept (Below w.heap.size w w0) := ⟨by rw [hw0]; exact (Below.refl _ _).alloc (Nat.le_refl _) _⟩
  have KX : Kept (∀ w', Below w0.heap.size w0 w' → ∀ (k : Nat) (v : Value), (#[.string (strOf A), .string (strOf B), .int .u64 (N : Int), .string (strOf C), .string (strOf T)] : Array Value)[k]? = some v → w'.cell? ⟨gx, k, none⟩ = some v) := ⟨fun w' hb k v hk => (BX.out.under hb).cell hk⟩
  have IX : Kept ((Tryz.prog.info? 24).map (·.size) = some (#[.string (strOf A), .string (strOf B), .int .u64 (N : Int), .string (strOf C), .string (strOf T)] : Array Value).size) := ⟨by kernel_rfl⟩
  have KR : Kept (RootsAt w0) := ⟨hr.under Q0.out⟩
  have CF : Kept (∀ w, Calls Tryz.prog 10 #[.agg #[.string (strOf A), .string (strOf B), .int .u64 (N : Int), .string (strOf C), .string (strOf T)]] w fun e w' => e = .returned (.bool true) ∧ Below w.heap.size w w') := ⟨fun w => by
    have h9 := few11 (A := A) (B := B) (C := C) (T := T) (N := N) (w := w)
    rw [show decide (Few A B C T) = true from hf] at h9
    exact h9⟩
  have Kw0 : Kept _ := ⟨hw0⟩
  have Kgx : Kept _ := ⟨hgx⟩
  clear hw0 hgx hr hf
  go_enter Tryz.func4, Tryz.ntmps4
  go_wp2_with fail
  rw [← Kw0.out, ← Kgx.out]
  refine (alive11 KR.out).mono ?_
  rintro e w1 ⟨rfl, q1⟩
  have KP1 : Kept _ := ⟨q1⟩
  clear q1
  go_wp2_with fail
  refine RealD.mono ?_
  rintro e w2 ⟨rfl, q2⟩
  have KP2 : Kept _ := ⟨KP1.out.trans (q2.mono KP1.out.size)⟩
  clear q2 KP1
  go_wp2_with (first | ((with_reducible refine wv_rowS (d := 20) ?hd ?hw 24 (.tmp 1) ?ho (gx) ?hx (t' := 24) (#[.string (strOf A), .string (strOf B), .int .u64 (N : Int), .string (strOf C), .string (strOf T)]) _ Tryz.underlying24 ?hs ?hg ?_); (case hd => rfl); (case hw => kernel_rfl); (case ho => rfl); (case hx => kernel_rfl); (case hs => exact IX.out); (case hg => exact (BX.out.under KP2.out)); simp only [Act.put, List.setIfInBounds_toArray, List.set_cons_succ, List.set_cons_zero]))
  refine (CF.out _).mono ?_
  rintro e w3 ⟨rfl, q3⟩
  have KP3 : Kept _ := ⟨KP2.out.trans (q3.mono KP2.out.size)⟩
  clear q3 KP2
  go_wp2_with (first | ((with_reducible refine wv_elem (d := 28) ?hd ?hw 9 ag_str (.tmp 27) ?ho (⟨gx, 0, none⟩) ?hx (.string (strOf A)) ?hc ?_); (case hd => rfl); (case hw => kernel_rfl); (case ho => rfl); (case hx => kernel_rfl); (case hc => exact KX.out _ (KP3.out) 0 _ rfl); simp only [Act.put, List.setIfInBounds_toArray, List.set_cons_succ, List.set_cons_zero]))
  refine (CKy.out _).mono ?_
  rintro e w4 ⟨rfl, q4⟩
  have KP4 : Kept _ := ⟨KP3.out.trans (q4.mono KP3.out.size)⟩
  clear q4 KP3
  go_wp2_with (first | (refine wl_store rfl 30 (.tmp 4) (.tmp 30) rfl w4.heap.size (ints .u8 k) rfl rfl _ (blk_new _ _ _) IK.out.1 (by rw [IK.out.2]; rfl) (ints_one _ _) ?_; intro w5 hB5 hp5; simp only [Act.put, List.setIfInBounds_toArray, List.set_cons_succ, List.set_cons_zero]) | ((with_reducible refine wv_row (d := 33) ?hd ?hw 30 (.tmp 4) ?ho (w4.heap.size) ?hx (t' := 30) (ints .u8 k) _ _ Tryz.underlying30 ?hs ?hg ?_); (case hd => rfl); (case hw => kernel_rfl); (case ho => rfl); (case hx => kernel_rfl); (case hs => exact IK.out.1); (case hg => exact hB5); simp only [Act.put, List.setIfInBounds_toArray, List.set_cons_succ, List.set_cons_zero]) | ((with_reducible refine wv_elem (d := 35) ?hd ?hw 22 Tryz.isAgg22 (.tmp 34) ?ho (⟨gx, 2, none⟩) ?hx (.int .u64 (N : Int)) ?hc ?_); (case hd => rfl); (case hw => kernel_rfl); (case ho => rfl); (case hx => kernel_rfl); (case hc => exact KX.out _ ((KP4.out.alloc KP4.out.size _).trans (hp5.below KP4.out.size)) 2 _ rfl); simp only [Act.put, List.setIfInBounds_toArray, List.set_cons_succ, List.set_cons_zero]) | ((with_reducible refine wv_elem (d := 37) ?hd ?hw 9 ag_str (.tmp 36) ?ho (⟨gx, 3, none⟩) ?hx (.string (strOf C)) ?hc ?_); (case hd => rfl); (case hw => kernel_rfl); (case ho => rfl); (case hx => kernel_rfl); (case hc => exact KX.out _ ((KP4.out.alloc KP4.out.size _).trans (hp5.below KP4.out.size)) 3 _ rfl); simp only [Act.put, List.setIfInBounds_toArray, List.set_cons_succ, List.set_cons_zero]) | (refine wl_csb rfl (.tmp 37) rfl C (by kernel_rfl) YC.out ?_; intro g1 c1 v1 hg hr1 hc1 hb1; clear hg; simp only [Act.put, List.setIfInBounds_toArray, List.set_cons_succ, List.set_cons_zero]) | ((with_reducible refine wv_elem (d := 40) ?hd ?hw 9 ag_str (.tmp 39) ?ho (⟨gx, 4, none⟩) ?hx (.string (strOf T)) ?hc ?_); (case hd => rfl); (case hw => kernel_rfl); (case ho => rfl); (case hx => kernel_rfl); (case hc => exact KX.out _ (((KP4.out.alloc KP4.out.size _).trans (hp5.below KP4.out.size)).trans (hb1.mono ((KP4.out.alloc KP4.out.size _).trans (hp5.below KP4.out.size)).size)) 4 _ rfl); simp only [Act.put, List.setIfInBounds_toArray, List.set_cons_succ, List.set_cons_zero]) | (refine wl_csb rfl (.tmp 40) rfl T (by kernel_rfl) YT.out ?_; intro g2 c2 v2 hg hr2 hc2 hb2; clear hg; simp only [Act.put, List.setIfInBounds_toArray, List.set_cons_succ, List.set_cons_zero]))
  refine (CA.out _ _ _ ((hr1.under hb2).bytes hc1) (hr2.bytes hc2)).mono ?_
  rintro e w7 ⟨v0, rfl, hv0, q7⟩
  have p2 := (((KP4.out.alloc KP4.out.size _).trans (hp5.below KP4.out.size)).trans (hb1.mono ((KP4.out.alloc KP4.out.size _).trans (hp5.below KP4.out.size)).size)).trans (hb2.mono (((KP4.out.alloc KP4.out.size _).trans (hp5.below KP4.out.size)).trans (hb1.mono ((KP4.out.alloc KP4.out.size _).trans (hp5.below KP4.out.size)).size)).size)
  have KP7 : Kept _ := ⟨p2.trans (q7.mono p2.size)⟩
  have BK : Kept (Blk w7 w4.heap.size 30 (ints .u8 k)) := ⟨((hB5.under hb1).under hb2).under q7⟩
  have KV0 : Kept _ := ⟨hv0⟩
  clear p2 q7 hb1 hb2 hr1 hr2 hc1 hc2 hB5 hp5 hv0 KP4
  go_wp2_with fail
  rw [← Kv.out]
  have KV : Kept (BytesV v w7 X) := ⟨KVn.out w7⟩
  go_wp2_with fail
  refine region_ownL w7 13 [(51, .iface 64 (.agg #[])), (52, .pointer (some ⟨gx, 0, none⟩)), (53, .string (strOf A)), (54, .pointer (some ⟨gx, 2, none⟩)), (55, .int .u64 (N : Int)), (56, .pointer (some ⟨gx, 3, none⟩)), (57, .string (strOf C)), (58, .pointer (some ⟨gx, 4, none⟩)), (59, .string (strOf T)), (60, .string (strOf X)), (61, v), (62, .string (strOf X)), (63, .bool false)] [] [] [] rfl (by kernel_rfl) (by kernel_rfl) (by kernel_rfl) (by kernel_rfl) (by kernel_rfl) (by kernel_rfl) (by kernel_rfl) (by kernel_rfl) (by kernel_rfl) (by kernel_rfl) (by kernel_rfl) ?hst1 ?hst2 (Below.refl _ _) (fun hA => ⟨ow_val hA (wants_none rfl) 51 (.iface 64 (.agg #[])) (by kernel_rfl) rfl rfl rfl rfl (by kernel_rfl) (fun w => by kernel_rfl), ow_val hA (wants_none rfl) 52 (.pointer (some ⟨gx, 0, none⟩)) (by kernel_rfl) rfl rfl rfl rfl (by kernel_rfl) (fun w => by kernel_rfl), ow_elem hA (wants_none rfl) 53 (.string (strOf A)) (by kernel_rfl) rfl rfl rfl rfl (by kernel_rfl) 9 ag_str (.tmp 52) rfl (⟨gx, 0, none⟩) (by kernel_rfl) (fun w1 hb => KX.out _ (KP7.out.trans (hb.mono KP7.out.size)) 0 _ rfl), ow_val hA (wants_none rfl) 54 (.pointer (some ⟨gx, 2, none⟩)) (by kernel_rfl) rfl rfl rfl rfl (by kernel_rfl) (fun w => by kernel_rfl), ow_elem hA (wants_none rfl) 55 (.int .u64 (N : Int)) (by kernel_rfl) rfl rfl rfl rfl (by kernel_rfl) 22 Tryz.isAgg22 (.tmp 54) rfl (⟨gx, 2, none⟩) (by kernel_rfl) (fun w1 hb => KX.out _ (KP7.out.trans (hb.mono KP7.out.size)) 2 _ rfl), ow_val hA (wants_none rfl) 56 (.pointer (some ⟨gx, 3, none⟩)) (by kernel_rfl) rfl rfl rfl rfl (by kernel_rfl) (fun w => by kernel_rfl), ow_elem hA (wants_none rfl) 57 (.string (strOf C)) (by kernel_rfl) rfl rfl rfl rfl (by kernel_rfl) 9 ag_str (.tmp 56) rfl (⟨gx, 3, none⟩) (by kernel_rfl) (fun w1 hb => KX.out _ (KP7.out.trans (hb.mono KP7.out.size)) 3 _ rfl), ow_val hA (wants_none rfl) 58 (.pointer (some ⟨gx, 4, none⟩)) (by kernel_rfl) rfl rfl rfl rfl (by kernel_rfl) (fun w => by kernel_rfl), ow_elem hA (wants_none rfl) 59 (.string (strOf T)) (by kernel_rfl) rfl rfl rfl rfl (by kernel_rfl) 9 ag_str (.tmp 58) rfl (⟨gx, 4, none⟩) (by kernel_rfl) (fun w1 hb => KX.out _ (KP7.out.trans (hb.mono KP7.out.size)) 4 _ rfl), ow_invoke hA (wants_none rfl) 60 (.string (strOf X)) (by kernel_rfl) rfl rfl rfl rfl (by kernel_rfl) (.tmp 51) "Seal" [.tmp 53, .tmp 55, .tmp 57, .tmp 59] _ 64 (.agg #[]) 171 (.agg #[]) Tryz.f171 _ [.string (strOf A), .int .u64 (N : Int), .string (strOf C), .string (strOf T)] rfl (by kernel_rfl) (by kernel_rfl) (fun w => by kernel_rfl) Tryz.func171 (by kernel_rfl) rfl (fun w2 hb => CSl.out w2), ow_val hA (wants_none rfl) 61 (v) (by kernel_rfl) rfl rfl rfl rfl (by kernel_rfl) (fun w => by kernel_rfl), ow_str hA (wants_none rfl) 62 (.string (strOf X)) (by kernel_rfl) rfl rfl rfl rfl (by kernel_rfl) (.tmp 61) rfl (v) (by kernel_rfl) X (fun w1 hb => KV.out.under hb) rfl, ow_val hA (wants_none rfl) 63 (.bool false) (by kernel_rfl) rfl rfl rfl rfl (by kernel_rfl) (fun w => run_sneq rfl (by kernel_rfl) (by kernel_rfl) YX.out.1 YX.out.1 (by simp) w), trivial⟩) ?_
  case hst1 => intro q hq; cases hq
  case hst2 => intro q hq; cases hq
  intro fv w8 hf hD hb8
  simp only [putR, List.foldl_cons, List.foldl_nil, List.map_cons, List.map_nil, Act.put, List.setIfInBounds_toArray, List.set_cons_succ, List.set_cons_zero]
  refine wpList_nil ?_
  have KP8 : Kept _ := ⟨KP7.out.trans (hb8.mono KP7.out.size)⟩
  have BK8 : Kept _ := ⟨BK.out.under hb8⟩
  have KV8 : Kept _ := ⟨KV.out.under hb8⟩
  clear hf hD hb8 KP7 BK KV
  obtain ⟨w9, hw9⟩ : ∃ z, z = w8.alloc (.cells #[.string (strOf X), .string (strOf B), .string (strOf T)] 9) := ⟨_, rfl⟩
  obtain ⟨gs, hgs⟩ : ∃ z, z = w8.heap.size := ⟨_, rfl⟩
  have q9 : Below w8.heap.size w8 w9 := by rw [hw9]; exact (Below.refl _ _).alloc (Nat.le_refl _) _
  have hBs : Blk w9 gs 9 (strs [X, B, T]).toArray := by rw [hw9, hgs]; exact blk_new w8 _ _
  have KS : Kept (∀ w', Below w9.heap.size w9 w' → ∀ (i : Nat) (t : List Nat), [X, B, T][i]? = some t → w'.cell? ⟨gs, i, none⟩ = some (.string (strOf t))) := ⟨fun w' hb i t ht => (hBs.under hb).cell (by have := strs_get ht; simpa using this)⟩
  have KP9 : Kept _ := ⟨KP8.out.trans (q9.mono KP8.out.size)⟩
  have BK9 : Kept _ := ⟨BK8.out.under q9⟩
  have Kw9 : Kept _ := ⟨hw9⟩
  have Kgs : Kept _ := ⟨hgs⟩
  clear q9 hBs hw9 hgs BK8
  go_wp2_with (first | ((with_reducible refine wv_str (d := 65) ?hd ?hw (.tmp 64) ?ho (v) ?hx (X) ?hl ?_); (case hd => rfl); (case hw => kernel_rfl); (case ho => rfl); (case hx => kernel_rfl); (case hl => exact KV8.out); simp only [Act.put, List.setIfInBounds_toArray, List.set_cons_succ, List.set_cons_zero]) | ((with_reducible refine wv_elem (d := 67) ?hd ?hw 9 ag_str (.tmp 66) ?ho (⟨gx, 1, none⟩) ?hx (.string (strOf B)) ?hc ?_); (case hd => rfl); (case hw => kernel_rfl); (case ho => rfl); (case hx => kernel_rfl); (case hc => exact KX.out _ (KP8.out) 1 _ rfl); simp only [Act.put, List.setIfInBounds_toArray, List.set_cons_succ, List.set_cons_zero]) | ((with_reducible refine wv_elem (d := 69) ?hd ?hw 9 ag_str (.tmp 68) ?ho (⟨gx, 4, none⟩) ?hx (.string (strOf T)) ?hc ?_); (case hd => rfl); (case hw => kernel_rfl); (case ho => rfl); (case hx => kernel_rfl); (case hc => exact KX.out _ (KP8.out) 4 _ rfl); simp only [Act.put, List.setIfInBounds_toArray, List.set_cons_succ, List.set_cons_zero]) | (refine wl_bs3 (by kernel_rfl) (.tmp 65) (.tmp 67) (.tmp 69) rfl (X) (B) (T) (by kernel_rfl) (by kernel_rfl) (by kernel_rfl) ?_; simp only [Act.put, List.setIfInBounds_toArray, List.set_cons_succ, List.set_cons_zero]))
  rw [← Kw9.out, ← Kgs.out]
  go_loopg [72] 3 (fun g s72 wr => ∃ i : Nat, i + g = 3 ∧ s72 = .int .i64 (i : Int) ∧ Below w9.heap.size w9 wr)
  case atStart => exact ⟨0, by omega, rfl, Below.refl _ _⟩
  case round =>
    rename World => wz
    obtain ⟨i, hik, rfl, hbz⟩ := hrel
    by_cases hk0 : gk = 0
    case neg =>
      have hin : i < 3 := by omega
      have hin' : (i : Int) < 3 := by omega
      have hi1 : (i : Int) + 1 ≤ 9223372036854775807 := by omega
      obtain ⟨t, ht⟩ : ∃ t, [X, B, T][i]? = some t := ⟨_, List.getElem?_eq_getElem (by simpa using hin)⟩
      have Yt : Kept (Bytes t ∧ t.length ≤ 2000) := ⟨YL.out t (List.mem_of_getElem? ht)⟩
      have Kt : Kept (wz.cell? ⟨gs, i, none⟩ = some (.string (strOf t))) := ⟨KS.out wz hbz i t ht⟩
      have KPz : Kept _ := ⟨KP9.out.trans (hbz.mono KP9.out.size)⟩
      have Kbz : Kept _ := ⟨hbz⟩
      have BKz : Kept _ := ⟨BK9.out.under hbz⟩
      clear ht hbz
      go_wp2_with (first | ((with_reducible refine wv_val (d := 74) ?hd ?hw (.pointer (some ⟨gs, i, none⟩)) ?hr ?_); (case hd => rfl); (case hw => kernel_rfl); (case hr => intro w; exact run_idxG0 (i := i) (l := 3) (c := 3) (g := gs) rfl (by kernel_rfl) (by kernel_rfl) Tryz.underlying43 hin Tryz.sizeOf9 w); simp only [Act.put, List.setIfInBounds_toArray, List.set_cons_succ, List.set_cons_zero]) | ((with_reducible refine wv_elem (d := 75) ?hd ?hw 9 ag_str (.tmp 74) ?ho (⟨gs, i, none⟩) ?hx (.string (strOf t)) ?hc ?_); (case hd => rfl); (case hw => kernel_rfl); (case ho => rfl); (case hx => kernel_rfl); (case hc => exact Kt.out); simp only [Act.put, List.setIfInBounds_toArray, List.set_cons_succ, List.set_cons_zero]) | ((with_reducible refine wv_elem (d := 79) ?hd ?hw 9 ag_str (.tmp 78) ?ho (⟨gx, 0, none⟩) ?hx (.string (strOf A)) ?hc ?_); (case hd => rfl); (case hw => kernel_rfl); (case ho => rfl); (case hx => kernel_rfl); (case hc => exact KX.out _ (KPz.out) 0 _ rfl); simp only [Act.put, List.setIfInBounds_toArray, List.set_cons_succ, List.set_cons_zero]) | ((with_reducible refine wv_elem (d := 81) ?hd ?hw 22 Tryz.isAgg22 (.tmp 80) ?ho (⟨gx, 2, none⟩) ?hx (.int .u64 (N : Int)) ?hc ?_); (case hd => rfl); (case hw => kernel_rfl); (case ho => rfl); (case hx => kernel_rfl); (case hc => exact KX.out _ (KPz.out) 2 _ rfl); simp only [Act.put, List.setIfInBounds_toArray, List.set_cons_succ, List.set_cons_zero]) | ((with_reducible refine wv_elem (d := 83) ?hd ?hw 9 ag_str (.tmp 82) ?ho (⟨gx, 3, none⟩) ?hx (.string (strOf C)) ?hc ?_); (case hd => rfl); (case hw => kernel_rfl); (case ho => rfl); (case hx => kernel_rfl); (case hc => exact KX.out _ (KPz.out) 3 _ rfl); simp only [Act.put, List.setIfInBounds_toArray, List.set_cons_succ, List.set_cons_zero]))
      refine (COp.out _ _).mono ?_
      rintro e wa ⟨rfl, qa⟩
      have Kba : Kept _ := ⟨Kbz.out.trans (qa.mono Kbz.out.size)⟩
      clear qa KPz Kbz BKz
      go_wp2_with fail
      go_roundg (gk - 1)
      case measure => omega
      case rel => exact ⟨i + 1, by omega, by simp, Kba.out⟩
    case pos =>
      obtain rfl : 3 = i := by omega
      have Kbz : Kept _ := ⟨KP9.out.trans (hbz.mono KP9.out.size)⟩
      clear hbz
      go_wp2_with fail
      go_ret
      exact ⟨rfl, Q0.out.trans (Kbz.out.mono Q0.out.size)⟩

theorem boxes11 {A B C T : List Nat} {N : Nat} {w : World} (hA : Bytes A) (hB : Bytes B) (hC : Bytes C) (hT : Bytes T) (hN : N < 18446744073709551616) (hr : RootsAt w) : Calls Tryz.prog 4 #[.agg #[.string (strOf A), .string (strOf B), .int .u64 (N : Int), .string (strOf C), .string (strOf T)]] w fun e w' => e = .returned (.bool true) ∧ Below w.heap.size w w' := by
  by_cases hf : Few A B C T
  · by_cases h : A.length = 32
    · exact boxes_yes hA hB hC hT hN hr (decide_eq_true hf) h
    · exact boxes_no hA hB hC hT hN hr (decide_eq_true hf) h
  · exact boxes_big hA hB hC hT hN hr (decide_eq_false hf)
end Go.Proofs.YtjkdonjcngmjeaaGreatDoor.sh
