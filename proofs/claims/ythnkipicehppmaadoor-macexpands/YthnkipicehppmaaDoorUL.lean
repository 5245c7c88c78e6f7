/-
  The reference of layer 4: Sum, Extract.
-/
import Derived.Test.YthnkipicehppmaaDoorUK
namespace Go.Proofs.YthnkipicehppmaaDoor.sh
open Go Go.RowKit
set_option linter.unusedVariables false
set_option linter.unusedSimpArgs false

set_option maxRecDepth 100000 in
set_option maxHeartbeats 4000000 in
theorem rmSum_any (k b : List Nat) (vk vb : Value) (w : World) (hk : Bytes k) (hkn : k.length ≤ 1000) (hb : Bytes b) (hbn : b.length ≤ 900) (hvk : BytesV vk w k) (hvb : BytesV vb w b) :
    Calls Tryd.prog 11 #[vk, vb] w fun e w' => e = .returned (.agg (ints .u8 (macL k b))) ∧ Below w.heap.size w w' := by
  have KK : Kept _ := ⟨hvk⟩
  have KV : Kept _ := ⟨hvb⟩
  have YK : Kept _ := ⟨hk⟩
  have YB : Kept _ := ⟨hb⟩
  have NK : Kept _ := ⟨hkn⟩
  have NB : Kept _ := ⟨hbn⟩
  obtain ⟨pk, ck, ek, _, _⟩ := hvk
  obtain ⟨nk, hnk⟩ : ∃ n, n = k.length := ⟨_, rfl⟩
  rw [← hnk] at ek
  clear hnk
  subst ek
  obtain ⟨O, hO⟩ : ∃ P, P = xorL 92 (padL k) := ⟨_, rfl⟩
  obtain ⟨I, hI⟩ : ∃ P, P = xorL 54 (padL k) := ⟨_, rfl⟩
  have YO : Kept (Bytes O) := ⟨by rw [hO]; exact xorL_bytes (padL_bytes hk) (by decide)⟩
  have YI : Kept (Bytes I) := ⟨by rw [hI]; exact xorL_bytes (padL_bytes hk) (by decide)⟩
  have LO : Kept (O.length = 64) := ⟨by rw [hO, xorL_len]; exact padL_len k⟩
  have LI : Kept (I.length = 64) := ⟨by rw [hI, xorL_len]; exact padL_len k⟩
  have EO : Kept _ := ⟨hO⟩
  have EI : Kept _ := ⟨hI⟩
  obtain ⟨L1, hL1⟩ : ∃ L, L = sumL (I ++ b) := ⟨_, rfl⟩
  obtain ⟨L, hL⟩ : ∃ L, L = macL k b := ⟨_, rfl⟩
  have EL : Kept (L = sumL (O ++ L1)) := ⟨by rw [hL, hL1, hO, hI]; rfl⟩
  have EL1 : Kept _ := ⟨hL1⟩
  have LL : Kept (L.length = 32) := ⟨by rw [hL]; exact macL_len k b⟩
  have LL1 : Kept (L1.length = 32) := ⟨by rw [hL1]; exact sumL_len _⟩
  have YL1 : Kept (Bytes L1) := ⟨by rw [hL1]; exact sumL_bytes _⟩
  rw [← hL]
  have A0 : Blk (w.alloc (.cells #[.int .u8 0, .int .u8 0, .int .u8 0, .int .u8 0, .int .u8 0, .int .u8 0, .int .u8 0, .int .u8 0, .int .u8 0, .int .u8 0, .int .u8 0, .int .u8 0, .int .u8 0, .int .u8 0, .int .u8 0, .int .u8 0, .int .u8 0, .int .u8 0, .int .u8 0, .int .u8 0, .int .u8 0, .int .u8 0, .int .u8 0, .int .u8 0, .int .u8 0, .int .u8 0, .int .u8 0, .int .u8 0, .int .u8 0, .int .u8 0, .int .u8 0, .int .u8 0] 24)) w.heap.size 24 #[.int .u8 0, .int .u8 0, .int .u8 0, .int .u8 0, .int .u8 0, .int .u8 0, .int .u8 0, .int .u8 0, .int .u8 0, .int .u8 0, .int .u8 0, .int .u8 0, .int .u8 0, .int .u8 0, .int .u8 0, .int .u8 0, .int .u8 0, .int .u8 0, .int .u8 0, .int .u8 0, .int .u8 0, .int .u8 0, .int .u8 0, .int .u8 0, .int .u8 0, .int .u8 0, .int .u8 0, .int .u8 0, .int .u8 0, .int .u8 0, .int .u8 0, .int .u8 0] := blk_new w _ _
  have Q0 : Below w.heap.size w (w.alloc (.cells #[.int .u8 0, .int .u8 0, .int .u8 0, .int .u8 0, .int .u8 0, .int .u8 0, .int .u8 0, .int .u8 0, .int .u8 0, .int .u8 0, .int .u8 0, .int .u8 0, .int .u8 0, .int .u8 0, .int .u8 0, .int .u8 0, .int .u8 0, .int .u8 0, .int .u8 0, .int .u8 0, .int .u8 0, .int .u8 0, .int .u8 0, .int .u8 0, .int .u8 0, .int .u8 0, .int .u8 0, .int .u8 0, .int .u8 0, .int .u8 0, .int .u8 0, .int .u8 0] 24)) := (Below.refl _ _).alloc (Nat.le_refl _) _
  clear hk hkn hb hbn hvb hO hI hL hL1
  go_enter Tryd.func11, Tryd.ntmps11
  go_wp2_with fail
  generalize hW : w.alloc (.cells #[.int .u8 0, .int .u8 0, .int .u8 0, .int .u8 0, .int .u8 0, .int .u8 0, .int .u8 0, .int .u8 0, .int .u8 0, .int .u8 0, .int .u8 0, .int .u8 0, .int .u8 0, .int .u8 0, .int .u8 0, .int .u8 0, .int .u8 0, .int .u8 0, .int .u8 0, .int .u8 0, .int .u8 0, .int .u8 0, .int .u8 0, .int .u8 0, .int .u8 0, .int .u8 0, .int .u8 0, .int .u8 0, .int .u8 0, .int .u8 0, .int .u8 0, .int .u8 0] 24) = wa at *
  clear hW
  refine (rfilled_any k 54 _ wa YK.out NK.out (by decide) (KK.out.under Q0)).mono ?_
  rintro e w1 ⟨v1, rfl, R1, hb1⟩
  rw [← EI.out] at R1
  have R1' := Row.mono R1 Q0.size
  have A1 := A0.under hb1
  have Q1 := Q0.trans (hb1.mono Q0.size)
  have hba := Q1.size
  have bX : Kept (∀ b, blkOf v1 = some b → w.heap.size ≤ b ∧ w.heap.size ≠ b) := ⟨fun b hb => by have := (R1.range b hb).1; have := A0.lt; exact ⟨by omega, by omega⟩⟩
  have VB : Kept (IntsV .u8 vb w1 b) := ⟨bytesV_ints (KV.out.under Q1)⟩
  have LA : Kept (I.length + b.length ≤ 8796093022208) := ⟨by rw [LI.out]; have := NB.out; omega⟩
  clear R1 hb1 A0 Q0
  go_wp2_with (first | (refine wl_app (by kernel_rfl) (.tmp 7) (.tmp 8) 22 5 .u8 1 (show _ = _ from rfl) Tryd.underlying22 inf_u8 (by decide) w.heap.size I b _ _ rfl rfl R1' VB.out LA.out hba ?_))
  intro v2 w2 R2 G2 B2
  have Q2 : Below w.heap.size w w2 := Q1.trans (grown_below0 G2 hba (fun b hb => (bX.out b hb).1))
  have A2 : Blk w2 w.heap.size 24 #[.int .u8 0, .int .u8 0, .int .u8 0, .int .u8 0, .int .u8 0, .int .u8 0, .int .u8 0, .int .u8 0, .int .u8 0, .int .u8 0, .int .u8 0, .int .u8 0, .int .u8 0, .int .u8 0, .int .u8 0, .int .u8 0, .int .u8 0, .int .u8 0, .int .u8 0, .int .u8 0, .int .u8 0, .int .u8 0, .int .u8 0, .int .u8 0, .int .u8 0, .int .u8 0, .int .u8 0, .int .u8 0, .int .u8 0, .int .u8 0, .int .u8 0, .int .u8 0] := (G2.block _ A1.lt (fun e => (bX.out _ e.symm).2 rfl)).trans A1
  have CS : Kept (Calls Tryd.prog 20 #[v2] w2 fun e w' => e = .returned (.agg (ints .u8 L1)) ∧ Below w2.heap.size w2 w') := ⟨by rw [EL1.out]; exact rSum_any _ _ w2 (row_bytes R2) (YI.out.append YB.out) (by rw [List.length_append, LI.out]; have := NB.out; omega)⟩
  clear R1' A1 Q1 hba VB LA R2 G2 B2 bX
  go_wp2_with fail
  refine CS.out.mono ?_
  rintro e w4 ⟨rfl, hb4⟩
  have A4 := A2.under hb4
  have Q4 := Q2.trans (hb4.mono Q2.size)
  have sz4 := A4.lt
  clear CS A2 Q2 hb4
  go_wp2_with (first | (refine wl_store rfl 24 (.tmp 5) (.tmp 10) rfl w4.heap.size (ints .u8 L1) rfl rfl _ (blk_new w4 _ _) (by rw [ints_size, LL1.out]; exact t32_info) (by rw [ints_size, LL1.out]; rfl) (ints_one _ _) ?_))
  intro w5 A5 P5
  have A45 := P5.blk (A4.alloc _) (by omega)
  have Q5 := (Q4.alloc Q4.size _).trans (P5.below Q4.size)
  generalize hg5 : w4.heap.size = g5 at *
  clear P5 A4 Q4 hg5 sz4
  have V5 : Kept (∀ w', Below w5.heap.size w5 w' → IntsV .u8 (.slice (some ⟨g5, 0, none⟩) 32 32) w' L1) := ⟨fun w' hb => (arr_bytes A5 LL1.out).under hb⟩
  have LOL : Kept (O.length + L1.length ≤ 8796093022208) := ⟨by rw [LO.out, LL1.out]; decide⟩
  have C3 : Kept (∀ w', Below w5.heap.size w5 w' → Calls Tryd.prog 21 #[.slice pk nk ck, .int .u8 92] w' fun e w2 => ∃ v', e = .returned v' ∧ Row w'.heap.size 5 .u8 O v' w2 ∧ Below w'.heap.size w' w2) := ⟨fun w' hb => by
    rw [EO.out]
    exact rfilled_any k 92 _ w' YK.out NK.out (by decide) ((KK.out.under Q5).under hb)⟩
  have C4 : Kept (∀ w' v, Below w5.heap.size w5 w' → Row w5.heap.size 5 .u8 (O ++ L1) v w' → Calls Tryd.prog 20 #[v] w' fun e w2 => e = .returned (.agg (ints .u8 L)) ∧ Below w'.heap.size w' w2) := ⟨fun w' v hb hR => by
    rw [EL.out]
    exact rSum_any _ _ w' (row_bytes hR) (YO.out.append YL1.out) (by rw [List.length_append, LO.out, LL1.out]; decide)⟩
  go_wp2_with fail
  refine region_ownL w5 5 [(11, .slice pk nk ck), (13, .slice (some ⟨g5, 0, none⟩) 32 32), (15, .agg (ints .u8 L))] [(12, Row w5.heap.size 5 .u8 O), (14, Row w5.heap.size 5 .u8 (O ++ L1))] [12, 14] [(3, 12)] rfl (by kernel_rfl) (by kernel_rfl) (by kernel_rfl) (by kernel_rfl) (by kernel_rfl) (by kernel_rfl) (by kernel_rfl) (by kernel_rfl) (by kernel_rfl) (by kernel_rfl) (by kernel_rfl) ?hst1 ?hst2 (Below.refl _ _) (fun hA => ⟨ow_val hA (wants_none rfl) 11 (.slice pk nk ck) (by kernel_rfl) rfl rfl rfl rfl (by kernel_rfl) (fun w => by kernel_rfl), ow_call (wants_none rfl) 12 21 Tryd.f21 _ [.tmp 11, .const (.int .u8 92)] _ rfl rfl Tryd.func21 (by kernel_rfl) rfl (fun a w1 hF hb hgot => by rw [List.map_cons, List.map_cons, List.map_nil, gotE_det (v := .slice pk nk ck) hA hgot (by kernel_rfl) rfl rfl (by kernel_rfl)]; exact (C3.out w1 hb).mono fun e w2 hh => by obtain ⟨v, h1, h2, h3⟩ := hh; exact ⟨v, h1, rel_spec _ rfl (Row.mono h2 hb.size), h3, fun _ => h2.range⟩), ow_val hA (wants_none rfl) 13 (.slice (some ⟨g5, 0, none⟩) 32 32) (by kernel_rfl) rfl rfl rfl rfl (by kernel_rfl) (fun w => by kernel_rfl), ow_app (wants_none rfl) 14 rfl (.tmp 12) (.tmp 13) 22 5 .u8 1 rfl Tryd.underlying22 inf_u8 (by decide) (O) (L1) LOL.out rfl (fun a w1 hF hb hgot => ⟨(gotE_spec hgot (Row w5.heap.size 5 .u8 O) (by kernel_rfl) rfl rfl).1, by rw [gotE_det (v := .slice (some ⟨g5, 0, none⟩) 32 32) hA hgot (by kernel_rfl) rfl rfl (by kernel_rfl)]; exact V5.out w1 hb, fun b hb => ⟨12, by decide, by rw [(gotE_spec hgot (Row w5.heap.size 5 .u8 O) (by kernel_rfl) rfl rfl).2.1]; exact hb⟩⟩), ow_call (wants_none rfl) 15 20 Tryd.f20 _ [.tmp 14] _ rfl rfl Tryd.func20 (by kernel_rfl) rfl (fun a w1 hF hb hgot => by rw [List.map_cons, List.map_nil]; exact (C4.out w1 _ hb (gotE_spec hgot (Row w5.heap.size 5 .u8 (O ++ L1)) (by kernel_rfl) rfl rfl).1).mono fun e w2 hh => ⟨_, hh.1, rel_det hA rfl (by kernel_rfl), hh.2, fun h => by cases h⟩), trivial⟩) ?_
  case hst1 =>
    intro q hq hO
    simp only [List.mem_cons, List.not_mem_nil, or_false] at hq
    rcases hq with rfl | rfl <;> cases hO
  case hst2 =>
    intro q hq hO v w3 w4 row h1 h2 h3 h4
    simp only [List.mem_cons, List.not_mem_nil, or_false] at hq
    rcases hq with rfl | rfl <;> exact Row.keeps h1 h2 h3
  intro fv w6 hf hD hb6
  simp only [putR, List.foldl_cons, List.foldl_nil, List.map_cons, List.map_nil, Act.put, List.setIfInBounds_toArray, List.set_cons_succ, List.set_cons_zero]
  have A6 := A45.under hb6
  have Q6 := Q5.trans (hb6.mono Q5.size)
  clear hf hD C3 C4 V5 A5 A45 Q5 hb6
  refine wl_store rfl 24 (.tmp 4) (.tmp 15) rfl w.heap.size (ints .u8 L) (by kernel_rfl) (by kernel_rfl) _ A6 (by rw [ints_size, LL.out]; exact t32_info) (by rw [ints_size, LL.out]; rfl) (ints_one _ _) ?_
  intro w7 A7 P7
  go_wp2
  exact bodyPost_ret (v := .agg (ints .u8 L)) (results_cell_row Tryd.results11 _ _ _ 24 (ints .u8 L) (0, 0) _ rfl A7 Tryd.underlying24 rfl (by rw [ints_size, LL.out]; exact t32_info)) rfl ⟨rfl, Q6.trans (P7.below (Nat.le_refl _))⟩

set_option maxRecDepth 100000 in
set_option maxHeartbeats 2000000 in
theorem rmExtract_any (k b : List Nat) (vk vb : Value) (w : World) (hk : Bytes k) (hkn : k.length ≤ 1000) (hb : Bytes b) (hbn : b.length ≤ 900) (hvk : BytesV vk w k) (hvb : BytesV vb w b) :
    Calls Tryd.prog 26 #[vk, vb] w fun e w' => e = .returned (.agg (ints .u8 (macL k b))) ∧ Below w.heap.size w w' := by
  obtain ⟨L, hL⟩ : ∃ L, L = macL k b := ⟨_, rfl⟩
  have LL : Kept (L.length = 32) := ⟨by rw [hL]; exact macL_len k b⟩
  have A0 : Blk (w.alloc (.cells #[.int .u8 0, .int .u8 0, .int .u8 0, .int .u8 0, .int .u8 0, .int .u8 0, .int .u8 0, .int .u8 0, .int .u8 0, .int .u8 0, .int .u8 0, .int .u8 0, .int .u8 0, .int .u8 0, .int .u8 0, .int .u8 0, .int .u8 0, .int .u8 0, .int .u8 0, .int .u8 0, .int .u8 0, .int .u8 0, .int .u8 0, .int .u8 0, .int .u8 0, .int .u8 0, .int .u8 0, .int .u8 0, .int .u8 0, .int .u8 0, .int .u8 0, .int .u8 0] 24)) w.heap.size 24 #[.int .u8 0, .int .u8 0, .int .u8 0, .int .u8 0, .int .u8 0, .int .u8 0, .int .u8 0, .int .u8 0, .int .u8 0, .int .u8 0, .int .u8 0, .int .u8 0, .int .u8 0, .int .u8 0, .int .u8 0, .int .u8 0, .int .u8 0, .int .u8 0, .int .u8 0, .int .u8 0, .int .u8 0, .int .u8 0, .int .u8 0, .int .u8 0, .int .u8 0, .int .u8 0, .int .u8 0, .int .u8 0, .int .u8 0, .int .u8 0, .int .u8 0, .int .u8 0] := blk_new w _ _
  have Q0 : Below w.heap.size w (w.alloc (.cells #[.int .u8 0, .int .u8 0, .int .u8 0, .int .u8 0, .int .u8 0, .int .u8 0, .int .u8 0, .int .u8 0, .int .u8 0, .int .u8 0, .int .u8 0, .int .u8 0, .int .u8 0, .int .u8 0, .int .u8 0, .int .u8 0, .int .u8 0, .int .u8 0, .int .u8 0, .int .u8 0, .int .u8 0, .int .u8 0, .int .u8 0, .int .u8 0, .int .u8 0, .int .u8 0, .int .u8 0, .int .u8 0, .int .u8 0, .int .u8 0, .int .u8 0, .int .u8 0] 24)) := (Below.refl _ _).alloc (Nat.le_refl _) _
  have C0 : Kept (Calls Tryd.prog 11 #[vk, vb] (w.alloc (.cells #[.int .u8 0, .int .u8 0, .int .u8 0, .int .u8 0, .int .u8 0, .int .u8 0, .int .u8 0, .int .u8 0, .int .u8 0, .int .u8 0, .int .u8 0, .int .u8 0, .int .u8 0, .int .u8 0, .int .u8 0, .int .u8 0, .int .u8 0, .int .u8 0, .int .u8 0, .int .u8 0, .int .u8 0, .int .u8 0, .int .u8 0, .int .u8 0, .int .u8 0, .int .u8 0, .int .u8 0, .int .u8 0, .int .u8 0, .int .u8 0, .int .u8 0, .int .u8 0] 24)) fun e w' => e = .returned (.agg (ints .u8 L)) ∧ Below (w.alloc (.cells #[.int .u8 0, .int .u8 0, .int .u8 0, .int .u8 0, .int .u8 0, .int .u8 0, .int .u8 0, .int .u8 0, .int .u8 0, .int .u8 0, .int .u8 0, .int .u8 0, .int .u8 0, .int .u8 0, .int .u8 0, .int .u8 0, .int .u8 0, .int .u8 0, .int .u8 0, .int .u8 0, .int .u8 0, .int .u8 0, .int .u8 0, .int .u8 0, .int .u8 0, .int .u8 0, .int .u8 0, .int .u8 0, .int .u8 0, .int .u8 0, .int .u8 0, .int .u8 0] 24)).heap.size (w.alloc (.cells #[.int .u8 0, .int .u8 0, .int .u8 0, .int .u8 0, .int .u8 0, .int .u8 0, .int .u8 0, .int .u8 0, .int .u8 0, .int .u8 0, .int .u8 0, .int .u8 0, .int .u8 0, .int .u8 0, .int .u8 0, .int .u8 0, .int .u8 0, .int .u8 0, .int .u8 0, .int .u8 0, .int .u8 0, .int .u8 0, .int .u8 0, .int .u8 0, .int .u8 0, .int .u8 0, .int .u8 0, .int .u8 0, .int .u8 0, .int .u8 0, .int .u8 0, .int .u8 0] 24)) w') := ⟨by rw [hL]; exact rmSum_any k b vk vb _ hk hkn hb hbn (hvk.under Q0) (hvb.under Q0)⟩
  rw [← hL]
  clear hb hbn hvb hvk hk hkn hL
  go_enter Tryd.func26, Tryd.ntmps26
  go_wp2_with fail
  refine C0.out.mono ?_
  rintro e w1 ⟨rfl, hb1⟩
  have A1 := A0.under hb1
  have Q1 := Q0.trans (hb1.mono Q0.size)
  clear hb1 A0 Q0 C0
  go_wp2_with (first | (refine wl_store rfl 24 (.tmp 4) (.tmp 7) rfl w.heap.size (ints .u8 L) rfl rfl _ A1 (by rw [ints_size, LL.out]; exact t32_info) (by rw [ints_size, LL.out]; rfl) (ints_one _ _) ?_))
  intro w4 A4 P4
  go_wp2
  exact bodyPost_ret (v := .agg (ints .u8 L)) (results_cell_row Tryd.results26 _ _ _ 24 (ints .u8 L) (0, 0) _ rfl A4 Tryd.underlying24 rfl (by rw [ints_size, LL.out]; exact t32_info)) rfl ⟨rfl, Q1.trans (P4.below (Nat.le_refl _))⟩
end Go.Proofs.YthnkipicehppmaaDoor.sh
