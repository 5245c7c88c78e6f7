/-
  TagTells, walked.
-/
import Derived.Test.YtfcinakpdnblfaaYS
namespace Go.Proofs.Ytfcinakpdnblfaa.sh
open Go Go.RowKit
set_option linter.unusedVariables false
set_option linter.unusedSimpArgs false

set_option maxRecDepth 100000 in
set_option maxHeartbeats 2000000 in
theorem tells6 (key : List Nat) (v : Value) (b : List Nat) (w : World) (hk : key.length = 32) (hy : Bytes key) (hv : BytesV v w b) (hyb : Bytes b) (hm : b.length ≤ maxLen) :
    Calls Try.prog 3 #[.agg (ints .u8 key), v] w fun e w' => e = .returned (.bool true) ∧ Below w.heap.size w w' := by
  obtain ⟨TG, hTG⟩ : ∃ T, T = tagL key b := ⟨_, rfl⟩
  have LT : Kept (TG.length = 16) := ⟨by rw [hTG]; exact tagL_len _ _⟩
  have LK : Kept _ := ⟨hk⟩
  have S1 : Kept (∀ w' v, BytesV v w' b → Calls Try.prog 10 #[.agg (ints .u8 key), v] w' fun e w2 => e = .returned (.agg (ints .u8 TG)) ∧ Below w'.heap.size w' w2) := ⟨fun w' v hv => by rw [hTG]; exact SumD key b v w' hk hy hyb hv⟩
  have S2 : Kept (∀ w' v, BytesV v w' b → b.length ≤ 1000 → Calls Try.prog 11 #[.agg (ints .u8 key), v] w' fun e w2 => e = .returned (.agg (ints .u8 TG)) ∧ Below w'.heap.size w' w2) := ⟨fun w' v hv hl => by rw [hTG]; exact rSum6 key b v w' hk hy hyb hv hl⟩
  have KV : Kept _ := ⟨hv⟩
  obtain ⟨p, c, rfl, _, _⟩ := hv
  obtain ⟨n, hn⟩ : ∃ n, n = b.length := ⟨_, rfl⟩
  rw [← hn] at KV hm S2 ⊢
  have A0 : Blk (w.alloc (.cells (ints .u8 key) 22)) w.heap.size 22 (ints .u8 key) := blk_new w _ _
  have Q0 : Below w.heap.size w (w.alloc (.cells (ints .u8 key) 22)) := (Below.refl _ _).alloc (Nat.le_refl _) _
  clear hTG hk hy hyb hn
  go_enter Try.func3, Try.ntmps3
  go_wp2_with fail
  refine (alive6 _).mono ?_
  rintro e w1 ⟨rfl, hb1⟩
  have B0 := A0.under hb1
  have Q1 := Q0.trans (hb1.mono Q0.size)
  clear A0 Q0 hb1
  by_cases h1000 : n ≤ 1000
  case neg =>
    have hi : (1000 : Int) < (n : Int) := by omega
    go_wp2_with fail
    go_ret
    exact ⟨rfl, Q1⟩
  case pos =>
    have hi : ¬ (1000 : Int) < (n : Int) := by omega
    have C1 : Kept (∀ w', Below w1.heap.size w1 w' → Calls Try.prog 10 [.agg (ints .u8 key), .slice p n c].toArray w' fun e w2 => e = .returned (.agg (ints .u8 TG)) ∧ Below w'.heap.size w' w2) := ⟨fun w' hb => S1.out w' _ (KV.out.under (Q1.trans (hb.mono Q1.size)))⟩
    have C2 : Kept (∀ w', Below w1.heap.size w1 w' → Calls Try.prog 11 [.agg (ints .u8 key), .slice p n c].toArray w' fun e w2 => e = .returned (.agg (ints .u8 TG)) ∧ Below w'.heap.size w' w2) := ⟨fun w' hb => S2.out w' _ (KV.out.under (Q1.trans (hb.mono Q1.size))) h1000⟩
    clear S1 S2
    go_wp2_with fail
    refine region_ownL w1 7 [(10, .agg (ints .u8 key)), (11, .slice p n c), (12, .agg (ints .u8 TG)), (13, .agg (ints .u8 key)), (14, .slice p n c), (15, .agg (ints .u8 TG)), (16, .bool true)] [] [] [] rfl (by kernel_rfl) (by kernel_rfl) (by kernel_rfl) (by kernel_rfl) (by kernel_rfl) (by kernel_rfl) (by kernel_rfl) (by kernel_rfl) (by kernel_rfl) (by kernel_rfl) (by kernel_rfl) ?hst1 ?hst2 (Below.refl _ _) (fun hA => ⟨ow_row hA (wants_none rfl) 10 (.agg (ints .u8 key)) (by kernel_rfl) rfl rfl rfl rfl (by kernel_rfl) 22 (.tmp 2) rfl (w.heap.size) (by kernel_rfl) 22 (ints .u8 key) 32 5 Try.underlying22 ((by rw [ints_size, LK.out]; exact t32_info)) (fun w1 hb => B0.under hb) rfl, ow_val hA (wants_none rfl) 11 (.slice p n c) (by kernel_rfl) rfl rfl rfl rfl (by kernel_rfl) (fun w => by kernel_rfl), ow_calld hA (wants_none rfl) 12 (.agg (ints .u8 TG)) (by kernel_rfl) rfl rfl rfl rfl (by kernel_rfl) 10 Try.f10 _ [.tmp 10, .tmp 11] _ [.agg (ints .u8 key), .slice p n c] rfl (by kernel_rfl) Try.func10 (by kernel_rfl) rfl (C1.out), ow_row hA (wants_none rfl) 13 (.agg (ints .u8 key)) (by kernel_rfl) rfl rfl rfl rfl (by kernel_rfl) 22 (.tmp 2) rfl (w.heap.size) (by kernel_rfl) 22 (ints .u8 key) 32 5 Try.underlying22 ((by rw [ints_size, LK.out]; exact t32_info)) (fun w1 hb => B0.under hb) rfl, ow_val hA (wants_none rfl) 14 (.slice p n c) (by kernel_rfl) rfl rfl rfl rfl (by kernel_rfl) (fun w => by kernel_rfl), ow_calld hA (wants_none rfl) 15 (.agg (ints .u8 TG)) (by kernel_rfl) rfl rfl rfl rfl (by kernel_rfl) 11 Try.f11 _ [.tmp 13, .tmp 14] _ [.agg (ints .u8 key), .slice p n c] rfl (by kernel_rfl) Try.func11 (by kernel_rfl) rfl (C2.out), ow_val hA (wants_none rfl) 16 (.bool true) (by kernel_rfl) rfl rfl rfl rfl (by kernel_rfl) (fun w => by rw [run_eql_row (TG) (TG) rfl (by kernel_rfl) (by kernel_rfl) LT.out LT.out Try.underlying25 Try.underlying5 sz_u8 ag_u8 eg16]; rw [decide_eq_true rfl]), trivial⟩) ?_
    case hst1 => intro q hq; cases hq
    case hst2 => intro q hq; cases hq
    intro fv w5 hf hD hb5
    simp only [putR, List.foldl_cons, List.foldl_nil, List.map_cons, List.map_nil, Act.put, List.setIfInBounds_toArray, List.set_cons_succ, List.set_cons_zero]
    go_wp2_with fail
    go_ret
    exact ⟨rfl, Q1.trans (hb5.mono Q1.size)⟩
end Go.Proofs.Ytfcinakpdnblfaa.sh
