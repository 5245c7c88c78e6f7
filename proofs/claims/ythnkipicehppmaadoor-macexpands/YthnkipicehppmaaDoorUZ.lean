/-
  The reference's Same, of slices that hold the same keys.
-/
import Derived.Test.YthnkipicehppmaaDoorUV
namespace Go.Proofs.YthnkipicehppmaaDoor.sh
open Go Go.RowKit
set_option linter.unusedVariables false
set_option linter.unusedSimpArgs false

set_option maxRecDepth 100000 in
set_option maxHeartbeats 2000000 in
theorem Same_eq (kl : List (List Nat)) (va vb : Value) (w : World) (h32 : ∀ k ∈ kl, k.length = 32) (hn : kl.length < 1000000) (ha : KeysV va w kl) (hb : KeysV vb w kl) :
    Calls Tryd.prog 18 #[va, vb] w fun e w' => e = .returned (.bool true) ∧ Below w.heap.size w w' := by
  obtain ⟨pa, ca, ea, _, hA⟩ := ha
  obtain ⟨pb, cb, eb, _, hB⟩ := hb
  obtain ⟨n, hnn⟩ : ∃ n, n = kl.length := ⟨_, rfl⟩
  rw [← hnn] at ea eb hn
  subst ea eb
  have EN : Kept _ := ⟨hnn⟩
  have KA : Kept _ := ⟨hA⟩
  have KB : Kept _ := ⟨hB⟩
  have K32' : Kept _ := ⟨h32⟩
  clear hnn hA hB h32
  go_enter Tryd.func18, Tryd.ntmps18
  go_wp2_with fail
  go_loopg [5] n (fun m s5 wr => ∃ i : Nat, i + m = n ∧ s5 = .int .i64 (i : Int) ∧ Below w.heap.size w wr)
  case atStart => exact ⟨0, by omega, rfl, Below.refl _ _⟩
  case round =>
    obtain ⟨i, him, rfl, HB⟩ := hrel
    by_cases hi : i < n
    case pos =>
      have hi' : (i : Int) < (n : Int) := by omega
      have hne : kl ≠ [] := fun e => by have := EN.out; rw [e] at this; simp at this; omega
      obtain ⟨ga, curA, rfl, BA0, hca⟩ := KA.out hne
      obtain ⟨gb, curB, rfl, BB0, hcb⟩ := KB.out hne
      obtain ⟨T, hT⟩ : ∃ T, kl[i]? = some T := ⟨_, List.getElem?_eq_getElem (by have := EN.out; omega)⟩
      have LT : Kept (T.length = 32) := ⟨K32'.out T (List.mem_of_getElem? hT)⟩
      have KI : Kept ((Tryd.prog.info? 24).map (·.size) = some (ints .u8 T).size) := ⟨by rw [ints_size, LT.out]; exact t32_info⟩
      have KA : Kept (∀ (j : Nat) (u : Value), (ints .u8 T)[j]? = some u → curA[i * 32 + j]? = some u) := ⟨hca i T hT⟩
      have KB : Kept (∀ (j : Nat) (u : Value), (ints .u8 T)[j]? = some u → curB[i * 32 + j]? = some u) := ⟨hcb i T hT⟩
      have BA := BA0.under HB
      have BB := BB0.under HB
      clear hca hcb hT hne BA0 BB0
      go_wp2_with fail
      refine region_ownL wr 9 [(17, .slice (some ⟨ga, 0, none⟩) n ca), (18, .int .i64 (i : Int)), (19, .pointer (some ⟨ga, i * 32, none⟩)), (20, .agg (ints .u8 T)), (21, .slice (some ⟨gb, 0, none⟩) n cb), (22, .int .i64 (i : Int)), (23, .pointer (some ⟨gb, i * 32, none⟩)), (24, .agg (ints .u8 T)), (25, .bool false)] [] [] [] rfl (by kernel_rfl) (by kernel_rfl) (by kernel_rfl) (by kernel_rfl) (by kernel_rfl) (by kernel_rfl) (by kernel_rfl) (by kernel_rfl) (by kernel_rfl) (by kernel_rfl) (by kernel_rfl) ?hst1 ?hst2 (Below.refl _ _) (fun hA => ⟨ow_val hA (wants_none rfl) 17 (.slice (some ⟨ga, 0, none⟩) n ca) (by kernel_rfl) rfl rfl rfl rfl (by kernel_rfl) (fun w => by kernel_rfl), ow_val hA (wants_none rfl) 18 (.int .i64 (i : Int)) (by kernel_rfl) rfl rfl rfl rfl (by kernel_rfl) (fun w => by kernel_rfl), ow_val hA (wants_none rfl) 19 (.pointer (some ⟨ga, i * 32, none⟩)) (by kernel_rfl) rfl rfl rfl rfl (by kernel_rfl) (fun w => run_idxK (l := n) (c := ca) rfl (by kernel_rfl) (by kernel_rfl) hi w), ow_partA hA (wants_none rfl) 20 (.agg (ints .u8 T)) (by kernel_rfl) rfl rfl rfl rfl (by kernel_rfl) 24 (.tmp 19) rfl ga (i * 32) (by kernel_rfl) 24 curA (ints .u8 T) _ _ Tryd.underlying24 KI.out (fun w1 hb => BA.under hb) KA.out rfl, ow_val hA (wants_none rfl) 21 (.slice (some ⟨gb, 0, none⟩) n cb) (by kernel_rfl) rfl rfl rfl rfl (by kernel_rfl) (fun w => by kernel_rfl), ow_val hA (wants_none rfl) 22 (.int .i64 (i : Int)) (by kernel_rfl) rfl rfl rfl rfl (by kernel_rfl) (fun w => by kernel_rfl), ow_val hA (wants_none rfl) 23 (.pointer (some ⟨gb, i * 32, none⟩)) (by kernel_rfl) rfl rfl rfl rfl (by kernel_rfl) (fun w => run_idxK (l := n) (c := cb) rfl (by kernel_rfl) (by kernel_rfl) hi w), ow_partA hA (wants_none rfl) 24 (.agg (ints .u8 T)) (by kernel_rfl) rfl rfl rfl rfl (by kernel_rfl) 24 (.tmp 23) rfl gb (i * 32) (by kernel_rfl) 24 curB (ints .u8 T) _ _ Tryd.underlying24 KI.out (fun w1 hb => BB.under hb) KB.out rfl, ow_val hA (wants_none rfl) 25 (.bool false) (by kernel_rfl) rfl rfl rfl rfl (by kernel_rfl) (fun w => by rw [run_neq_row T T rfl (by kernel_rfl) (by kernel_rfl) LT.out LT.out Tryd.underlying24 Tryd.underlying5 sz_u8 ag_u8 eg32]; rw [decide_eq_true rfl]; rfl), trivial⟩) ?_
      case hst1 => intro q hq; cases hq
      case hst2 => intro q hq; cases hq
      intro fv2 w9 hf hD hb9
      simp only [putR, List.foldl_cons, List.foldl_nil, List.map_cons, List.map_nil, Act.put, List.setIfInBounds_toArray, List.set_cons_succ, List.set_cons_zero]
      have HB9 := HB.trans (hb9.mono HB.size)
      clear hf hD BA BB HB hb9
      refine (show wpList _ _ _ [] _ _ from ?_)
      refine wpList_nil ?_
      go_wp2_with fail
      go_roundg (gk - 1)
      case measure => omega
      case rel => exact ⟨i + 1, by omega, by simp, HB9⟩
    case neg =>
      have hi' : ¬ (i : Int) < (n : Int) := by omega
      go_wp2_with fail
      go_ret
      exact ⟨rfl, HB⟩
end Go.Proofs.YthnkipicehppmaaDoor.sh
