/-
  What LadderPublic answers: true, whatever the secret is.
-/
import Derived.Test.YtjagicnkfmndeaaDoorD8
import Derived.Test.YtjagicnkfmndeaaDoorF2
import Derived.Test.YtjagicnkfmndeaaDoorL1
namespace Go.Proofs.YtjagicnkfmndeaaDoor
open Go Go.RowKit
set_option linter.unusedVariables false
set_option linter.unusedSimpArgs false

set_option maxHeartbeats 1000000 in
theorem public_any (k : Nat) (w : World) (lk : k < 115792089237316195423570985008687907853269984665640564039457584007913129639936) (hp : PrimeAt w) :
    Calls Tryd.prog 7 #[.agg (numA k)] w fun e w' => e = .returned (.bool true) ∧ Below w.heap.size w w' := by
  have LK : Kept _ := ⟨lk⟩
  have HP : Kept _ := ⟨hp⟩
  obtain ⟨r, hr⟩ : ∃ r, r = XN k 9 := ⟨_, rfl⟩
  have ER : Kept (r = XN k 9) := ⟨hr⟩
  have LR : Kept (r < 115792089237316195423570985008687907853269984665640564039457584007913129639936) := ⟨by rw [hr]; exact XN_lt _ _⟩
  clear lk hp hr
  go_enter Tryd.func7, Tryd.ntmps7
  go_wp2_with fail
  generalize hW : w.alloc (.cells (numA k) 22) = W
  have Ak : At W w.heap.size k := by subst hW; exact at_new w k
  have QB : Below w.heap.size w W := by subst hW; exact (Below.refl _ _).alloc (Nat.le_refl _) _
  clear hW
  refine (alive2_any _ (PrimeAt.below HP.out QB)).mono ?_
  rintro e w1 ⟨rfl, hb1⟩
  have Ak1 := Ak.under hb1
  have QB1 := QB.trans (hb1.mono QB.size)
  clear Ak QB hb1
  go_wp2_with (first | (refine wpList_get rfl (.tmp 1) rfl _ k rfl Ak1 ?_) | (refine l_build rfl 9 9 rfl rfl b9 ?_; simp only [Act.put, List.setIfInBounds_toArray, List.set_cons_succ, List.set_cons_zero]))
  have hc := rX_any k 9 w1 LK.out (by decide) (PrimeAt.below HP.out QB1)
  rw [← ER.out] at hc
  refine hc.mono ?_
  clear hc
  rintro e w2 ⟨rfl, hb2⟩
  have Ak2 := Ak1.under hb2
  have QB2 := QB1.trans (hb2.mono QB1.size)
  clear Ak1 QB1 hb2
  go_wp2_with (first | (refine wpList_put rfl (.tmp 3) (.tmp 8) rfl _ r rfl rfl (room_top _ _ rfl) ?_))
  intro w3 A3 P3
  have Fk := P3.at (Ak2.alloc _) (Nat.ne_of_lt Ak2.lt)
  have Fr := A3
  have QB3 : Below w.heap.size w w3 := (QB2.alloc QB2.size _).trans (P3.below QB2.size)
  have HQ : Kept _ := ⟨QB3⟩
  have HPW := PrimeAt.below HP.out QB3
  clear P3 Ak2 QB2 QB3 A3
  generalize w2.heap.size = g3 at *
  go_wp2_with fail
  have lk := LK.out
  have lr := LR.out
  generalize w3 = wc at *
  have C_ladder_Pub_k : ∀ w', Below wc.heap.size wc w' → Calls Tryd.prog 32 [.agg (numA k)].toArray w' fun e w2 => e = .returned (.agg (numA r)) ∧ Below wc.heap.size wc w2 := fun w' hb => by rw [ER.out]; exact (Pub_any k w' lk (PrimeAt.below HPW hb)).mono fun e w2 hh => ⟨hh.1, hb.trans (hh.2.mono hb.size)⟩
  refine wp_region_quiet (C := fun w' => Below wc.heap.size wc w') (by kernel_rfl) (by kernel_rfl) (Below.drew (Below.refl _ _)) ?_
  refine q_load (by kernel_rfl) 22 _ (w.heap.size) 22 (numA k) (0, 0) _ rfl (by kernel_rfl) (fun w' hb => At.under Fk hb) Tryd.underlying22 rfl (by rw [numA_size]; kernel_rfl) ?_
  simp only [Act.put, List.setIfInBounds_toArray, List.set_cons_succ, List.set_cons_zero]
  refine q_call (by kernel_rfl) 32 Tryd.f32 _ _ _ [.agg (numA k)] (.agg (numA r)) rfl (by kernel_rfl) Tryd.func32 (by kernel_rfl) rfl C_ladder_Pub_k ?_
  simp only [Act.put, List.setIfInBounds_toArray, List.set_cons_succ, List.set_cons_zero]
  refine q_load (by kernel_rfl) 22 _ (g3) 22 (numA r) (0, 0) _ rfl (by kernel_rfl) (fun w' hb => At.under Fr hb) Tryd.underlying22 rfl (by rw [numA_size]; kernel_rfl) ?_
  simp only [Act.put, List.setIfInBounds_toArray, List.set_cons_succ, List.set_cons_zero]
  refine q_val (by kernel_rfl) (.bool true) (fun w' => (run_eql_num (t := 22) (e := 5) r r rfl (by kernel_rfl) (by kernel_rfl) lr lr Tryd.underlying22 Tryd.underlying5 sz5 ag5 eqG w').trans (by rw [show decide (r = r) = true from decide_eq_true rfl])) ?_
  simp only [Act.put, List.setIfInBounds_toArray, List.set_cons_succ, List.set_cons_zero]
  refine q_val (by kernel_rfl) (.bool true) (fun w' => by kernel_rfl) ?_
  simp only [Act.put, List.setIfInBounds_toArray, List.set_cons_succ, List.set_cons_zero]
  refine wpQuiet_nil ?_
  intro w7 h7
  have H7 : Kept _ := ⟨h7⟩
  clear h7 Fk Fr HPW lk lr C_ladder_Pub_k
  go_wp2_with fail
  go_ret
  exact ⟨rfl, HQ.out.trans (Below.mono H7.out HQ.out.size)⟩
end Go.Proofs.YtjagicnkfmndeaaDoor
