/-
  CodecSplits.
-/
import Derived.Test.YtfkpbmkhkhnehaaCQ
namespace Go.Proofs.Ytfkpbmkhkhnehaa.sh
open Go Go.RowKit
set_option linter.unusedVariables false
set_option linter.unusedSimpArgs false

theorem spL_bytes {s : List Nat} (hs : Bytes s) : ∀ l ∈ spL s, Bytes l := by
  unfold spL
  cases e : splitL s with
  | none => intro l hl; cases hl
  | some q =>
    obtain ⟨k, ll⟩ := q
    exact (says_bytes hs ((splitL_says hs).1 e)).2
theorem spL_len {s : List Nat} (hs : Bytes s) : (spL s).length ≤ 255 := by
  unfold spL
  cases e : splitL s with
  | none => exact Nat.zero_le _
  | some q =>
    obtain ⟨k, ll⟩ := q
    exact ((splitL_says hs).1 e).2.1
theorem tkE_split {s : List Nat} {k j : Nat} {ll : List (List Nat)} (h : splitL s = some (j, ll)) (n : Int) : tkE s k n = (if j = k ∧ (ll.length : Int) = n then 0 else 4) ∧ tkL s k n = if j = k ∧ (ll.length : Int) = n then ll else [] := by
  unfold tkE tkL takeL
  rw [h]
  show (if (if j = k ∧ (ll.length : Int) = n then some ll else none).isSome then 0 else 4) = _ ∧ (if j = k ∧ (ll.length : Int) = n then some ll else none).getD [] = _
  by_cases hc : j = k ∧ (ll.length : Int) = n
  · simp [hc]
  · simp [hc]
theorem tkE_none {s : List Nat} {k : Nat} (h : splitL s = none) (n : Int) : tkE s k n = 4 ∧ tkL s k n = [] := by
  unfold tkE tkL takeL
  rw [h]
  exact ⟨rfl, rfl⟩
set_option maxRecDepth 100000 in
set_option maxHeartbeats 4000000 in
theorem splits8 (s : List Nat) (k0 z : Int) (w : World) (hs : Bytes s) (hL : s.length ≤ maxLen) (hk0 : (Lit.int .u8 k0).wf = true) (hz : (Lit.int .i64 z).wf = true) :
    Calls Try.prog 4 #[.string (strOf s), .int .u8 k0, .int .i64 z] w fun e w' => e = .returned (.bool true) ∧ Below w.heap.size w w' := by
  obtain ⟨k, rfl, hk⟩ := nat_of_u8 hk0
  have CA := alive8 w
  obtain ⟨m, hm⟩ : ∃ m, m = s.length := ⟨_, rfl⟩
  have KM : Kept _ := ⟨hm⟩
  have YS : Kept _ := ⟨hs⟩
  have KL : Kept _ := ⟨hL⟩
  clear hs hL hz
  by_cases hb : 40000 < m
  case pos =>
    have hb' : (40000 : Int) < (m : Int) := by omega
    clear hm
    go_enter Try.func4, Try.ntmps4
    go_wp2_with fail
    refine CA.mono ?_
    rintro e w1 ⟨rfl, q1⟩
    go_wp2_with (first | ((with_reducible refine wv_val (d := 19) ?hd ?hw (.int .i64 (m : Int)) ?hr ?_); (case hd => rfl); (case hw => kernel_rfl); (case hr => intro w; exact run_slen rfl (by kernel_rfl) KM.out w); simp only [Act.put, List.setIfInBounds_toArray, List.set_cons_succ, List.set_cons_zero]))
    go_ret
    exact ⟨rfl, q1⟩
  case neg =>
    have hb' : ¬ (40000 : Int) < (m : Int) := by omega
    have C1 := fun w1 => SplitD (w := w1) YS.out KL.out
    have C2 := fun w1 => rSplitD (w := w1) YS.out (by omega)
    have C3 := fun w1 => TakeD (k := k) (n := z) (w := w1) YS.out KL.out
    have C4 : ∀ w1 a b, ValsV a w1 (strs (spL s)) → ValsV b w1 (strs (spL s)) → Calls Try.prog 16 #[a, b] w1 fun e w' => e = .returned (.bool true) ∧ Below w1.heap.size w1 w' := fun w1 a b ha hb => by
      have := SameD ha hb (spL_bytes YS.out) (spL_bytes YS.out) (Nat.le_trans (spL_len YS.out) (by decide))
      rwa [decide_eq_true rfl] at this
    unfold SPost at C1 C2
    unfold TPost at C3
    obtain ⟨K, hK⟩ : ∃ K, K = spK s := ⟨_, rfl⟩
    obtain ⟨E, hE⟩ : ∃ K, K = spE s := ⟨_, rfl⟩
    obtain ⟨L, hLL⟩ : ∃ K, K = spL s := ⟨_, rfl⟩
    obtain ⟨r, hr⟩ : ∃ K, K = tkE s k z := ⟨_, rfl⟩
    obtain ⟨T, hT⟩ : ∃ K, K = tkL s k z := ⟨_, rfl⟩
    rw [← hK, ← hE, ← hLL] at C1 C2
    rw [← hr, ← hT] at C3
    rw [← hLL] at C4
    obtain ⟨n, hn⟩ : ∃ n, n = L.length := ⟨_, rfl⟩
    have KF : Kept ((E = 4 ∧ r = 4 ∧ T = []) ∨ (E = 0 ∧ (K = k → (n : Int) = z → r = 0 ∧ T = L) ∧ (¬ (K = k ∧ (n : Int) = z) → r = 4 ∧ T = []))) := ⟨by
      rw [hE, hr, hT, hK, hn, hLL]
      cases e : splitL s with
      | none =>
        left
        exact ⟨by unfold spE; rw [e]; rfl, (tkE_none e z).1, (tkE_none e z).2⟩
      | some q =>
        obtain ⟨j, ll⟩ := q
        right
        have h := tkE_split (k := k) e z
        have h1 : spK s = j := by unfold spK; rw [e]; rfl
        have h2 : spL s = ll := by unfold spL; rw [e]; rfl
        rw [h1, h2, h.1, h.2]
        refine ⟨by unfold spE; rw [e]; rfl, fun a b => ?_, fun a => ?_⟩
        · rw [if_pos ⟨a, b⟩, if_pos ⟨a, b⟩]; exact ⟨rfl, rfl⟩
        · rw [if_neg a, if_neg a]; exact ⟨rfl, rfl⟩⟩
    have C1 : Kept _ := ⟨C1⟩
    have C2 : Kept _ := ⟨C2⟩
    have C3 : Kept _ := ⟨C3⟩
    have C4 : Kept _ := ⟨C4⟩
    have HN : Kept _ := ⟨hn⟩
    have KU : Kept (false = !decide (K = K)) := ⟨by simp⟩
    have KE : Kept (false = !decide ((E : Int) = (E : Int))) := ⟨by simp⟩
    clear hm hK hE hLL hr hT hn
    go_enter Try.func4, Try.ntmps4
    go_wp2_with fail
    refine CA.mono ?_
    rintro e w1 ⟨rfl, q1⟩
    go_wp2_with (first | ((with_reducible refine wv_val (d := 19) ?hd ?hw (.int .i64 (m : Int)) ?hr ?_); (case hd => rfl); (case hw => kernel_rfl); (case hr => intro w; exact run_slen rfl (by kernel_rfl) KM.out w); simp only [Act.put, List.setIfInBounds_toArray, List.set_cons_succ, List.set_cons_zero]))
    refine (C1.out w1).mono ?_
    rintro e w2 ⟨⟨V2, rfl, r2⟩, q2⟩
    have v2 := vrow_vals r2
    replace q2 := q1.trans (q2.mono q1.size)
    go_wp2_with fail
    refine (C2.out w2).mono ?_
    rintro e w3 ⟨⟨V3, rfl, r3⟩, q3⟩
    have v3 := vrow_vals r3
    have v23 := v2.under q3
    replace q3 := q2.trans (q3.mono q2.size)
    go_wp2_with fail
    refine (C3.out w3).mono ?_
    rintro e w4 ⟨⟨V4, rfl, r4⟩, q4⟩
    have v4 := vrow_vals r4
    have v34 := v3.under q4
    have v24 := v23.under q4
    replace q4 := q3.trans (q4.mono q3.size)
    clear C1 C2 C3 CA r2 r3 r4 v2 v3 v23
    go_wp2_with (first | ((with_reducible refine wv_val (d := 42) ?hd ?hw (.bool false) ?hr ?_); (case hd => rfl); (case hw => kernel_rfl); (case hr => intro w; exact run_neU rfl (by kernel_rfl) (by kernel_rfl) KU.out w); simp only [Act.put, List.setIfInBounds_toArray, List.set_cons_succ, List.set_cons_zero]))
    refine (C4.out w4 V2 V3 v24 v34).mono ?_
    rintro e w5 ⟨rfl, q5⟩
    have v45 := v4.under q5
    have v35 := v34.under q5
    replace q5 := q4.trans (q5.mono q4.size)
    clear v4 v34 v24
    obtain ⟨p3, c3, rfl, hc3⟩ := vals_form v35 ((strs_len L).trans HN.out.symm)
    have K35 : Kept _ := ⟨v35⟩
    have K45 : Kept _ := ⟨v45⟩
    clear v35 v45
    rcases KF.out with ⟨h1, h2, h3⟩ | ⟨h1, h2, h3⟩
    · subst h1 h2 h3
      obtain ⟨p4, c4, rfl, hc4⟩ := vals_form K45.out (n := 0) rfl
      clear KF K45 K35 C4
      go_wp2_with (first | ((with_reducible refine wv_val (d := 52) ?hd ?hw (.bool false) ?hr ?_); (case hd => rfl); (case hw => kernel_rfl); (case hr => intro w; exact run_neI rfl (by kernel_rfl) (by kernel_rfl) KE.out w); simp only [Act.put, List.setIfInBounds_toArray, List.set_cons_succ, List.set_cons_zero]))
      go_ret
      exact ⟨rfl, q5⟩
    · subst h1
      have F1 : Kept _ := ⟨h2⟩
      have F2 : Kept _ := ⟨h3⟩
      clear KF h2 h3
      by_cases hKk : K = k
      case neg =>
        obtain ⟨g1, g2⟩ := F2.out (fun h => hKk h.1)
        subst g1 g2
        obtain ⟨p4, c4, rfl, hc4⟩ := vals_form K45.out (n := 0) rfl
        have KB : Kept (false = decide (K = k)) := ⟨(decide_eq_false hKk).symm⟩
        clear K45 K35 C4 hKk F1 F2
        go_wp2_with (first | ((with_reducible refine wv_val (d := 52) ?hd ?hw (.bool false) ?hr ?_); (case hd => rfl); (case hw => kernel_rfl); (case hr => intro w; exact run_neI rfl (by kernel_rfl) (by kernel_rfl) KE.out w); simp only [Act.put, List.setIfInBounds_toArray, List.set_cons_succ, List.set_cons_zero]) | ((with_reducible refine wv_val (d := 59) ?hd ?hw (.bool false) ?hr ?_); (case hd => rfl); (case hw => kernel_rfl); (case hr => intro w; exact run_eqU rfl (by kernel_rfl) (by kernel_rfl) KB.out w); simp only [Act.put, List.setIfInBounds_toArray, List.set_cons_succ, List.set_cons_zero]))
        go_ret
        exact ⟨rfl, q5⟩
      case pos =>
        have KB : Kept (true = decide (K = k)) := ⟨(decide_eq_true hKk).symm⟩
        by_cases hnz : (n : Int) = z
        case neg =>
          obtain ⟨g1, g2⟩ := F2.out (fun h => hnz h.2)
          subst g1 g2
          obtain ⟨p4, c4, rfl, hc4⟩ := vals_form K45.out (n := 0) rfl
          have KZ : Kept (false = decide ((n : Int) = z)) := ⟨(decide_eq_false hnz).symm⟩
          clear K45 K35 C4 hKk F1 F2 hnz
          go_wp2_with (first | ((with_reducible refine wv_val (d := 52) ?hd ?hw (.bool false) ?hr ?_); (case hd => rfl); (case hw => kernel_rfl); (case hr => intro w; exact run_neI rfl (by kernel_rfl) (by kernel_rfl) KE.out w); simp only [Act.put, List.setIfInBounds_toArray, List.set_cons_succ, List.set_cons_zero]) | ((with_reducible refine wv_val (d := 59) ?hd ?hw (.bool true) ?hr ?_); (case hd => rfl); (case hw => kernel_rfl); (case hr => intro w; exact run_eqU rfl (by kernel_rfl) (by kernel_rfl) KB.out w); simp only [Act.put, List.setIfInBounds_toArray, List.set_cons_succ, List.set_cons_zero]) | ((with_reducible refine wv_val (d := 65) ?hd ?hw (.bool false) ?hr ?_); (case hd => rfl); (case hw => kernel_rfl); (case hr => intro w; exact run_eqII rfl (by kernel_rfl) (by kernel_rfl) KZ.out w); simp only [Act.put, List.setIfInBounds_toArray, List.set_cons_succ, List.set_cons_zero]))
          go_ret
          exact ⟨rfl, q5⟩
        case pos =>
          obtain ⟨g1, g2⟩ := F1.out hKk hnz
          subst g1
          have K45' : Kept (ValsV V4 w5 (strs L)) := ⟨by have := K45.out; rwa [g2] at this⟩
          have KZ : Kept (true = decide ((n : Int) = z)) := ⟨(decide_eq_true hnz).symm⟩
          clear K45 hKk F1 F2 hnz g2
          go_wp2_with (first | ((with_reducible refine wv_val (d := 52) ?hd ?hw (.bool false) ?hr ?_); (case hd => rfl); (case hw => kernel_rfl); (case hr => intro w; exact run_neI rfl (by kernel_rfl) (by kernel_rfl) KE.out w); simp only [Act.put, List.setIfInBounds_toArray, List.set_cons_succ, List.set_cons_zero]) | ((with_reducible refine wv_val (d := 59) ?hd ?hw (.bool true) ?hr ?_); (case hd => rfl); (case hw => kernel_rfl); (case hr => intro w; exact run_eqU rfl (by kernel_rfl) (by kernel_rfl) KB.out w); simp only [Act.put, List.setIfInBounds_toArray, List.set_cons_succ, List.set_cons_zero]) | ((with_reducible refine wv_val (d := 65) ?hd ?hw (.bool true) ?hr ?_); (case hd => rfl); (case hw => kernel_rfl); (case hr => intro w; exact run_eqII rfl (by kernel_rfl) (by kernel_rfl) KZ.out w); simp only [Act.put, List.setIfInBounds_toArray, List.set_cons_succ, List.set_cons_zero]))
          refine (C4.out w5 V4 (.slice p3 n c3) K45'.out K35.out).mono ?_
          rintro e w6 ⟨rfl, q6⟩
          go_wp2_with fail
          go_ret
          exact ⟨rfl, q5.trans (q6.mono q5.size)⟩
end Go.Proofs.Ytfkpbmkhkhnehaa.sh
