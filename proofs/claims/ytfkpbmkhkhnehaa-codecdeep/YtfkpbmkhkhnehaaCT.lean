/-
  CodecOne.
-/
import Derived.Test.YtfkpbmkhkhnehaaCS
namespace Go.Proofs.Ytfkpbmkhkhnehaa.sh
open Go Go.RowKit
set_option linter.unusedVariables false
set_option linter.unusedSimpArgs false

theorem SplitN {s : List Nat} {w : World} (hs : Bytes s) (hL : s.length ≤ maxLen) (h : splitL s = none) :
    Calls Try.prog 14 #[.string (strOf s)] w fun e w' => (∃ V, e = .returned (.tuple #[.int .u8 0, V, .int .i64 4])) ∧ Below w.heap.size w w' := by
  refine (SplitD (w := w) hs hL).mono ?_
  rintro e w' ⟨⟨V, rfl, hr⟩, hb⟩
  unfold spK spE
  rw [h]
  exact ⟨⟨V, rfl⟩, hb⟩
theorem SplitS {s : List Nat} {k : Nat} {ll : List (List Nat)} {w : World} (hs : Bytes s) (hL : s.length ≤ maxLen) (h : splitL s = some (k, ll)) :
    Calls Try.prog 14 #[.string (strOf s)] w fun e w' => (∃ V, e = .returned (.tuple #[.int .u8 (k : Int), V, .int .i64 0]) ∧ ValsV V w' (strs ll)) ∧ Below w.heap.size w w' := by
  refine (SplitD (w := w) hs hL).mono ?_
  rintro e w' ⟨⟨V, rfl, hr⟩, hb⟩
  unfold spK spE spL at *
  rw [h] at hr ⊢
  exact ⟨⟨V, rfl, vrow_vals hr⟩, hb⟩
theorem split_none_of {s : List Nat} (hs : Bytes s) (h : ∀ k ll, ¬ Says s k ll) : splitL s = none := by
  cases e : splitL s with
  | none => rfl
  | some q => exact absurd ((splitL_says hs).1 e) (h q.1 q.2)
set_option maxRecDepth 100000 in
set_option maxHeartbeats 4000000 in
theorem one8 (s t : List Nat) (c0 : Int) (w : World) (hs : Bytes s) (hsL : s.length ≤ maxLen) (ht : Bytes t) (htL : t.length ≤ maxLen) (hc0 : (Lit.int .u8 c0).wf = true) :
    Calls Try.prog 6 #[.string (strOf s), .string (strOf t), .int .u8 c0] w fun e w' => e = .returned (.bool true) ∧ Below w.heap.size w w' := by
  obtain ⟨c, rfl, hc⟩ := nat_of_u8 hc0
  have CA := alive8 w
  obtain ⟨ls, hls⟩ : ∃ m, m = s.length := ⟨_, rfl⟩
  obtain ⟨lt, hlt⟩ : ∃ m, m = t.length := ⟨_, rfl⟩
  have KS : Kept _ := ⟨hls⟩
  have KT : Kept _ := ⟨hlt⟩
  have YS : Kept _ := ⟨hs⟩
  have YT : Kept _ := ⟨ht⟩
  have LS : Kept _ := ⟨hsL⟩
  have LT : Kept _ := ⟨htL⟩
  clear hs ht hsL htL hc0
  by_cases hb : 40000 < ls
  case pos =>
    have G1 : Kept (true = decide (40000 < ls)) := ⟨(decide_eq_true hb).symm⟩
    clear hls hlt
    go_enter Try.func6, Try.ntmps6
    go_wp2_with fail
    refine CA.mono ?_
    rintro e w1 ⟨rfl, q1⟩
    go_wp2_with (first | ((with_reducible refine wv_val (d := 22) ?hd ?hw (.int .i64 (ls : Int)) ?hr ?_); (case hd => rfl); (case hw => kernel_rfl); (case hr => intro w; exact run_slen rfl (by kernel_rfl) KS.out w); simp only [Act.put, List.setIfInBounds_toArray, List.set_cons_succ, List.set_cons_zero]) | ((with_reducible refine wv_val (d := 23) ?hd ?hw (.bool true) ?hr ?_); (case hd => rfl); (case hw => kernel_rfl); (case hr => intro w; exact run_gtrI 40000 rfl (by kernel_rfl) G1.out w); simp only [Act.put, List.setIfInBounds_toArray, List.set_cons_succ, List.set_cons_zero]))
    go_ret
    exact ⟨rfl, q1⟩
  case neg =>
    have G1 : Kept (false = decide (40000 < ls)) := ⟨(decide_eq_false hb).symm⟩
    by_cases hd : 40000 < lt
    case pos =>
      have G2 : Kept (true = decide (40000 < lt)) := ⟨(decide_eq_true hd).symm⟩
      clear hls hlt
      go_enter Try.func6, Try.ntmps6
      go_wp2_with fail
      refine CA.mono ?_
      rintro e w1 ⟨rfl, q1⟩
      go_wp2_with (first | ((with_reducible refine wv_val (d := 22) ?hd ?hw (.int .i64 (ls : Int)) ?hr ?_); (case hd => rfl); (case hw => kernel_rfl); (case hr => intro w; exact run_slen rfl (by kernel_rfl) KS.out w); simp only [Act.put, List.setIfInBounds_toArray, List.set_cons_succ, List.set_cons_zero]) | ((with_reducible refine wv_val (d := 23) ?hd ?hw (.bool false) ?hr ?_); (case hd => rfl); (case hw => kernel_rfl); (case hr => intro w; exact run_gtrI 40000 rfl (by kernel_rfl) G1.out w); simp only [Act.put, List.setIfInBounds_toArray, List.set_cons_succ, List.set_cons_zero]) | ((with_reducible refine wv_val (d := 26) ?hd ?hw (.int .i64 (lt : Int)) ?hr ?_); (case hd => rfl); (case hw => kernel_rfl); (case hr => intro w; exact run_slen rfl (by kernel_rfl) KT.out w); simp only [Act.put, List.setIfInBounds_toArray, List.set_cons_succ, List.set_cons_zero]) | ((with_reducible refine wv_val (d := 27) ?hd ?hw (.bool true) ?hr ?_); (case hd => rfl); (case hw => kernel_rfl); (case hr => intro w; exact run_gtrI 40000 rfl (by kernel_rfl) G2.out w); simp only [Act.put, List.setIfInBounds_toArray, List.set_cons_succ, List.set_cons_zero]))
      go_ret
      exact ⟨rfl, q1⟩
    case neg =>
      have G2 : Kept (false = decide (40000 < lt)) := ⟨(decide_eq_false hd).symm⟩
      have hlB : ls ≤ 40000 := by omega
      clear hls hlt hb hd
      cases es : splitL s with
      | none =>
        have C1 := fun w1 => SplitN (w := w1) YS.out LS.out es
        have C2 := fun w1 => SplitD (w := w1) YT.out LT.out
        unfold SPost at C2
        clear es
        go_enter Try.func6, Try.ntmps6
        go_wp2_with fail
        refine CA.mono ?_
        rintro e w1 ⟨rfl, q1⟩
        go_wp2_with (first | ((with_reducible refine wv_val (d := 22) ?hd ?hw (.int .i64 (ls : Int)) ?hr ?_); (case hd => rfl); (case hw => kernel_rfl); (case hr => intro w; exact run_slen rfl (by kernel_rfl) KS.out w); simp only [Act.put, List.setIfInBounds_toArray, List.set_cons_succ, List.set_cons_zero]) | ((with_reducible refine wv_val (d := 23) ?hd ?hw (.bool false) ?hr ?_); (case hd => rfl); (case hw => kernel_rfl); (case hr => intro w; exact run_gtrI 40000 rfl (by kernel_rfl) G1.out w); simp only [Act.put, List.setIfInBounds_toArray, List.set_cons_succ, List.set_cons_zero]) | ((with_reducible refine wv_val (d := 26) ?hd ?hw (.int .i64 (lt : Int)) ?hr ?_); (case hd => rfl); (case hw => kernel_rfl); (case hr => intro w; exact run_slen rfl (by kernel_rfl) KT.out w); simp only [Act.put, List.setIfInBounds_toArray, List.set_cons_succ, List.set_cons_zero]) | ((with_reducible refine wv_val (d := 27) ?hd ?hw (.bool false) ?hr ?_); (case hd => rfl); (case hw => kernel_rfl); (case hr => intro w; exact run_gtrI 40000 rfl (by kernel_rfl) G2.out w); simp only [Act.put, List.setIfInBounds_toArray, List.set_cons_succ, List.set_cons_zero]))
        refine (C1 w1).mono ?_
        rintro e w2 ⟨⟨V2, rfl⟩, q2⟩
        replace q2 := q1.trans (q2.mono q1.size)
        go_wp2_with fail
        refine (C2 w2).mono ?_
        rintro e w3 ⟨⟨V3, rfl, _⟩, q3⟩
        replace q3 := q2.trans (q3.mono q2.size)
        clear C1 C2 CA
        go_wp2_with fail
        go_ret
        exact ⟨rfl, q3⟩
      | some p =>
        obtain ⟨k, ll⟩ := p
        have hS := (splitL_says YS.out).1 es
        have C1 := fun w1 => SplitS (w := w1) YS.out LS.out es
        cases et : splitL t with
        | none =>
          have C2 := fun w1 => SplitN (w := w1) YT.out LT.out et
          clear es et hS
          go_enter Try.func6, Try.ntmps6
          go_wp2_with fail
          refine CA.mono ?_
          rintro e w1 ⟨rfl, q1⟩
          go_wp2_with (first | ((with_reducible refine wv_val (d := 22) ?hd ?hw (.int .i64 (ls : Int)) ?hr ?_); (case hd => rfl); (case hw => kernel_rfl); (case hr => intro w; exact run_slen rfl (by kernel_rfl) KS.out w); simp only [Act.put, List.setIfInBounds_toArray, List.set_cons_succ, List.set_cons_zero]) | ((with_reducible refine wv_val (d := 23) ?hd ?hw (.bool false) ?hr ?_); (case hd => rfl); (case hw => kernel_rfl); (case hr => intro w; exact run_gtrI 40000 rfl (by kernel_rfl) G1.out w); simp only [Act.put, List.setIfInBounds_toArray, List.set_cons_succ, List.set_cons_zero]) | ((with_reducible refine wv_val (d := 26) ?hd ?hw (.int .i64 (lt : Int)) ?hr ?_); (case hd => rfl); (case hw => kernel_rfl); (case hr => intro w; exact run_slen rfl (by kernel_rfl) KT.out w); simp only [Act.put, List.setIfInBounds_toArray, List.set_cons_succ, List.set_cons_zero]) | ((with_reducible refine wv_val (d := 27) ?hd ?hw (.bool false) ?hr ?_); (case hd => rfl); (case hw => kernel_rfl); (case hr => intro w; exact run_gtrI 40000 rfl (by kernel_rfl) G2.out w); simp only [Act.put, List.setIfInBounds_toArray, List.set_cons_succ, List.set_cons_zero]))
          refine (C1 w1).mono ?_
          rintro e w2 ⟨⟨V2, rfl, _⟩, q2⟩
          replace q2 := q1.trans (q2.mono q1.size)
          go_wp2_with fail
          refine (C2 w2).mono ?_
          rintro e w3 ⟨⟨V3, rfl⟩, q3⟩
          replace q3 := q2.trans (q3.mono q2.size)
          clear C1 C2 CA
          go_wp2_with fail
          go_ret
          exact ⟨rfl, q3⟩
        | some q =>
          obtain ⟨j, mm⟩ := q
          have hT := (splitL_says YT.out).1 et
          have C2 := fun w1 => SplitS (w := w1) YT.out LT.out et
          have hsl := says_len hS
          obtain ⟨l1, hl1⟩ : ∃ l1, l1 + 1 = ls := ⟨ls - 1, by rw [KS.out]; omega⟩
          obtain ⟨s1, hs1⟩ : ∃ s1, s1 = s ++ [c] := ⟨_, rfl⟩
          obtain ⟨s2, hs2⟩ : ∃ s2, s2 = s.take l1 := ⟨_, rfl⟩
          have Y1 : Bytes s1 := by rw [hs1]; exact snoc_bytes YS.out hc
          have Y2 : Bytes s2 := by rw [hs2]; exact YS.out.take l1
          have N1 : splitL s1 = none := split_none_of Y1 (fun j' m' h => says_more hS (by rw [← hs1]; exact h))
          have N2 : splitL s2 = none := split_none_of Y2 (fun j' m' h => says_fewer hS (n := l1) (by rw [hl1, KS.out]) (by rw [← hs2]; exact h))
          have C3 := fun w1 => SplitN (w := w1) Y1 (by rw [hs1, List.length_append, ← KS.out]; unfold maxLen; simp; omega) N1
          have C4 := fun w1 => SplitN (w := w1) Y2 (by rw [hs2, List.length_take, ← KS.out]; unfold maxLen; omega) N2
          have b1 := (says_bytes YS.out hS).2
          have b2 := (says_bytes YT.out hT).2
          have C5 : ∀ w1 a b, ValsV a w1 (strs ll) → ValsV b w1 (strs mm) → Calls Try.prog 16 #[a, b] w1 fun e w' => e = .returned (.bool (decide (ll = mm))) ∧ Below w1.heap.size w1 w' := fun w1 a b ha hb => SameD ha hb b1 b2 (by have := hS.2.1; unfold maxLen; omega)
          obtain ⟨F, hF⟩ : ∃ F, F = decide (ll = mm) := ⟨_, rfl⟩
          rw [← hF] at C5
          have KST : Kept ((s = t → k = j ∧ F = true) ∧ (s ≠ t → k = j → F = false)) := ⟨by
            refine ⟨fun h => ?_, fun h hkj => ?_⟩
            · rw [← h, es] at et
              cases et
              exact ⟨rfl, by rw [hF]; exact decide_eq_true rfl⟩
            · rw [hF]
              refine decide_eq_false (fun h2 => h ?_)
              rw [hS.1, hT.1, hkj, h2]⟩
          have E1 : Kept _ := ⟨hs1⟩
          have E2 : Kept _ := ⟨hs2⟩
          have EL : Kept (ls = l1 + 1) := ⟨hl1.symm⟩
          have B1 : s.length + [c].length < 4611686018427387904 := by rw [← KS.out]; simp; omega
          have Bl : l1 ≤ s.length := by rw [← KS.out]; omega
          have bl : ls < 4611686018427387904 := by omega
          have C1 : Kept _ := ⟨C1⟩
          have C2 : Kept _ := ⟨C2⟩
          have C3 : Kept _ := ⟨C3⟩
          have C4 : Kept _ := ⟨C4⟩
          have C5 : Kept _ := ⟨C5⟩
          clear es et hS hT hsl hl1 hs1 hs2 Y1 Y2 N1 N2 b1 b2 hF
          go_enter Try.func6, Try.ntmps6
          go_wp2_with fail
          refine CA.mono ?_
          rintro e w1 ⟨rfl, q1⟩
          go_wp2_with (first | ((with_reducible refine wv_val (d := 22) ?hd ?hw (.int .i64 (ls : Int)) ?hr ?_); (case hd => rfl); (case hw => kernel_rfl); (case hr => intro w; exact run_slen rfl (by kernel_rfl) KS.out w); simp only [Act.put, List.setIfInBounds_toArray, List.set_cons_succ, List.set_cons_zero]) | ((with_reducible refine wv_val (d := 23) ?hd ?hw (.bool false) ?hr ?_); (case hd => rfl); (case hw => kernel_rfl); (case hr => intro w; exact run_gtrI 40000 rfl (by kernel_rfl) G1.out w); simp only [Act.put, List.setIfInBounds_toArray, List.set_cons_succ, List.set_cons_zero]) | ((with_reducible refine wv_val (d := 26) ?hd ?hw (.int .i64 (lt : Int)) ?hr ?_); (case hd => rfl); (case hw => kernel_rfl); (case hr => intro w; exact run_slen rfl (by kernel_rfl) KT.out w); simp only [Act.put, List.setIfInBounds_toArray, List.set_cons_succ, List.set_cons_zero]) | ((with_reducible refine wv_val (d := 27) ?hd ?hw (.bool false) ?hr ?_); (case hd => rfl); (case hw => kernel_rfl); (case hr => intro w; exact run_gtrI 40000 rfl (by kernel_rfl) G2.out w); simp only [Act.put, List.setIfInBounds_toArray, List.set_cons_succ, List.set_cons_zero]))
          refine (C1.out w1).mono ?_
          rintro e w2 ⟨⟨V2, rfl, v2⟩, q2⟩
          replace q2 := q1.trans (q2.mono q1.size)
          go_wp2_with fail
          refine (C2.out w2).mono ?_
          rintro e w3 ⟨⟨V3, rfl, v3⟩, q3⟩
          have v2' := v2.under q3
          replace q3 := q2.trans (q3.mono q2.size)
          clear C1 C2 CA v2
          go_wp2_with (first | ((with_reducible refine wv_valW (d := 51) ?hd ?hw (.string (strOf [c])) ?hr ?_); (case hd => rfl); (case hw => kernel_rfl); (case hr => exact run_str rfl (by kernel_rfl) (one_bytes c w3)); simp only [Act.put, List.setIfInBounds_toArray, List.set_cons_succ, List.set_cons_zero]) | ((with_reducible refine wv_val (d := 52) ?hd ?hw (.string (strOf s1)) ?hr ?_); (case hd => rfl); (case hw => kernel_rfl); (case hr => intro w; exact run_scat rfl (by kernel_rfl) (by kernel_rfl) B1 E1.out w); simp only [Act.put, List.setIfInBounds_toArray, List.set_cons_succ, List.set_cons_zero]))
          have qa : Below w3.heap.size w3 (w3.alloc (.cells #[.int .u8 (c : Int)] 5)) := (Below.refl _ _).alloc (Nat.le_refl _) _
          refine (C3.out _).mono ?_
          rintro e w4 ⟨⟨V4, rfl⟩, q4⟩
          replace q4 := qa.trans (q4.mono qa.size)
          have v24 := v2'.under q4
          have v34 := v3.under q4
          replace q4 := q3.trans (q4.mono q3.size)
          clear qa v2' v3 C3
          go_wp2_with (first | ((with_reducible refine wv_val (d := 60) ?hd ?hw (.int .i64 (ls : Int)) ?hr ?_); (case hd => rfl); (case hw => kernel_rfl); (case hr => intro w; exact run_slen rfl (by kernel_rfl) KS.out w); simp only [Act.put, List.setIfInBounds_toArray, List.set_cons_succ, List.set_cons_zero]) | ((with_reducible refine wv_val (d := 61) ?hd ?hw (.int .i64 (l1 : Int)) ?hr ?_); (case hd => rfl); (case hw => kernel_rfl); (case hr => intro w; exact run_subZ 1 rfl (by kernel_rfl) EL.out bl w); simp only [Act.put, List.setIfInBounds_toArray, List.set_cons_succ, List.set_cons_zero]) | ((with_reducible refine wv_val (d := 62) ?hd ?hw (.string (strOf s2)) ?hr ?_); (case hd => rfl); (case hw => kernel_rfl); (case hr => intro w; exact run_scutT rfl (by kernel_rfl) (by kernel_rfl) Bl E2.out w); simp only [Act.put, List.setIfInBounds_toArray, List.set_cons_succ, List.set_cons_zero]))
          refine (C4.out _).mono ?_
          rintro e w5 ⟨⟨V5, rfl⟩, q5⟩
          have v25 := v24.under q5
          have v35 := v34.under q5
          replace q5 := q4.trans (q5.mono q4.size)
          clear C4 v24 v34
          by_cases hst : s = t
          case pos =>
            obtain ⟨h1, h2⟩ := KST.out.1 hst
            subst h2
            have K1 : Kept (true = decide (s = t)) := ⟨(decide_eq_true hst).symm⟩
            have K2 : Kept (true = decide (k = j)) := ⟨(decide_eq_true h1).symm⟩
            clear hst h1 KST
            go_wp2_with (first | ((with_reducible refine wv_val (d := 69) ?hd ?hw (.bool true) ?hr ?_); (case hd => rfl); (case hw => kernel_rfl); (case hr => intro w; exact run_seq rfl (by kernel_rfl) (by kernel_rfl) YS.out YT.out K1.out w); simp only [Act.put, List.setIfInBounds_toArray, List.set_cons_succ, List.set_cons_zero]) | ((with_reducible refine wv_val (d := 72) ?hd ?hw (.bool true) ?hr ?_); (case hd => rfl); (case hw => kernel_rfl); (case hr => intro w; exact run_eqU rfl (by kernel_rfl) (by kernel_rfl) K2.out w); simp only [Act.put, List.setIfInBounds_toArray, List.set_cons_succ, List.set_cons_zero]))
            refine (C5.out w5 V2 V3 v25 v35).mono ?_
            rintro e w6 ⟨rfl, q6⟩
            go_wp2_with fail
            go_ret
            exact ⟨rfl, q5.trans (q6.mono q5.size)⟩
          case neg =>
            have K1 : Kept (false = decide (s = t)) := ⟨(decide_eq_false hst).symm⟩
            by_cases hkj : k = j
            case neg =>
              have K2 : Kept (false = decide (k = j)) := ⟨(decide_eq_false hkj).symm⟩
              clear hst hkj KST
              go_wp2_with (first | ((with_reducible refine wv_val (d := 69) ?hd ?hw (.bool false) ?hr ?_); (case hd => rfl); (case hw => kernel_rfl); (case hr => intro w; exact run_seq rfl (by kernel_rfl) (by kernel_rfl) YS.out YT.out K1.out w); simp only [Act.put, List.setIfInBounds_toArray, List.set_cons_succ, List.set_cons_zero]) | ((with_reducible refine wv_val (d := 72) ?hd ?hw (.bool false) ?hr ?_); (case hd => rfl); (case hw => kernel_rfl); (case hr => intro w; exact run_eqU rfl (by kernel_rfl) (by kernel_rfl) K2.out w); simp only [Act.put, List.setIfInBounds_toArray, List.set_cons_succ, List.set_cons_zero]))
              go_ret
              exact ⟨rfl, q5⟩
            case pos =>
              have h2 := KST.out.2 hst hkj
              subst h2
              have K2 : Kept (true = decide (k = j)) := ⟨(decide_eq_true hkj).symm⟩
              clear hst hkj KST
              go_wp2_with (first | ((with_reducible refine wv_val (d := 69) ?hd ?hw (.bool false) ?hr ?_); (case hd => rfl); (case hw => kernel_rfl); (case hr => intro w; exact run_seq rfl (by kernel_rfl) (by kernel_rfl) YS.out YT.out K1.out w); simp only [Act.put, List.setIfInBounds_toArray, List.set_cons_succ, List.set_cons_zero]) | ((with_reducible refine wv_val (d := 72) ?hd ?hw (.bool true) ?hr ?_); (case hd => rfl); (case hw => kernel_rfl); (case hr => intro w; exact run_eqU rfl (by kernel_rfl) (by kernel_rfl) K2.out w); simp only [Act.put, List.setIfInBounds_toArray, List.set_cons_succ, List.set_cons_zero]))
              refine (C5.out w5 V2 V3 v25 v35).mono ?_
              rintro e w6 ⟨rfl, q6⟩
              go_wp2_with fail
              go_ret
              exact ⟨rfl, q5.trans (q6.mono q5.size)⟩
end Go.Proofs.Ytfkpbmkhkhnehaa.sh
