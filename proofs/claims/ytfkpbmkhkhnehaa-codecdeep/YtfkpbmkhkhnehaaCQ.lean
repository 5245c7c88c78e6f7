/-
  CodecJoins.
-/
import Derived.Test.YtfkpbmkhkhnehaaCP
namespace Go.Proofs.Ytfkpbmkhkhnehaa.sh
open Go Go.RowKit
set_option linter.unusedVariables false
set_option linter.unusedSimpArgs false

theorem joinS_bytes {k : Nat} {ll : List (List Nat)} (hk : k < 256) (hl : ∀ l ∈ ll, Bytes l) : Bytes (joinS k ll) := by
  unfold joinS
  split
  · next h => exact joinL_bytes hk hl h
  · exact nil_bytes
theorem SplitJ {k : Nat} {ll : List (List Nat)} {w : World} (hF : Fits ll) (hy : Bytes (joinL k ll)) :
    Calls Try.prog 14 #[.string (strOf (joinL k ll))] w fun e w' => (∃ V, e = .returned (.tuple #[.int .u8 (k : Int), V, .int .i64 0]) ∧ ValsV V w' (strs ll)) ∧ Below w.heap.size w w' := by
  have h := SplitD (w := w) hy (join_lenB hF)
  refine h.mono ?_
  rintro e w' ⟨⟨V, rfl, hr⟩, hb⟩
  unfold spK spE spL at *
  rw [splitL_join hF] at hr ⊢
  exact ⟨⟨V, rfl, vrow_vals hr⟩, hb⟩
set_option maxRecDepth 100000 in
set_option maxHeartbeats 4000000 in
theorem joins8 (k0 : Int) (v : Value) (ll : List (List Nat)) (z : Int) (w : World) (hk0 : (Lit.int .u8 k0).wf = true) (hv : ValsV v w (strs ll)) (hl : ∀ l ∈ ll, Bytes l ∧ l.length ≤ maxLen) (hN : ll.length ≤ maxLen) (hz : (Lit.int .i64 z).wf = true) :
    Calls Try.prog 3 #[.int .u8 k0, v, .int .i64 z] w fun e w' => e = .returned (.bool true) ∧ Below w.heap.size w w' := by
  obtain ⟨k, rfl, hk⟩ := nat_of_u8 hk0
  have CA := alive8 w
  have CF : Kept (∀ w1, Below w.heap.size w w1 → Calls Try.prog 11 #[v] w1 fun e w' => IsBool e ∧ w' = w1) := ⟨fun w1 h => fewD (hv.under h) hN⟩
  have CJ : Kept (∀ w1, Below w.heap.size w w1 → Calls Try.prog 12 #[.int .u8 (k : Int), v] w1 fun e w' => e = .returned (.tuple #[.string (strOf (joinS k ll)), .int .i64 (joinE ll : Int)]) ∧ Below w1.heap.size w1 w') := ⟨fun w1 h => JoinD hk (hv.under h) hl⟩
  have CR : Kept (∀ w1, Below w.heap.size w w1 → Calls Try.prog 13 #[.int .u8 (k : Int), v] w1 fun e w' => e = .returned (.tuple #[.string (strOf (joinS k ll)), .int .i64 (joinE ll : Int)]) ∧ Below w1.heap.size w1 w') := ⟨fun w1 h => rJoinD hk (hv.under h) hl⟩
  have CS : Kept (∀ w1 V, Below w.heap.size w w1 → ValsV V w1 (strs ll) → Calls Try.prog 16 #[v, V] w1 fun e w' => e = .returned (.bool true) ∧ Below w1.heap.size w1 w') := ⟨fun w1 V h hV => by
    have := SameD (hv.under h) hV (fun l hm => (hl l hm).1) (fun l hm => (hl l hm).1) hN
    rwa [decide_eq_true rfl] at this⟩
  have CS2 : Kept (∀ w1 V, Below w.heap.size w w1 → ValsV V w1 (strs ll) → Calls Try.prog 16 #[V, v] w1 fun e w' => e = .returned (.bool true) ∧ Below w1.heap.size w1 w') := ⟨fun w1 V h hV => by
    have := SameD hV (hv.under h) (fun l hm => (hl l hm).1) (fun l hm => (hl l hm).1) hN
    rwa [decide_eq_true rfl] at this⟩
  obtain ⟨p, c, rfl, hc⟩ := vals_form hv (strs_len ll)
  obtain ⟨n, hn⟩ : ∃ n, n = ll.length := ⟨_, rfl⟩
  rw [← hn] at hv hc CF CJ CR CS CS2 hN ⊢
  have HN : Kept _ := ⟨hn⟩
  have HL : Kept _ := ⟨hl⟩
  have YJ : Kept _ := ⟨joinS_bytes hk (fun l hm => (hl l hm).1)⟩
  clear hv hl hn hz
  go_enter Try.func3, Try.ntmps3
  go_wp2_with fail
  refine CA.mono ?_
  rintro e w1 ⟨rfl, q1⟩
  go_wp2_with fail
  refine (CF.out _ q1).mono ?_
  rintro e w2 ⟨⟨b, rfl⟩, hw2⟩
  obtain rfl := hw2.symm
  cases b with
  | false =>
    go_wp2_with fail
    go_ret
    exact ⟨rfl, q1⟩
  | true =>
    go_wp2_with fail
    refine (CJ.out _ q1).mono ?_
    rintro e w3 ⟨rfl, q3⟩
    replace q3 := q1.trans (q3.mono q1.size)
    go_wp2_with fail
    refine (CR.out _ q3).mono ?_
    rintro e w4 ⟨rfl, q4⟩
    replace q4 := q3.trans (q4.mono q3.size)
    clear CA CF CJ CR
    by_cases hF : Fits ll
    case neg =>
      rw [joinS_not hF, joinE_not hF]
      have KE : Kept (false = !decide (([] : List Nat) = [])) := ⟨rfl⟩
      clear hF
      go_wp2_with (first | ((with_reducible refine wv_val (d := 35) ?hd ?hw (.bool false) ?hr ?_); (case hd => rfl); (case hw => kernel_rfl); (case hr => intro w; exact run_sneq (l := []) (m := []) rfl (by kernel_rfl) (by kernel_rfl) nil_bytes nil_bytes KE.out w); simp only [Act.put, List.setIfInBounds_toArray, List.set_cons_succ, List.set_cons_zero]))
      go_ret
      exact ⟨rfl, q4⟩
    case pos =>
      rw [joinS_fits hF, joinE_fits hF]
      have hy := joinL_bytes hk (fun l hm => (HL.out l hm).1) hF
      have hb := join_lenB (k := k) hF
      have T0 := fun w1 => SplitJ (w := w1) hF hy
      have hT := tkE_join (k := k) hF k z
      have hTL := tkL_join (k := k) hF k z
      obtain ⟨J, hJ⟩ : ∃ J, J = joinL k ll := ⟨_, rfl⟩
      rw [← hJ] at hT hTL hy hb T0 ⊢
      obtain ⟨r1, hr1⟩ : ∃ r1, r1 = tkE J k z := ⟨_, rfl⟩
      have T1 := fun w1 => TakeE (w := w1) hy hb hr1.symm
      have K1 : Kept ((z = (n : Int) → r1 = 0 ∧ tkL J k z = ll) ∧ (z ≠ (n : Int) → r1 = 4)) := ⟨by
        rw [hr1, hT]
        exact ⟨fun h => ⟨if_pos ⟨rfl, by rw [h, HN.out]⟩, hTL ⟨rfl, by rw [h, HN.out]⟩⟩, fun h => if_neg (fun h2 => h (by rw [← h2.2, HN.out]))⟩⟩
      have T0 : Kept _ := ⟨T0⟩
      have T1 : Kept _ := ⟨T1⟩
      have KE : Kept (false = !decide (J = J)) := ⟨by simp⟩
      have KJ : Kept _ := ⟨hy⟩
      have KB : Kept (true = decide (k = k)) := ⟨by simp⟩
      clear hT hTL hr1 hy hb hJ hF YJ
      go_wp2_with (first | ((with_reducible refine wv_val (d := 35) ?hd ?hw (.bool false) ?hr ?_); (case hd => rfl); (case hw => kernel_rfl); (case hr => intro w; exact run_sneq rfl (by kernel_rfl) (by kernel_rfl) KJ.out KJ.out KE.out w); simp only [Act.put, List.setIfInBounds_toArray, List.set_cons_succ, List.set_cons_zero]))
      refine (T0.out w4).mono ?_
      rintro e w5 ⟨⟨V5, rfl, hV5⟩, q5⟩
      replace q5 := q4.trans (q5.mono q4.size)
      go_wp2_with fail
      refine (T1.out w5).mono ?_
      rintro e w6 ⟨⟨V6, rfl, hV6⟩, q6⟩
      have hV5' := hV5.under q6
      replace q6 := q5.trans (q6.mono q5.size)
      have KV6 : Kept _ := ⟨vrow_vals hV6⟩
      clear hV6 hV5 T0 T1
      go_wp2_with (first | ((with_reducible refine wv_val (d := 58) ?hd ?hw (.bool true) ?hr ?_); (case hd => rfl); (case hw => kernel_rfl); (case hr => intro w; exact run_eqU rfl (by kernel_rfl) (by kernel_rfl) KB.out w); simp only [Act.put, List.setIfInBounds_toArray, List.set_cons_succ, List.set_cons_zero]))
      refine (CS.out w6 V5 q6 hV5').mono ?_
      rintro e w7 ⟨rfl, q7⟩
      have q7' := q6.trans (q7.mono q6.size)
      by_cases hzn : z = (n : Int)
      case pos =>
        obtain ⟨h1, h2⟩ := K1.out.1 hzn
        subst h1
        have KT : Kept (ValsV V6 w7 (strs ll)) := ⟨by have := KV6.out.under q7; rwa [h2] at this⟩
        have KZ : Kept (true = decide (z = (n : Int))) := ⟨(decide_eq_true hzn).symm⟩
        clear hzn K1 h2 KV6
        go_wp2_with (first | ((with_reducible refine wv_val (d := 74) ?hd ?hw (.bool true) ?hr ?_); (case hd => rfl); (case hw => kernel_rfl); (case hr => intro w; exact run_eqII rfl (by kernel_rfl) (by kernel_rfl) KZ.out w); simp only [Act.put, List.setIfInBounds_toArray, List.set_cons_succ, List.set_cons_zero]))
        refine (CS2.out w7 V6 q7' KT.out).mono ?_
        rintro e w8 ⟨rfl, q8⟩
        go_wp2_with fail
        go_ret
        exact ⟨rfl, q7'.trans (q8.mono q7'.size)⟩
      case neg =>
        have h1 := K1.out.2 hzn
        subst h1
        have KZ : Kept (false = decide (z = (n : Int))) := ⟨(decide_eq_false hzn).symm⟩
        clear hzn K1 KV6
        go_wp2_with (first | ((with_reducible refine wv_val (d := 74) ?hd ?hw (.bool false) ?hr ?_); (case hd => rfl); (case hw => kernel_rfl); (case hr => intro w; exact run_eqII rfl (by kernel_rfl) (by kernel_rfl) KZ.out w); simp only [Act.put, List.setIfInBounds_toArray, List.set_cons_succ, List.set_cons_zero]))
        go_ret
        exact ⟨rfl, q7'⟩
end Go.Proofs.Ytfkpbmkhkhnehaa.sh
