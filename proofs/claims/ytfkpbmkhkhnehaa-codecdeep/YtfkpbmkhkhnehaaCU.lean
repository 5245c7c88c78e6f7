/-
  CodecSizes.
-/
import Derived.Test.YtfkpbmkhkhnehaaCT
namespace Go.Proofs.Ytfkpbmkhkhnehaa.sh
open Go Go.RowKit
set_option linter.unusedVariables false
set_option linter.unusedSimpArgs false

theorem wrap_in (x : Int) (h0 : -9223372036854775808 ≤ x) (h1 : x ≤ 9223372036854775807) : wrap64 x = x := by
  unfold wrap64
  omega
theorem run_gtrZ {o : Oper} {a : Act} {x : Operand} {m : Int} {b : Bool} (c : Nat) (ho : o.op = .binOp .gtr 3 x (.const (.int .i64 (c : Int))) 3) (hx : a.eval x = .int .i64 m) (hb : b = decide ((c : Int) < m)) (w : World) : (execOp a.eval o).run Try.prog w = .ok (.value (.bool b)) w := by
  have e3 : a.eval (.const (.int .i64 (c : Int))) = .int .i64 (c : Int) := rfl
  unfold execOp
  simp only [ho, hx, e3]
  rw [hb]
  by_cases h : (c : Int) < m
  · simp [go_sem, h]
  · simp [go_sem, h]
theorem run_addXY {o : Oper} {a : Act} {x y : Operand} {X Y Z : Int} (ho : o.op = .binOp .add 3 x y 3) (hx : a.eval x = .int .i64 X) (hy : a.eval y = .int .i64 Y) (hZ : Z = wrap64 (X + Y)) (w : World) : (execOp a.eval o).run Try.prog w = .ok (.value (.int .i64 Z)) w := by
  unfold execOp
  simp only [ho, hx, hy]
  simp [go_sem, IntKind.wrap_i64, hZ, wrap64]
set_option maxRecDepth 100000 in
set_option maxHeartbeats 4000000 in
theorem sizes8 (k0 : Int) (v : Value) (ll : List (List Nat)) (w : World) (hk0 : (Lit.int .u8 k0).wf = true) (hv : ValsV v w (strs ll)) (hl : ∀ l ∈ ll, Bytes l ∧ l.length ≤ maxLen) (hN : ll.length ≤ maxLen) :
    Calls Try.prog 7 #[.int .u8 k0, v] w fun e w' => e = .returned (.bool true) ∧ Below w.heap.size w w' := by
  obtain ⟨k, rfl, hk⟩ := nat_of_u8 hk0
  have CA := alive8 w
  have CF : Kept (∀ w1, Below w.heap.size w w1 → Calls Try.prog 11 #[v] w1 fun e w' => IsBool e ∧ w' = w1) := ⟨fun w1 h => fewD (hv.under h) hN⟩
  have CJ : Kept (∀ w1, Below w.heap.size w w1 → Calls Try.prog 12 #[.int .u8 (k : Int), v] w1 fun e w' => e = .returned (.tuple #[.string (strOf (joinS k ll)), .int .i64 (joinE ll : Int)]) ∧ Below w1.heap.size w1 w') := ⟨fun w1 h => JoinD hk (hv.under h) hl⟩
  obtain ⟨p, c, rfl, hc⟩ := vals_form hv (strs_len ll)
  obtain ⟨n, hn⟩ : ∃ n, n = ll.length := ⟨_, rfl⟩
  rw [← hn] at hv hc CF CJ hN ⊢
  unfold maxLen at hN
  have HN : Kept _ := ⟨hn⟩
  have HL : Kept _ := ⟨hl⟩
  have HV : Kept _ := ⟨hv⟩
  clear hv hl hn
  go_enter Try.func7, Try.ntmps7
  go_wp2_with fail
  refine CA.mono ?_
  rintro e w1 ⟨rfl, q1⟩
  go_wp2_with fail
  refine (CF.out _ q1).mono ?_
  rintro e w2 ⟨⟨b, rfl⟩, hw2⟩
  obtain rfl := hw2.symm
  cases b with
  | false =>
    go_wp2_with fail
    go_ret
    exact ⟨rfl, q1⟩
  | true =>
    go_wp2_with fail
    refine (CJ.out _ q1).mono ?_
    rintro e w3 ⟨rfl, q3⟩
    replace q3 := q1.trans (q3.mono q1.size)
    clear CA CF CJ
    have HV3 : Kept _ := ⟨HV.out.under q3⟩
    by_cases hF : Fits ll
    case pos =>
      rw [joinS_fits hF, joinE_fits hF]
      have hn255 : n ≤ 255 := by rw [HN.out]; exact hF.1
      have HF : Kept _ := ⟨hF⟩
      have YJ : Kept _ := ⟨joinL_bytes hk (fun l hm => (HL.out l hm).1) hF⟩
      obtain ⟨J, hJ⟩ : ∃ J, J = joinL k ll := ⟨_, rfl⟩
      rw [← hJ] at YJ ⊢
      have G0 : Kept (J[0]? = some 1) := ⟨by rw [hJ]; rfl⟩
      have G1 : Kept (J[1]? = some k) := ⟨by rw [hJ]; rfl⟩
      have G2 : Kept (J[2]? = some n) := ⟨by rw [hJ, HN.out]; rfl⟩
      have GL : Kept (J.length = (itemsL ll).length + 3) := ⟨by rw [hJ, joinL_len]⟩
      clear hJ hF
      go_wp2_with fail
      go_loopg [7, 8, 24] n (fun g s7 s8 s24 wr => ∃ i m : Nat, i + g = n ∧ s24 = .int .i64 (i : Int) ∧ s7 = .int .i64 (m : Int) ∧ s8 = .bool false ∧ Kept (m = (itemsL (ll.take i)).length + 3) ∧ wr = w3)
      case atStart => exact ⟨0, 3, by omega, rfl, rfl, rfl, ⟨by simp [itemsL]⟩, rfl⟩
      case round =>
        obtain ⟨i, m, hik, rfl, rfl, rfl, KM, hwr⟩ := hrel
        obtain rfl := hwr.symm
        by_cases hk0 : gk = 0
        case pos =>
          obtain rfl : n = i := by omega
          have KS : Kept (m = J.length) := ⟨by
            have := KM.out
            rwa [List.take_of_length_le (by rw [← HN.out]; exact Nat.le_refl _), ← GL.out] at this⟩
          have K1 : Kept (false = decide (30000 < m)) := ⟨(decide_eq_false (by rw [KS.out, GL.out]; have := HF.out.2.2; omega)).symm⟩
          have K2 : Kept (false = decide (255 < n)) := ⟨(decide_eq_false (by omega)).symm⟩
          have K3 : Kept (true = decide ((m : Int) = (m : Int))) := ⟨by simp⟩
          have K4 : Kept (true = decide (k = k)) := ⟨by simp⟩
          have K5 : Kept (true = decide ((n : Int) = (n : Int))) := ⟨by simp⟩
          have n256 : n < 256 := by omega
          clear KM
          go_wp2_with (first | ((with_reducible refine wv_val (d := 41) ?hd ?hw (.bool false) ?hr ?_); (case hd => rfl); (case hw => kernel_rfl); (case hr => intro w; exact run_gtrI 30000 rfl (by kernel_rfl) K1.out w); simp only [Act.put, List.setIfInBounds_toArray, List.set_cons_succ, List.set_cons_zero]) | ((with_reducible refine wv_val (d := 48) ?hd ?hw (.bool false) ?hr ?_); (case hd => rfl); (case hw => kernel_rfl); (case hr => intro w; exact run_gtrI 255 rfl (by kernel_rfl) K2.out w); simp only [Act.put, List.setIfInBounds_toArray, List.set_cons_succ, List.set_cons_zero]) | ((with_reducible refine wv_val (d := 60) ?hd ?hw (.int .i64 (m : Int)) ?hr ?_); (case hd => rfl); (case hw => kernel_rfl); (case hr => intro w; exact run_slen rfl (by kernel_rfl) KS.out w); simp only [Act.put, List.setIfInBounds_toArray, List.set_cons_succ, List.set_cons_zero]) | ((with_reducible refine wv_val (d := 62) ?hd ?hw (.bool true) ?hr ?_); (case hd => rfl); (case hw => kernel_rfl); (case hr => intro w; exact run_eqII rfl (by kernel_rfl) (by kernel_rfl) K3.out w); simp only [Act.put, List.setIfInBounds_toArray, List.set_cons_succ, List.set_cons_zero]) | ((with_reducible refine wv_val (d := 66) ?hd ?hw (.int .u8 1) ?hr ?_); (case hd => rfl); (case hw => kernel_rfl); (case hr => intro w; exact run_sidx (i := 0) (z := 1) rfl (by kernel_rfl) rfl YJ.out G0.out w); simp only [Act.put, List.setIfInBounds_toArray, List.set_cons_succ, List.set_cons_zero]) | ((with_reducible refine wv_val (d := 71) ?hd ?hw (.int .u8 (k : Int)) ?hr ?_); (case hd => rfl); (case hw => kernel_rfl); (case hr => intro w; exact run_sidx (i := 1) rfl (by kernel_rfl) rfl YJ.out G1.out w); simp only [Act.put, List.setIfInBounds_toArray, List.set_cons_succ, List.set_cons_zero]) | ((with_reducible refine wv_val (d := 73) ?hd ?hw (.bool true) ?hr ?_); (case hd => rfl); (case hw => kernel_rfl); (case hr => intro w; exact run_eqU rfl (by kernel_rfl) (by kernel_rfl) K4.out w); simp only [Act.put, List.setIfInBounds_toArray, List.set_cons_succ, List.set_cons_zero]) | ((with_reducible refine wv_val (d := 77) ?hd ?hw (.int .u8 (n : Int)) ?hr ?_); (case hd => rfl); (case hw => kernel_rfl); (case hr => intro w; exact run_sidx (i := 2) rfl (by kernel_rfl) rfl YJ.out G2.out w); simp only [Act.put, List.setIfInBounds_toArray, List.set_cons_succ, List.set_cons_zero]) | ((with_reducible refine wv_val (d := 78) ?hd ?hw (.int .i64 (n : Int)) ?hr ?_); (case hd => rfl); (case hw => kernel_rfl); (case hr => intro w; exact run_conv83 rfl (by kernel_rfl) n256 w); simp only [Act.put, List.setIfInBounds_toArray, List.set_cons_succ, List.set_cons_zero]) | ((with_reducible refine wv_val (d := 81) ?hd ?hw (.bool true) ?hr ?_); (case hd => rfl); (case hw => kernel_rfl); (case hr => intro w; exact run_eqII rfl (by kernel_rfl) (by kernel_rfl) K5.out w); simp only [Act.put, List.setIfInBounds_toArray, List.set_cons_succ, List.set_cons_zero]))
          go_ret
          exact ⟨rfl, q3⟩
        case neg =>
          have hin : i < n := by omega
          have hin' : (i : Int) < (n : Int) := by omega
          obtain ⟨l, h1, h2, h3⟩ := strs_put (show i < ll.length by rw [← HN.out]; exact hin)
          obtain ⟨A, rfl, hA, hcell⟩ := vals_at HV3.out h2
          have KC : Kept _ := ⟨hcell⟩
          obtain ⟨z, hz⟩ : ∃ z, z = l.length := ⟨_, rfl⟩
          have KZ : Kept _ := ⟨hz⟩
          have KL : Kept _ := ⟨h1⟩
          have hz4 : z ≤ 4000 := by rw [hz]; exact HF.out.2.1 l h3
          have hmB := items_takeB (ll := ll) (i := i) (by omega) (fun x hx => HF.out.2.1 x (List.mem_of_mem_take hx))
          obtain ⟨a1, ha1⟩ : ∃ a1, a1 = 2 + z := ⟨_, rfl⟩
          obtain ⟨m2, hm2⟩ : ∃ m2, m2 = m + a1 := ⟨_, rfl⟩
          have K1 : Kept _ := ⟨ha1⟩
          have K2 : Kept _ := ⟨hm2⟩
          have K3 : Kept (false = decide (4000 < z)) := ⟨(decide_eq_false (by omega)).symm⟩
          have b1 : a1 < 4611686018427387904 := by omega
          have b2 : m2 < 4611686018427387904 := by have := KM.out; omega
          clear h1 h2 h3 hcell hz ha1 hm2
          go_wp2_with (first | ((with_reducible refine wv_val (d := 26) ?hd ?hw (.pointer (some (A.add i))) ?hr ?_); (case hd => rfl); (case hw => kernel_rfl); (case hr => intro w; exact run_idxS rfl (by kernel_rfl) (by kernel_rfl) Try.underlying22 hin Try.sizeOf9 w); simp only [Act.put, List.setIfInBounds_toArray, List.set_cons_succ, List.set_cons_zero]) | ((with_reducible refine wv_elem (d := 27) ?hd ?hw 9 ag_str (.tmp 26) ?ho (A.add i) ?hx (.string (strOf l)) ?hc ?_); (case hd => rfl); (case hw => kernel_rfl); (case ho => rfl); (case hx => kernel_rfl); (case hc => exact KC.out); simp only [Act.put, List.setIfInBounds_toArray, List.set_cons_succ, List.set_cons_zero]) | ((with_reducible refine wv_val (d := 30) ?hd ?hw (.int .i64 (z : Int)) ?hr ?_); (case hd => rfl); (case hw => kernel_rfl); (case hr => intro w; exact run_slen rfl (by kernel_rfl) KZ.out w); simp only [Act.put, List.setIfInBounds_toArray, List.set_cons_succ, List.set_cons_zero]) | ((with_reducible refine wv_val (d := 31) ?hd ?hw (.int .i64 (a1 : Int)) ?hr ?_); (case hd => rfl); (case hw => kernel_rfl); (case hr => intro w; exact run_addC 2 rfl (by kernel_rfl) K1.out b1 w); simp only [Act.put, List.setIfInBounds_toArray, List.set_cons_succ, List.set_cons_zero]) | ((with_reducible refine wv_val (d := 32) ?hd ?hw (.int .i64 (m2 : Int)) ?hr ?_); (case hd => rfl); (case hw => kernel_rfl); (case hr => intro w; exact run_nadd rfl (by kernel_rfl) (by kernel_rfl) K2.out b2 w); simp only [Act.put, List.setIfInBounds_toArray, List.set_cons_succ, List.set_cons_zero]) | ((with_reducible refine wv_val (d := 36) ?hd ?hw (.int .i64 (z : Int)) ?hr ?_); (case hd => rfl); (case hw => kernel_rfl); (case hr => intro w; exact run_slen rfl (by kernel_rfl) KZ.out w); simp only [Act.put, List.setIfInBounds_toArray, List.set_cons_succ, List.set_cons_zero]) | ((with_reducible refine wv_val (d := 37) ?hd ?hw (.bool false) ?hr ?_); (case hd => rfl); (case hw => kernel_rfl); (case hr => intro w; exact run_gtrI 4000 rfl (by kernel_rfl) K3.out w); simp only [Act.put, List.setIfInBounds_toArray, List.set_cons_succ, List.set_cons_zero]))
          go_roundg (gk - 1)
          case measure => omega
          case rel =>
            refine ⟨i + 1, m2, by omega, by simp, rfl, rfl, ⟨?_⟩, rfl⟩
            rw [items_take KL.out, List.length_append, itemL_len, ← KZ.out, K2.out, K1.out, KM.out]
            omega
    case neg =>
      rw [joinS_not hF, joinE_not hF]
      have HF : Kept _ := ⟨hF⟩
      have KE : Kept (true = decide (([] : List Nat) = [])) := ⟨rfl⟩
      clear hF
      go_wp2_with fail
      go_loopg [7, 8, 24] n (fun g s7 s8 s24 wr => ∃ (i : Nat) (m : Int) (lg : Bool), i + g = n ∧ s24 = .int .i64 (i : Int) ∧ s7 = .int .i64 m ∧ s8 = .bool lg ∧ Kept (i ≤ 255 → lg = true ∨ ((∀ x ∈ ll.take i, x.length ≤ 4000) ∧ m = (((itemsL (ll.take i)).length + 3 : Nat) : Int))) ∧ wr = w3)
      case atStart => exact ⟨0, 3, false, by omega, rfl, rfl, rfl, ⟨fun _ => .inr ⟨fun x hx => by simp at hx, by simp [itemsL]⟩⟩, rfl⟩
      case round =>
        obtain ⟨i, m, lg, hik, rfl, rfl, rfl, KM, hwr⟩ := hrel
        obtain rfl := hwr.symm
        by_cases hk0 : gk = 0
        case pos =>
          obtain rfl : n = i := by omega
          have KP : Kept ((30000 : Int) < m ∨ lg = true ∨ 255 < n) := ⟨by
            by_cases h255 : 255 < n
            · exact .inr (.inr h255)
            · rcases KM.out (by omega) with h | ⟨h1, h2⟩
              · exact .inr (.inl h)
              · refine .inl ?_
                rw [List.take_of_length_le (by rw [← HN.out]; exact Nat.le_refl _)] at h1 h2
                have : ¬ (itemsL ll).length ≤ 29997 := fun h => HF.out ⟨by rw [← HN.out]; omega, h1, h⟩
                omega⟩
          clear KM
          by_cases hm : (30000 : Int) < m
          case pos =>
            have K1 : Kept (true = decide ((30000 : Int) < m)) := ⟨(decide_eq_true hm).symm⟩
            clear KP hm
            go_wp2_with (first | ((with_reducible refine wv_val (d := 41) ?hd ?hw (.bool true) ?hr ?_); (case hd => rfl); (case hw => kernel_rfl); (case hr => intro w; exact run_gtrZ 30000 rfl (by kernel_rfl) K1.out w); simp only [Act.put, List.setIfInBounds_toArray, List.set_cons_succ, List.set_cons_zero]) | ((with_reducible refine wv_val (d := 54) ?hd ?hw (.bool true) ?hr ?_); (case hd => rfl); (case hw => kernel_rfl); (case hr => intro w; exact run_seq (l := []) (m := []) rfl (by kernel_rfl) rfl nil_bytes nil_bytes KE.out w); simp only [Act.put, List.setIfInBounds_toArray, List.set_cons_succ, List.set_cons_zero]))
            go_ret
            exact ⟨rfl, q3⟩
          case neg =>
            have K1 : Kept (false = decide ((30000 : Int) < m)) := ⟨(decide_eq_false hm).symm⟩
            cases lg with
            | true =>
              clear KP hm
              go_wp2_with (first | ((with_reducible refine wv_val (d := 41) ?hd ?hw (.bool false) ?hr ?_); (case hd => rfl); (case hw => kernel_rfl); (case hr => intro w; exact run_gtrZ 30000 rfl (by kernel_rfl) K1.out w); simp only [Act.put, List.setIfInBounds_toArray, List.set_cons_succ, List.set_cons_zero]) | ((with_reducible refine wv_val (d := 54) ?hd ?hw (.bool true) ?hr ?_); (case hd => rfl); (case hw => kernel_rfl); (case hr => intro w; exact run_seq (l := []) (m := []) rfl (by kernel_rfl) rfl nil_bytes nil_bytes KE.out w); simp only [Act.put, List.setIfInBounds_toArray, List.set_cons_succ, List.set_cons_zero]))
              go_ret
              exact ⟨rfl, q3⟩
            | false =>
              have h255 : 255 < n := by
                rcases KP.out with h | h | h
                · exact absurd h hm
                · cases h
                · exact h
              have K2 : Kept (true = decide (255 < n)) := ⟨(decide_eq_true h255).symm⟩
              clear KP hm
              go_wp2_with (first | ((with_reducible refine wv_val (d := 41) ?hd ?hw (.bool false) ?hr ?_); (case hd => rfl); (case hw => kernel_rfl); (case hr => intro w; exact run_gtrZ 30000 rfl (by kernel_rfl) K1.out w); simp only [Act.put, List.setIfInBounds_toArray, List.set_cons_succ, List.set_cons_zero]) | ((with_reducible refine wv_val (d := 48) ?hd ?hw (.bool true) ?hr ?_); (case hd => rfl); (case hw => kernel_rfl); (case hr => intro w; exact run_gtrI 255 rfl (by kernel_rfl) K2.out w); simp only [Act.put, List.setIfInBounds_toArray, List.set_cons_succ, List.set_cons_zero]) | ((with_reducible refine wv_val (d := 54) ?hd ?hw (.bool true) ?hr ?_); (case hd => rfl); (case hw => kernel_rfl); (case hr => intro w; exact run_seq (l := []) (m := []) rfl (by kernel_rfl) rfl nil_bytes nil_bytes KE.out w); simp only [Act.put, List.setIfInBounds_toArray, List.set_cons_succ, List.set_cons_zero]))
              go_ret
              exact ⟨rfl, q3⟩
        case neg =>
          have hin : i < n := by omega
          have hin' : (i : Int) < (n : Int) := by omega
          have hi1 : (i : Int) + 1 ≤ 9223372036854775807 := by omega
          obtain ⟨l, h1, h2, h3⟩ := strs_put (show i < ll.length by rw [← HN.out]; exact hin)
          obtain ⟨A, rfl, hA, hcell⟩ := vals_at HV3.out h2
          have KC : Kept _ := ⟨hcell⟩
          obtain ⟨z, hz⟩ : ∃ z, z = l.length := ⟨_, rfl⟩
          have KZ : Kept _ := ⟨hz⟩
          have KL : Kept _ := ⟨h1⟩
          obtain ⟨a1, ha1⟩ : ∃ a1 : Int, a1 = wrap64 (2 + (z : Int)) := ⟨_, rfl⟩
          obtain ⟨m2, hm2⟩ : ∃ m2 : Int, m2 = wrap64 (m + a1) := ⟨_, rfl⟩
          obtain ⟨b, hb⟩ : ∃ b, b = decide (4000 < z) := ⟨_, rfl⟩
          have K1 : Kept _ := ⟨ha1⟩
          have K2 : Kept _ := ⟨hm2⟩
          have K3 : Kept _ := ⟨hb⟩
          have step : Kept (i + 1 ≤ 255 → (lg || b) = true ∨ ((∀ x ∈ ll.take (i + 1), x.length ≤ 4000) ∧ m2 = (((itemsL (ll.take (i + 1))).length + 3 : Nat) : Int))) := ⟨fun h => by
            by_cases hz4 : 4000 < z
            · left; rw [hb, decide_eq_true hz4]; simp
            · rcases KM.out (by omega) with h4 | ⟨h4, h5⟩
              · left; rw [h4]; rfl
              · right
                have hB := items_takeB (ll := ll) (i := i) (by omega) h4
                refine ⟨small_take h1 h4 (by omega), ?_⟩
                rw [hm2, ha1, h5, items_take h1, List.length_append, itemL_len, ← hz]
                rw [wrap_in (2 + (z : Int)) (by omega) (by omega), wrap_in _ (by omega) (by omega)]
                omega⟩
          clear h1 h2 h3 hcell hz ha1 hm2 hb KM
          cases lg with
          | true =>
            go_wp2_with (first | ((with_reducible refine wv_val (d := 26) ?hd ?hw (.pointer (some (A.add i))) ?hr ?_); (case hd => rfl); (case hw => kernel_rfl); (case hr => intro w; exact run_idxS rfl (by kernel_rfl) (by kernel_rfl) Try.underlying22 hin Try.sizeOf9 w); simp only [Act.put, List.setIfInBounds_toArray, List.set_cons_succ, List.set_cons_zero]) | ((with_reducible refine wv_elem (d := 27) ?hd ?hw 9 ag_str (.tmp 26) ?ho (A.add i) ?hx (.string (strOf l)) ?hc ?_); (case hd => rfl); (case hw => kernel_rfl); (case ho => rfl); (case hx => kernel_rfl); (case hc => exact KC.out); simp only [Act.put, List.setIfInBounds_toArray, List.set_cons_succ, List.set_cons_zero]) | ((with_reducible refine wv_val (d := 30) ?hd ?hw (.int .i64 (z : Int)) ?hr ?_); (case hd => rfl); (case hw => kernel_rfl); (case hr => intro w; exact run_slen rfl (by kernel_rfl) KZ.out w); simp only [Act.put, List.setIfInBounds_toArray, List.set_cons_succ, List.set_cons_zero]) | ((with_reducible refine wv_val (d := 31) ?hd ?hw (.int .i64 a1) ?hr ?_); (case hd => rfl); (case hw => kernel_rfl); (case hr => intro w; exact run_addXY rfl rfl (by kernel_rfl) K1.out w); simp only [Act.put, List.setIfInBounds_toArray, List.set_cons_succ, List.set_cons_zero]) | ((with_reducible refine wv_val (d := 32) ?hd ?hw (.int .i64 m2) ?hr ?_); (case hd => rfl); (case hw => kernel_rfl); (case hr => intro w; exact run_addXY rfl (by kernel_rfl) (by kernel_rfl) K2.out w); simp only [Act.put, List.setIfInBounds_toArray, List.set_cons_succ, List.set_cons_zero]))
            go_roundg (gk - 1)
            case measure => omega
            case rel => exact ⟨i + 1, m2, true, by omega, by simp, rfl, rfl, ⟨fun _ => .inl rfl⟩, rfl⟩
          | false =>
            go_wp2_with (first | ((with_reducible refine wv_val (d := 26) ?hd ?hw (.pointer (some (A.add i))) ?hr ?_); (case hd => rfl); (case hw => kernel_rfl); (case hr => intro w; exact run_idxS rfl (by kernel_rfl) (by kernel_rfl) Try.underlying22 hin Try.sizeOf9 w); simp only [Act.put, List.setIfInBounds_toArray, List.set_cons_succ, List.set_cons_zero]) | ((with_reducible refine wv_elem (d := 27) ?hd ?hw 9 ag_str (.tmp 26) ?ho (A.add i) ?hx (.string (strOf l)) ?hc ?_); (case hd => rfl); (case hw => kernel_rfl); (case ho => rfl); (case hx => kernel_rfl); (case hc => exact KC.out); simp only [Act.put, List.setIfInBounds_toArray, List.set_cons_succ, List.set_cons_zero]) | ((with_reducible refine wv_val (d := 30) ?hd ?hw (.int .i64 (z : Int)) ?hr ?_); (case hd => rfl); (case hw => kernel_rfl); (case hr => intro w; exact run_slen rfl (by kernel_rfl) KZ.out w); simp only [Act.put, List.setIfInBounds_toArray, List.set_cons_succ, List.set_cons_zero]) | ((with_reducible refine wv_val (d := 31) ?hd ?hw (.int .i64 a1) ?hr ?_); (case hd => rfl); (case hw => kernel_rfl); (case hr => intro w; exact run_addXY rfl rfl (by kernel_rfl) K1.out w); simp only [Act.put, List.setIfInBounds_toArray, List.set_cons_succ, List.set_cons_zero]) | ((with_reducible refine wv_val (d := 32) ?hd ?hw (.int .i64 m2) ?hr ?_); (case hd => rfl); (case hw => kernel_rfl); (case hr => intro w; exact run_addXY rfl (by kernel_rfl) (by kernel_rfl) K2.out w); simp only [Act.put, List.setIfInBounds_toArray, List.set_cons_succ, List.set_cons_zero]) | ((with_reducible refine wv_val (d := 36) ?hd ?hw (.int .i64 (z : Int)) ?hr ?_); (case hd => rfl); (case hw => kernel_rfl); (case hr => intro w; exact run_slen rfl (by kernel_rfl) KZ.out w); simp only [Act.put, List.setIfInBounds_toArray, List.set_cons_succ, List.set_cons_zero]) | ((with_reducible refine wv_val (d := 37) ?hd ?hw (.bool b) ?hr ?_); (case hd => rfl); (case hw => kernel_rfl); (case hr => intro w; exact run_gtrI 4000 rfl (by kernel_rfl) K3.out w); simp only [Act.put, List.setIfInBounds_toArray, List.set_cons_succ, List.set_cons_zero]))
            go_roundg (gk - 1)
            case measure => omega
            case rel => exact ⟨i + 1, m2, b, by omega, by simp, rfl, rfl, ⟨step.out⟩, rfl⟩
end Go.Proofs.Ytfkpbmkhkhnehaa.sh
