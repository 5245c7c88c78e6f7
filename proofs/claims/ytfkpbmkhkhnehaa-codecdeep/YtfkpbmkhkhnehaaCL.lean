/-
  The reference's Same, Num, Read.
-/
import Derived.Test.YtfkpbmkhkhnehaaCK
namespace Go.Proofs.Ytfkpbmkhkhnehaa.sh
open Go Go.RowKit
set_option linter.unusedVariables false
set_option linter.unusedSimpArgs false

theorem take_same {ll mm : List (List Nat)} {i : Nat} {l x : List Nat} (h : ll.take i = mm.take i) (h1 : ll[i]? = some l) (h2 : mm[i]? = some x) (he : l = x) : ll.take (i + 1) = mm.take (i + 1) := by
  rw [List.take_add_one, List.take_add_one, h1, h2, h, he]
set_option maxRecDepth 100000 in
set_option maxHeartbeats 1000000 in
theorem SameD {ll mm : List (List Nat)} {a b : Value} {w : World} (ha : ValsV a w (strs ll)) (hb : ValsV b w (strs mm)) (hl : ∀ l ∈ ll, Bytes l) (hm : ∀ l ∈ mm, Bytes l) (hN : ll.length ≤ maxLen) :
    Calls Try.prog 16 #[a, b] w fun e w' => e = .returned (.bool (decide (ll = mm))) ∧ Below w.heap.size w w' := by
  obtain ⟨p, c, rfl, hc⟩ := vals_form ha (strs_len ll)
  obtain ⟨q, d, rfl, hd⟩ := vals_form hb (strs_len mm)
  obtain ⟨F, hF⟩ : ∃ F, F = decide (ll = mm) := ⟨_, rfl⟩
  obtain ⟨n, hn⟩ : ∃ n, n = ll.length := ⟨_, rfl⟩
  obtain ⟨m, hmn⟩ : ∃ n, n = mm.length := ⟨_, rfl⟩
  rw [← hF]
  rw [← hn] at ha hc hN ⊢
  rw [← hmn] at hb hd ⊢
  unfold maxLen at hN
  have KF : Kept _ := ⟨hF⟩
  have KN : Kept _ := ⟨hn⟩
  have KM : Kept _ := ⟨hmn⟩
  have HA : Kept _ := ⟨ha⟩
  have HB : Kept _ := ⟨hb⟩
  have HL : Kept _ := ⟨hl⟩
  have HM : Kept _ := ⟨hm⟩
  clear hF hn hmn ha hb hl hm
  by_cases hnm : n = m
  case neg =>
    have B1 : Kept (true = !decide ((n : Int) = (m : Int))) := ⟨by rw [decide_eq_false (by omega)]; rfl⟩
    have F1 : Kept (F = false) := ⟨by rw [KF.out]; exact decide_eq_false (fun h => hnm (by rw [KN.out, KM.out, h]))⟩
    clear hnm
    go_enter Try.func16, Try.ntmps16
    go_wp2_with (first | ((with_reducible refine wv_val (d := 10) ?hd ?hw (.bool true) ?hr ?_); (case hd => rfl); (case hw => kernel_rfl); (case hr => intro w; exact run_neI rfl (by kernel_rfl) (by kernel_rfl) B1.out w); simp only [Act.put, List.setIfInBounds_toArray, List.set_cons_succ, List.set_cons_zero]))
    go_ret
    exact ⟨congrArg (fun b => Ending.returned (.bool b)) F1.out.symm, Below.refl _ _⟩
  case pos =>
    subst hnm
    have B1 : Kept (false = !decide ((n : Int) = (n : Int))) := ⟨by rw [decide_eq_true rfl]; rfl⟩
    go_enter Try.func16, Try.ntmps16
    go_wp2_with (first | ((with_reducible refine wv_val (d := 10) ?hd ?hw (.bool false) ?hr ?_); (case hd => rfl); (case hw => kernel_rfl); (case hr => intro w; exact run_neI rfl (by kernel_rfl) (by kernel_rfl) B1.out w); simp only [Act.put, List.setIfInBounds_toArray, List.set_cons_succ, List.set_cons_zero]))
    go_loopg [5] n (fun k s5 wr => ∃ i : Nat, i + k = n ∧ s5 = .int .i64 (i : Int) ∧ Kept (ll.take i = mm.take i) ∧ Below w.heap.size w wr)
    case atStart => exact ⟨0, by omega, rfl, ⟨by simp⟩, Below.refl _ _⟩
    case round =>
      rename World => wz
      obtain ⟨i, hik, rfl, KT, HW⟩ := hrel
      by_cases hk0 : gk = 0
      · obtain rfl : n = i := by omega
        have F1 : Kept (F = true) := ⟨by
          rw [KF.out]
          refine decide_eq_true ?_
          have := KT.out
          rwa [List.take_of_length_le (by rw [← KN.out]; exact Nat.le_refl _), List.take_of_length_le (by rw [← KM.out]; exact Nat.le_refl _)] at this⟩
        go_wp2_with fail
        go_ret
        exact ⟨congrArg (fun b => Ending.returned (.bool b)) F1.out.symm, HW⟩
      · have hin : i < n := by omega
        have hin' : (i : Int) < (n : Int) := by omega
        have hi1 : (i : Int) + 1 ≤ 9223372036854775807 := by omega
        obtain ⟨l, h1, h2, h3⟩ := strs_put (show i < ll.length by rw [← KN.out]; exact hin)
        obtain ⟨x, g1, g2, g3⟩ := strs_put (show i < mm.length by rw [← KM.out]; exact hin)
        obtain ⟨A, rfl, hA, hcA⟩ := vals_at (HA.out.under HW) h2
        obtain ⟨B, rfl, hB, hcB⟩ := vals_at (HB.out.under HW) g2
        have KA : Kept (∀ w1, Below wz.heap.size wz w1 → w1.cell? (A.add i) = some (.string (strOf l))) := ⟨fun w1 hb => (hb.cell (by rw [add_block]; exact hA)).trans hcA⟩
        have KB : Kept (∀ w1, Below wz.heap.size wz w1 → w1.cell? (B.add i) = some (.string (strOf x))) := ⟨fun w1 hb => (hb.cell (by rw [add_block]; exact hB)).trans hcB⟩
        have YL : Kept _ := ⟨HL.out l h3⟩
        have YX : Kept _ := ⟨HM.out x g3⟩
        have G1 : Kept _ := ⟨h1⟩
        have G2 : Kept _ := ⟨g1⟩
        clear h1 h2 h3 g1 g2 g3 hcA hcB
        by_cases hlx : l = x
        · have KE : Kept (false = !decide (l = x)) := ⟨by rw [decide_eq_true hlx]; rfl⟩
          have KL : Kept _ := ⟨hlx⟩
          clear hlx
          go_wp2_with fail
          refine region_skipM wz 9 [(17, .slice (some A) n c), (18, .int .i64 (i : Int)), (19, .pointer (some (A.add i))), (20, .string (strOf l)), (21, .slice (some B) n d), (22, .int .i64 (i : Int)), (23, .pointer (some (B.add i))), (24, .string (strOf x)), (25, .bool false)] [] rfl (by kernel_rfl) (by kernel_rfl) (by kernel_rfl) (by kernel_rfl) (by kernel_rfl) (by kernel_rfl) (by kernel_rfl) (by kernel_rfl) ?hst (Below.refl _ _) (fun hA => ⟨.inl (.inl (ow_val hA (wants_none rfl) 17 (.slice (some A) n c) (by kernel_rfl) rfl rfl rfl rfl (by kernel_rfl) (fun w => by kernel_rfl))), .inl (.inl (ow_val hA (wants_none rfl) 18 (.int .i64 (i : Int)) (by kernel_rfl) rfl rfl rfl rfl (by kernel_rfl) (fun w => by kernel_rfl))), .inl (.inl (ow_val hA (wants_none rfl) 19 (.pointer (some (A.add i))) (by kernel_rfl) rfl rfl rfl rfl (by kernel_rfl) (fun w => run_idxS (c := c) rfl (by kernel_rfl) (by kernel_rfl) Try.underlying22 hin Try.sizeOf9 w))), .inl (.inl (ow_elem hA (wants_none rfl) 20 (.string (strOf l)) (by kernel_rfl) rfl rfl rfl rfl (by kernel_rfl) 9 ag_str (.tmp 19) rfl (A.add i) (by kernel_rfl) (fun w1 hb => KA.out w1 hb))), .inl (.inl (ow_val hA (wants_none rfl) 21 (.slice (some B) n d) (by kernel_rfl) rfl rfl rfl rfl (by kernel_rfl) (fun w => by kernel_rfl))), .inl (.inl (ow_val hA (wants_none rfl) 22 (.int .i64 (i : Int)) (by kernel_rfl) rfl rfl rfl rfl (by kernel_rfl) (fun w => by kernel_rfl))), .inl (.inl (ow_val hA (wants_none rfl) 23 (.pointer (some (B.add i))) (by kernel_rfl) rfl rfl rfl rfl (by kernel_rfl) (fun w => run_idxS (c := d) rfl (by kernel_rfl) (by kernel_rfl) Try.underlying22 hin Try.sizeOf9 w))), .inl (.inl (ow_elem hA (wants_none rfl) 24 (.string (strOf x)) (by kernel_rfl) rfl rfl rfl rfl (by kernel_rfl) 9 ag_str (.tmp 23) rfl (B.add i) (by kernel_rfl) (fun w1 hb => KB.out w1 hb))), .inl (.inl (ow_val hA (wants_none rfl) 25 (.bool false) (by kernel_rfl) rfl rfl rfl rfl (by kernel_rfl) (fun w => run_sneq rfl (by kernel_rfl) (by kernel_rfl) YL.out YX.out KE.out w))), trivial⟩) ?_
          case hst => intro q hq; cases hq
          intro fv w5 hf hb5
          clear hf
          simp only [putR, List.foldl_cons, List.foldl_nil, List.map_cons, List.map_nil, Act.put, List.setIfInBounds_toArray, List.set_cons_succ, List.set_cons_zero]
          refine (show wpList _ _ _ [] _ _ from ?_); refine wpList_nil ?_
          go_wp2_with fail
          go_roundg (gk - 1)
          case measure => omega
          case rel => exact ⟨i + 1, by omega, by simp, ⟨take_same KT.out G1.out G2.out KL.out⟩, HW.trans (hb5.mono HW.size)⟩
        · have KE : Kept (true = !decide (l = x)) := ⟨by rw [decide_eq_false hlx]; rfl⟩
          have F1 : Kept (F = false) := ⟨by rw [KF.out]; exact decide_eq_false (fun h => hlx (by have := G1.out; rw [h, G2.out] at this; exact (Option.some.inj this).symm))⟩
          clear hlx
          go_wp2_with fail
          refine region_skipM wz 9 [(17, .slice (some A) n c), (18, .int .i64 (i : Int)), (19, .pointer (some (A.add i))), (20, .string (strOf l)), (21, .slice (some B) n d), (22, .int .i64 (i : Int)), (23, .pointer (some (B.add i))), (24, .string (strOf x)), (25, .bool true)] [] rfl (by kernel_rfl) (by kernel_rfl) (by kernel_rfl) (by kernel_rfl) (by kernel_rfl) (by kernel_rfl) (by kernel_rfl) (by kernel_rfl) ?hst (Below.refl _ _) (fun hA => ⟨.inl (.inl (ow_val hA (wants_none rfl) 17 (.slice (some A) n c) (by kernel_rfl) rfl rfl rfl rfl (by kernel_rfl) (fun w => by kernel_rfl))), .inl (.inl (ow_val hA (wants_none rfl) 18 (.int .i64 (i : Int)) (by kernel_rfl) rfl rfl rfl rfl (by kernel_rfl) (fun w => by kernel_rfl))), .inl (.inl (ow_val hA (wants_none rfl) 19 (.pointer (some (A.add i))) (by kernel_rfl) rfl rfl rfl rfl (by kernel_rfl) (fun w => run_idxS (c := c) rfl (by kernel_rfl) (by kernel_rfl) Try.underlying22 hin Try.sizeOf9 w))), .inl (.inl (ow_elem hA (wants_none rfl) 20 (.string (strOf l)) (by kernel_rfl) rfl rfl rfl rfl (by kernel_rfl) 9 ag_str (.tmp 19) rfl (A.add i) (by kernel_rfl) (fun w1 hb => KA.out w1 hb))), .inl (.inl (ow_val hA (wants_none rfl) 21 (.slice (some B) n d) (by kernel_rfl) rfl rfl rfl rfl (by kernel_rfl) (fun w => by kernel_rfl))), .inl (.inl (ow_val hA (wants_none rfl) 22 (.int .i64 (i : Int)) (by kernel_rfl) rfl rfl rfl rfl (by kernel_rfl) (fun w => by kernel_rfl))), .inl (.inl (ow_val hA (wants_none rfl) 23 (.pointer (some (B.add i))) (by kernel_rfl) rfl rfl rfl rfl (by kernel_rfl) (fun w => run_idxS (c := d) rfl (by kernel_rfl) (by kernel_rfl) Try.underlying22 hin Try.sizeOf9 w))), .inl (.inl (ow_elem hA (wants_none rfl) 24 (.string (strOf x)) (by kernel_rfl) rfl rfl rfl rfl (by kernel_rfl) 9 ag_str (.tmp 23) rfl (B.add i) (by kernel_rfl) (fun w1 hb => KB.out w1 hb))), .inl (.inl (ow_val hA (wants_none rfl) 25 (.bool true) (by kernel_rfl) rfl rfl rfl rfl (by kernel_rfl) (fun w => run_sneq rfl (by kernel_rfl) (by kernel_rfl) YL.out YX.out KE.out w))), trivial⟩) ?_
          case hst => intro q hq; cases hq
          intro fv w5 hf hb5
          clear hf
          simp only [putR, List.foldl_cons, List.foldl_nil, List.map_cons, List.map_nil, Act.put, List.setIfInBounds_toArray, List.set_cons_succ, List.set_cons_zero]
          refine (show wpList _ _ _ [] _ _ from ?_); refine wpList_nil ?_
          go_wp2_with fail
          go_ret
          exact ⟨congrArg (fun b => Ending.returned (.bool b)) F1.out.symm, HW.trans (hb5.mono HW.size)⟩

theorem run_rem256u {o : Oper} {a : Act} {x : Operand} {m z : Nat} (ho : o.op = .binOp .rem 39 x (.const (.int .u64 256)) 39) (hx : a.eval x = .int .u64 (m : Int)) (hz : z = m % 256) (w : World) : (execOp a.eval o).run Try.prog w = .ok (.value (.int .u64 (z : Int))) w := by
  have e3 : a.eval (.const (.int .u64 256)) = .int .u64 256 := rfl
  have h3 : (m : Int).tmod 256 = (z : Int) := by rw [Int.tmod_eq_emod_of_nonneg (by omega)]; omega
  have h4 : (z : Int) % 18446744073709551616 = (z : Int) := by omega
  unfold execOp
  simp only [ho, hx, e3]
  simp [go_sem, IntKind.wrap_u64, h3, h4]
theorem run_quo256u {o : Oper} {a : Act} {x : Operand} {m z : Nat} (ho : o.op = .binOp .quo 39 x (.const (.int .u64 256)) 39) (hx : a.eval x = .int .u64 (m : Int)) (hz : z = m / 256) (hm : m < 18446744073709551616) (w : World) : (execOp a.eval o).run Try.prog w = .ok (.value (.int .u64 (z : Int))) w := by
  have e3 : a.eval (.const (.int .u64 256)) = .int .u64 256 := rfl
  have h3 : (m : Int).tdiv 256 = (z : Int) := by rw [Int.tdiv_eq_ediv_of_nonneg (by omega)]; omega
  have h4 : (z : Int) % 18446744073709551616 = (z : Int) := by omega
  unfold execOp
  simp only [ho, hx, e3]
  simp [go_sem, IntKind.wrap_u64, h3, h4]
theorem run_mul256u {o : Oper} {a : Act} {x : Operand} {m z : Nat} (ho : o.op = .binOp .mul 39 x (.const (.int .u64 256)) 39) (hx : a.eval x = .int .u64 (m : Int)) (hz : z = m * 256) (hm : m < 72057594037927936) (w : World) : (execOp a.eval o).run Try.prog w = .ok (.value (.int .u64 (z : Int))) w := by
  have e3 : a.eval (.const (.int .u64 256)) = .int .u64 256 := rfl
  have h4 : (m : Int) * 256 % 18446744073709551616 = (z : Int) := by omega
  unfold execOp
  simp only [ho, hx, e3]
  simp [go_sem, IntKind.wrap_u64, h4]
theorem run_addu {o : Oper} {a : Act} {x y : Operand} {m n z : Nat} (ho : o.op = .binOp .add 39 x y 39) (hx : a.eval x = .int .u64 (m : Int)) (hy : a.eval y = .int .u64 (n : Int)) (hz : z = m + n) (h64 : z < 18446744073709551616) (w : World) : (execOp a.eval o).run Try.prog w = .ok (.value (.int .u64 (z : Int))) w := by
  have h4 : ((m : Int) + (n : Int)) % 18446744073709551616 = (z : Int) := by omega
  unfold execOp
  simp only [ho, hx, hy]
  simp [go_sem, IntKind.wrap_u64, h4]
theorem one_bytes (z : Nat) (w : World) : IntsV .u8 (.slice (some ⟨w.heap.size, 0, none⟩) 1 1) (w.alloc (.cells #[.int .u8 (z : Int)] 5)) [z] := arr_bytes (t := 5) (l := [z]) (blk_new w _ _) rfl

set_option maxRecDepth 100000 in
set_option maxHeartbeats 1000000 in
theorem rNumD {n : Nat} {w : World} (hn : n < 18446744073709551616) :
    Calls Try.prog 21 #[.int .u64 (n : Int)] w fun e w' => e = .returned (.string (strOf (numL n))) ∧ Below w.heap.size w w' := by
  obtain ⟨R, hR⟩ : ∃ R, R = numL n := ⟨_, rfl⟩
  rw [← hR]
  have KR : Kept (numT n 8 ++ [] = R) := ⟨by rw [hR, List.append_nil]; rfl⟩
  clear hR
  go_enter Try.func21, Try.ntmps21
  go_wp2_with fail
  go_loopg [0, 3] 8 (fun k s0 s3 wr => ∃ (m : Nat) (D : List Nat), s0 = .int .u64 (m : Int) ∧ s3 = .string (strOf D) ∧ k ≤ 8 ∧ m < 18446744073709551616 ∧ Kept (m < 256 ^ k ∧ D.length + k = 8 ∧ numT m k ++ D = R) ∧ Below w.heap.size w wr)
  case atStart => exact ⟨n, [], rfl, rfl, Nat.le_refl _, hn, ⟨hn, rfl, KR.out⟩, Below.refl _ _⟩
  case round =>
    rename World => wz
    obtain ⟨m, D, rfl, rfl, hk8, hm, KD, HB⟩ := hrel
    clear KR
    by_cases hm0 : m = 0
    case pos =>
      subst hm0
      have h0 : ¬ (0 : Int) < ((0 : Nat) : Int) := by omega
      have eD : Kept (D = R) := ⟨by have := KD.out.2.2; rwa [numT_zero, List.nil_append] at this⟩
      go_wp2_with fail
      go_ret
      exact ⟨congrArg (fun l => Ending.returned (.string (strOf l))) eD.out, HB⟩
    case neg =>
      have h0 : (0 : Int) < (m : Int) := by omega
      obtain ⟨k, hk⟩ : ∃ k, gk = k + 1 := by
        cases gk with
        | zero => have := KD.out.1; simp at this; omega
        | succ k => exact ⟨k, rfl⟩
      obtain ⟨z, hz⟩ : ∃ z, z = m % 256 := ⟨_, rfl⟩
      obtain ⟨m2, hm2⟩ : ∃ m2, m2 = m / 256 := ⟨_, rfl⟩
      have KZ : Kept _ := ⟨hz⟩
      have K2 : Kept _ := ⟨hm2⟩
      have K1 : Kept (gk = k + 1) := ⟨hk⟩
      have hm2' : m2 < 18446744073709551616 := by omega
      have KD2 : Kept (m2 < 256 ^ k ∧ (z :: D).length + k = 8 ∧ numT m2 k ++ (z :: D) = R) := ⟨by
        obtain ⟨d1, d2, d4⟩ := KD.out
        rw [hk, Nat.pow_succ] at d1
        refine ⟨by omega, by rw [List.length_cons]; omega, ?_⟩
        rw [← d4, hk]
        show _ = (if m = 0 then [] else numT (m / 256) k ++ [m % 256]) ++ D
        rw [if_neg hm0, hm2, hz, List.append_assoc]
        rfl⟩
      have LD : [z].length + D.length < 4611686018427387904 := by have := KD.out.2.1; simp; omega
      have CE : Kept (z :: D = [z] ++ D) := ⟨rfl⟩
      have hb1 : Kept (z = z % 256) := ⟨by omega⟩
      clear hz hm2 hk hm0 KD
      go_wp2_with (first | ((with_reducible refine wv_val (d := 7) ?hd ?hw (.int .u64 (z : Int)) ?hr ?_); (case hd => rfl); (case hw => kernel_rfl); (case hr => intro w; exact run_rem256u rfl (by kernel_rfl) KZ.out w); simp only [Act.put, List.setIfInBounds_toArray, List.set_cons_succ, List.set_cons_zero]) | ((with_reducible refine wv_val (d := 8) ?hd ?hw (.int .u8 (z : Int)) ?hr ?_); (case hd => rfl); (case hw => kernel_rfl); (case hr => intro w; exact run_c64b rfl (by kernel_rfl) hb1.out w); simp only [Act.put, List.setIfInBounds_toArray, List.set_cons_succ, List.set_cons_zero]) | ((with_reducible refine wv_valW (d := 10) ?hd ?hw (.string (strOf [z])) ?hr ?_); (case hd => rfl); (case hw => kernel_rfl); (case hr => exact run_str rfl (by kernel_rfl) (one_bytes z wz)); simp only [Act.put, List.setIfInBounds_toArray, List.set_cons_succ, List.set_cons_zero]) | ((with_reducible refine wv_val (d := 12) ?hd ?hw (.string (strOf (z :: D))) ?hr ?_); (case hd => rfl); (case hw => kernel_rfl); (case hr => intro w; exact run_scat rfl (by kernel_rfl) (by kernel_rfl) LD CE.out w); simp only [Act.put, List.setIfInBounds_toArray, List.set_cons_succ, List.set_cons_zero]) | ((with_reducible refine wv_val (d := 14) ?hd ?hw (.int .u64 (m2 : Int)) ?hr ?_); (case hd => rfl); (case hw => kernel_rfl); (case hr => intro w; exact run_quo256u rfl (by kernel_rfl) K2.out hm w); simp only [Act.put, List.setIfInBounds_toArray, List.set_cons_succ, List.set_cons_zero]))
      go_roundg k
      case measure => have := K1.out; omega
      case rel => exact ⟨m2, z :: D, rfl, rfl, by have := K1.out; omega, hm2', KD2, HB.trans (((Below.refl _ _).alloc (Nat.le_refl _) _).mono HB.size)⟩

theorem reads_iff {s : List Nat} (hs : Bytes s) : numL (readT (s.take 8)) = s ↔ Reads s := by
  have hb := readT_lt (s.take 8).length (s.take 8) rfl (hs.take 8)
  have h2 : 256 ^ (s.take 8).length ≤ 256 ^ 8 := Nat.pow_le_pow_right (by decide) (by rw [List.length_take]; omega)
  have hlt : readT (s.take 8) < 18446744073709551616 := by omega
  constructor
  · intro h
    refine ⟨by rw [← h]; exact numL_len _, ?_⟩
    rw [← h]
    exact numL_head _ hlt
  · intro h
    rw [List.take_of_length_le h.1]
    exact numL_of s hs h.1 h.2
set_option maxRecDepth 100000 in
set_option maxHeartbeats 1000000 in
theorem rReadD {s : List Nat} {w : World} (hs : Bytes s) (hL : s.length ≤ 40000) :
    Calls Try.prog 19 #[.string (strOf s)] w fun e w' => e = .returned (.tuple #[.int .u64 (rdV s : Int), .int .i64 (rdE s : Int)]) ∧ Below w.heap.size w w' := by
  obtain ⟨m, hm⟩ : ∃ m, m = s.length := ⟨_, rfl⟩
  obtain ⟨V, hV⟩ : ∃ V, V = rdV s := ⟨_, rfl⟩
  obtain ⟨E, hE⟩ : ∃ V, V = rdE s := ⟨_, rfl⟩
  rw [← hV, ← hE]
  have KM : Kept _ := ⟨hm⟩
  have KV : Kept _ := ⟨hV⟩
  have KE : Kept _ := ⟨hE⟩
  have KS : Kept _ := ⟨hs⟩
  have hmL : m ≤ 40000 := by omega
  clear hm hV hE hs hL
  obtain ⟨t, ht⟩ : ∃ t, t = min m 8 := ⟨_, rfl⟩
  have ht1 : t ≤ m := by omega
  have ht2 : t ≤ 8 := by omega
  have ht3 : Kept (t = m ∨ t = 8) := ⟨by omega⟩
  clear ht
  go_enter Try.func19, Try.ntmps19
  go_wp2_with fail
  go_loopg [4, 5] t (fun k s4 s5 wr => ∃ i v : Nat, i + k = t ∧ s5 = .int .i64 (i : Int) ∧ s4 = .int .u64 (v : Int) ∧ Kept (v = readT (s.take i)) ∧ wr = w)
  case atStart => exact ⟨0, 0, by omega, rfl, rfl, ⟨rfl⟩, rfl⟩
  case round =>
    obtain ⟨i, v, hik, rfl, rfl, Kv, hwr⟩ := hrel
    obtain rfl := hwr.symm
    by_cases hk0 : gk = 0
    · obtain rfl : t = i := by omega
      have e8 : s.take t = s.take 8 := by
        rcases ht3.out with h | h
        · rw [List.take_of_length_le (by rw [h, KM.out]; exact Nat.le_refl _), List.take_of_length_le (by have := KM.out; omega)]
        · rw [h]
      have hv : v = readT (s.take 8) := by rw [Kv.out, e8]
      have hb := readT_lt (s.take 8).length (s.take 8) rfl (KS.out.take 8)
      have h2 : 256 ^ (s.take 8).length ≤ 256 ^ 8 := Nat.pow_le_pow_right (by decide) (by rw [List.length_take]; omega)
      have hlt : v < 18446744073709551616 := by rw [hv]; omega
      have CN := rNumD (w := w) hlt
      obtain ⟨N, hN⟩ : ∃ N, N = numL v := ⟨_, rfl⟩
      rw [← hN] at CN
      have YN : Kept (Bytes N) := ⟨by rw [hN]; exact numL_bytes _⟩
      have fin : Kept ((N = s → V = v ∧ E = 0) ∧ (N ≠ s → V = 0 ∧ E = 4)) := ⟨by
        have hi := reads_iff KS.out
        rw [← hv, ← hN] at hi
        refine ⟨fun h => ?_, fun h => ?_⟩
        · have hR := hi.1 h
          rw [KV.out, KE.out]
          unfold rdV rdE
          rw [if_pos hR, if_pos hR]
          exact ⟨by rw [hv, List.take_of_length_le hR.1], rfl⟩
        · have hR : ¬ Reads s := fun h2 => h (hi.2 h2)
          rw [KV.out, KE.out]
          unfold rdV rdE
          rw [if_neg hR, if_neg hR]
          exact ⟨rfl, rfl⟩⟩
      clear hv hb h2 hN e8 Kv
      have tail : ∀ wx, Below w.heap.size w wx → True := fun _ _ => trivial
      clear tail
      have stop : (¬ (t : Int) < (m : Int)) ∨ ((t : Int) < (m : Int) ∧ ¬ (t : Int) < 8) := by rcases ht3.out with h | h <;> omega
      by_cases hNs : N = s
      · have K3 : Kept (false = !decide (N = s)) := ⟨by rw [decide_eq_true hNs]; rfl⟩
        obtain ⟨f1, f2⟩ := fin.out.1 hNs
        have G1 : Kept _ := ⟨f1⟩
        have G2 : Kept _ := ⟨f2⟩
        clear hNs fin f1 f2
        rcases stop with h | ⟨h, h'⟩
        all_goals
          go_wp2_with (first | ((with_reducible refine wv_val (d := 8) ?hd ?hw (.int .i64 (m : Int)) ?hr ?_); (case hd => rfl); (case hw => kernel_rfl); (case hr => intro w; exact run_slen rfl (by kernel_rfl) KM.out w); simp only [Act.put, List.setIfInBounds_toArray, List.set_cons_succ, List.set_cons_zero]))
          refine CN.mono ?_
          rintro e w2 ⟨rfl, hb2⟩
          go_wp2_with (first | ((with_reducible refine wv_val (d := 26) ?hd ?hw (.bool false) ?hr ?_); (case hd => rfl); (case hw => kernel_rfl); (case hr => intro w; exact run_sneq rfl (by kernel_rfl) (by kernel_rfl) YN.out KS.out K3.out w); simp only [Act.put, List.setIfInBounds_toArray, List.set_cons_succ, List.set_cons_zero]))
          go_ret2
          exact ⟨by rw [G1.out, G2.out]; rfl, hb2⟩
      · have K3 : Kept (true = !decide (N = s)) := ⟨by rw [decide_eq_false hNs]; rfl⟩
        obtain ⟨f1, f2⟩ := fin.out.2 hNs
        have G1 : Kept _ := ⟨f1⟩
        have G2 : Kept _ := ⟨f2⟩
        clear hNs fin f1 f2
        rcases stop with h | ⟨h, h'⟩
        all_goals
          go_wp2_with (first | ((with_reducible refine wv_val (d := 8) ?hd ?hw (.int .i64 (m : Int)) ?hr ?_); (case hd => rfl); (case hw => kernel_rfl); (case hr => intro w; exact run_slen rfl (by kernel_rfl) KM.out w); simp only [Act.put, List.setIfInBounds_toArray, List.set_cons_succ, List.set_cons_zero]))
          refine CN.mono ?_
          rintro e w2 ⟨rfl, hb2⟩
          go_wp2_with (first | ((with_reducible refine wv_val (d := 26) ?hd ?hw (.bool true) ?hr ?_); (case hd => rfl); (case hw => kernel_rfl); (case hr => intro w; exact run_sneq rfl (by kernel_rfl) (by kernel_rfl) YN.out KS.out K3.out w); simp only [Act.put, List.setIfInBounds_toArray, List.set_cons_succ, List.set_cons_zero]))
          go_ret2
          exact ⟨by rw [G1.out, G2.out]; rfl, hb2⟩
    · have hin : i < m := by omega
      have hin' : (i : Int) < (m : Int) := by omega
      have hi8 : (i : Int) < 8 := by omega
      obtain ⟨x, hx⟩ : ∃ x, s[i]? = some x := ⟨_, List.getElem?_eq_getElem (by rw [← KM.out]; exact hin)⟩
      have hx8 : x < 256 := KS.out i x hx
      have KX : Kept _ := ⟨hx⟩
      have hv7 : v < 72057594037927936 := by rw [Kv.out]; exact readT_takeB KS.out (by omega)
      obtain ⟨p, hp⟩ : ∃ p, p = v * 256 := ⟨_, rfl⟩
      obtain ⟨q, hq⟩ : ∃ q, q = p + x := ⟨_, rfl⟩
      have KP : Kept _ := ⟨hp⟩
      have KQ : Kept _ := ⟨hq⟩
      have hq64 : q < 18446744073709551616 := by omega
      clear hx hp hq
      go_wp2_with (first | ((with_reducible refine wv_val (d := 8) ?hd ?hw (.int .i64 (m : Int)) ?hr ?_); (case hd => rfl); (case hw => kernel_rfl); (case hr => intro w; exact run_slen rfl (by kernel_rfl) KM.out w); simp only [Act.put, List.setIfInBounds_toArray, List.set_cons_succ, List.set_cons_zero]) | ((with_reducible refine wv_val (d := 17) ?hd ?hw (.int .u64 (p : Int)) ?hr ?_); (case hd => rfl); (case hw => kernel_rfl); (case hr => intro w; exact run_mul256u rfl (by kernel_rfl) KP.out hv7 w); simp only [Act.put, List.setIfInBounds_toArray, List.set_cons_succ, List.set_cons_zero]) | ((with_reducible refine wv_val (d := 20) ?hd ?hw (.int .u8 (x : Int)) ?hr ?_); (case hd => rfl); (case hw => kernel_rfl); (case hr => intro w; exact run_sidx rfl (by kernel_rfl) (by kernel_rfl) KS.out KX.out w); simp only [Act.put, List.setIfInBounds_toArray, List.set_cons_succ, List.set_cons_zero]) | ((with_reducible refine wv_val (d := 21) ?hd ?hw (.int .u64 (x : Int)) ?hr ?_); (case hd => rfl); (case hw => kernel_rfl); (case hr => intro w; exact run_c864 rfl (by kernel_rfl) hx8 w); simp only [Act.put, List.setIfInBounds_toArray, List.set_cons_succ, List.set_cons_zero]) | ((with_reducible refine wv_val (d := 22) ?hd ?hw (.int .u64 (q : Int)) ?hr ?_); (case hd => rfl); (case hw => kernel_rfl); (case hr => intro w; exact run_addu rfl (by kernel_rfl) (by kernel_rfl) KQ.out hq64 w); simp only [Act.put, List.setIfInBounds_toArray, List.set_cons_succ, List.set_cons_zero]))
      go_roundg (gk - 1)
      case measure => omega
      case rel => exact ⟨i + 1, q, by omega, by simp, rfl, ⟨by rw [KQ.out, KP.out, Kv.out, readT_take KX.out]⟩, rfl⟩
end Go.Proofs.Ytfkpbmkhkhnehaa.sh
