/-
  The reference's Join.
-/
import Derived.Test.YtfkpbmkhkhnehaaCL
namespace Go.Proofs.Ytfkpbmkhkhnehaa.sh
open Go Go.RowKit
set_option linter.unusedVariables false
set_option linter.unusedSimpArgs false

theorem run_quo256 {o : Oper} {a : Act} {x : Operand} {m z : Nat} (ho : o.op = .binOp .quo 3 x (.const (.int .i64 256)) 3) (hx : a.eval x = .int .i64 (m : Int)) (hz : z = m / 256) (hm : m < 4611686018427387904) (w : World) : (execOp a.eval o).run Try.prog w = .ok (.value (.int .i64 (z : Int))) w := by
  have e3 : a.eval (.const (.int .i64 256)) = .int .i64 256 := rfl
  have h3 : (m : Int).tdiv 256 = (z : Int) := by rw [Int.tdiv_eq_ediv_of_nonneg (by omega)]; omega
  unfold execOp
  simp only [ho, hx, e3]
  simp [go_sem, IntKind.wrap_i64, wrap64, h3]
  try omega
theorem run_rem256 {o : Oper} {a : Act} {x : Operand} {m z : Nat} (ho : o.op = .binOp .rem 3 x (.const (.int .i64 256)) 3) (hx : a.eval x = .int .i64 (m : Int)) (hz : z = m % 256) (w : World) : (execOp a.eval o).run Try.prog w = .ok (.value (.int .i64 (z : Int))) w := by
  have e3 : a.eval (.const (.int .i64 256)) = .int .i64 256 := rfl
  have h3 : (m : Int).tmod 256 = (z : Int) := by rw [Int.tmod_eq_emod_of_nonneg (by omega)]; omega
  unfold execOp
  simp only [ho, hx, e3]
  simp [go_sem, IntKind.wrap_i64, wrap64, h3]
  try omega
theorem run_two (x y : Nat) (w : World) : (Instr.buildSlice 46 2 #[(0, .int .u8 (x : Int)), (1, .int .u8 (y : Int))]).run Try.prog w = .ok (.slice (some ⟨w.heap.size, 0, none⟩) 2 2) (w.alloc (.cells (ints .u8 [x, y]) 5)) := by kernel_rfl
section
variable {h : List Oper} {A0 A : Act} {W0 : World} {S : Nat → Option (Value → World → Prop)} {sp O : List Nat} {E : List (Nat × Nat)} {i : Nat} {o : Oper}
/-- Two bytes in a slice of their own, in a region that draws its order. -/
theorem ow_two (hA : Full h A0 A S sp) (hw : Wants h A0 A S O E W0.heap.size i o) (d s t x y : Nat) (hd : o.dst = some d) (ho : o.op = .buildSlice 46 2 #[(0, .tmp s), (1, .tmp t)]) (hws : waitsFor h o s = true) (hwt : waitsFor h o t = true) (hx : A.tmps[s]? = some (.int .u8 (x : Int))) (hy : A.tmps[t]? = some (.int .u8 (y : Int))) (hss : sp.contains s = false) (hst : sp.contains t = false) (hEs : (E.all fun q => q.2 != s || q.1 == i) = true) (hEt : (E.all fun q => q.2 != t || q.1 == i) = true) (hO : O.contains d = false) (hp : S d = some (fun v w => BytesV v w [x, y])) : OwnOk Try.prog h A0 W0 (relR A S) O E i o :=
  ow_run hw d hd fun a w hF hB hgot => by
    have e1 := gotE_det hA hgot hws hss hEs hx
    have e2 := gotE_det hA hgot hwt hst hEt hy
    refine ⟨_, _, none, ?_, rel_spec _ hp (arr_bytes (t := 5) (l := [x, y]) (n := 2) (blk_new w _ _) rfl), grown_none ((Below.refl _ _).alloc (Nat.le_refl _) _), fun b hb => (by cases hb), fun h3 => by rw [hO] at h3; cases h3⟩
    unfold execOp
    simp only [ho]
    simp [e1, e2, run_two]
end
theorem three_bytes (k n : Nat) (w : World) : IntsV .u8 (.slice (some ⟨w.heap.size, 0, none⟩) 3 3) (w.alloc (.cells #[.int .u8 1, .int .u8 (k : Int), .int .u8 (n : Int)] 5)) [1, k, n] := arr_bytes (t := 5) (l := [1, k, n]) (blk_new w _ _) rfl

set_option maxRecDepth 100000 in
set_option maxHeartbeats 2000000 in
theorem rJoinD {k : Nat} {ll : List (List Nat)} {v : Value} {w : World} (hk : k < 256) (hv : ValsV v w (strs ll)) (hl : ∀ l ∈ ll, Bytes l ∧ l.length ≤ maxLen) :
    Calls Try.prog 13 #[.int .u8 (k : Int), v] w fun e w' => e = .returned (.tuple #[.string (strOf (joinS k ll)), .int .i64 (joinE ll : Int)]) ∧ Below w.heap.size w w' := by
  obtain ⟨p, c, rfl, hc⟩ := vals_form hv (strs_len ll)
  obtain ⟨n, hn⟩ : ∃ n, n = ll.length := ⟨_, rfl⟩
  obtain ⟨J, hJ⟩ : ∃ J, J = joinS k ll := ⟨_, rfl⟩
  obtain ⟨E, hE⟩ : ∃ J, J = joinE ll := ⟨_, rfl⟩
  rw [← hn] at hv hc ⊢
  rw [← hJ, ← hE]
  have bad : ¬ Fits ll → Ending.returned (.tuple #[.string .empty, .int .i64 3]) = .returned (.tuple #[.string (strOf J), .int .i64 (E : Int)]) := fun h => by
    rw [hJ, hE, joinS_not h, joinE_not h]
    rfl
  have KB : Kept _ := ⟨bad⟩
  have HN : Kept _ := ⟨hn⟩
  have HV : Kept _ := ⟨hv⟩
  have HL : Kept _ := ⟨hl⟩
  have HJ : Kept _ := ⟨hJ⟩
  have HE : Kept _ := ⟨hE⟩
  clear hn hv hl hJ hE bad
  by_cases h255 : 255 < n
  case pos =>
    have h' : (255 : Int) < (n : Int) := by omega
    have hF : ¬ Fits ll := fun h => by have := h.1; have := HN.out; omega
    go_enter Try.func13, Try.ntmps13
    go_wp2_with fail
    go_ret2
    exact ⟨KB.out hF, Below.refl _ _⟩
  case neg =>
    have h' : ¬ (255 : Int) < (n : Int) := by omega
    have n256 : n < 256 := by omega
    go_enter Try.func13, Try.ntmps13
    go_wp2_with (first | ((with_reducible refine wv_val (d := 15) ?hd ?hw (.int .u8 (n : Int)) ?hr ?_); (case hd => rfl); (case hw => kernel_rfl); (case hr => intro w; exact run_c38 rfl (by kernel_rfl) n256 w); simp only [Act.put, List.setIfInBounds_toArray, List.set_cons_succ, List.set_cons_zero]) | ((with_reducible refine wv_valW (d := 17) ?hd ?hw (.string (strOf [1, k, n])) ?hr ?_); (case hd => rfl); (case hw => kernel_rfl); (case hr => exact run_str rfl (by kernel_rfl) (three_bytes k n w)); simp only [Act.put, List.setIfInBounds_toArray, List.set_cons_succ, List.set_cons_zero]))
    have Q0 : Below w.heap.size w (w.alloc (.cells #[.int .u8 1, .int .u8 (k : Int), .int .u8 (n : Int)] 5)) := (Below.refl _ _).alloc (Nat.le_refl _) _
    go_loopg [6, 7] n (fun g s6 s7 wr => ∃ (i : Nat) (T0 : List Nat), i + g = n ∧ s7 = .int .i64 (i : Int) ∧ s6 = .string (strOf T0) ∧ Kept (T0 = 1 :: k :: n :: itemsL (ll.take i) ∧ ∀ x ∈ ll.take i, x.length ≤ 4000) ∧ Below w.heap.size w wr)
    case atStart => exact ⟨0, _, by omega, rfl, rfl, ⟨by simp [itemsL], fun x hx => by simp at hx⟩, Q0⟩
    case round =>
      rename World => wz
      obtain ⟨i, T0, hik, rfl, rfl, KT, HW⟩ := hrel
      clear Q0
      by_cases hk0 : gk = 0
      case pos =>
        obtain rfl : n = i := by omega
        obtain ⟨m, hm⟩ : ∃ m, m = T0.length := ⟨_, rfl⟩
        have KM : Kept _ := ⟨hm⟩
        have hA : T0 = joinL k ll ∧ ∀ x ∈ ll, x.length ≤ 4000 := by
          have := KT.out
          rw [List.take_of_length_le (by rw [← HN.out]; exact Nat.le_refl _)] at this
          unfold joinL
          rw [← HN.out]
          exact this
        by_cases h3 : 30000 < m
        case pos =>
          have hF : ¬ Fits ll := fun h => by have := h.2.2; rw [hm, hA.1, joinL_len] at h3; omega
          have h3' : (30000 : Int) < (m : Int) := by omega
          clear hm hA
          go_wp2_with (first | ((with_reducible refine wv_val (d := 47) ?hd ?hw (.int .i64 (m : Int)) ?hr ?_); (case hd => rfl); (case hw => kernel_rfl); (case hr => intro w; exact run_slen rfl (by kernel_rfl) KM.out w); simp only [Act.put, List.setIfInBounds_toArray, List.set_cons_succ, List.set_cons_zero]))
          go_ret2
          exact ⟨KB.out hF, HW⟩
        case neg =>
          have hF : Fits ll := ⟨by have := HN.out; omega, hA.2, by rw [hm, hA.1, joinL_len] at h3; omega⟩
          have fin : Kept (T0 = J ∧ E = 0) := ⟨by rw [HJ.out, HE.out, joinS_fits hF, joinE_fits hF]; exact ⟨hA.1, rfl⟩⟩
          have h3' : ¬ (30000 : Int) < (m : Int) := by omega
          clear hm hA
          go_wp2_with (first | ((with_reducible refine wv_val (d := 47) ?hd ?hw (.int .i64 (m : Int)) ?hr ?_); (case hd => rfl); (case hw => kernel_rfl); (case hr => intro w; exact run_slen rfl (by kernel_rfl) KM.out w); simp only [Act.put, List.setIfInBounds_toArray, List.set_cons_succ, List.set_cons_zero]))
          go_ret2
          exact ⟨by rw [← fin.out.1, fin.out.2]; rfl, HW⟩
      case neg =>
        have hin : i < n := by omega
        have hin' : (i : Int) < (n : Int) := by omega
        obtain ⟨l, h1, h2, h3⟩ := strs_put (show i < ll.length by rw [← HN.out]; exact hin)
        obtain ⟨A, rfl, hA, hcA⟩ := vals_at (HV.out.under HW) h2
        have KA : Kept (∀ w1, Below wz.heap.size wz w1 → w1.cell? (A.add i) = some (.string (strOf l))) := ⟨fun w1 hb => (hb.cell (by rw [add_block]; exact hA)).trans hcA⟩
        have KC : Kept _ := ⟨hcA⟩
        obtain ⟨z, hz⟩ : ∃ z, z = l.length := ⟨_, rfl⟩
        have KZ : Kept _ := ⟨hz⟩
        have KL : Kept _ := ⟨h1⟩
        have hm := items_takeB (ll := ll) (i := i) (by omega) KT.out.2
        have hzM : z ≤ 9223372036854775807 := by have := (HL.out l h3).2; unfold maxLen at this; omega
        clear h1 h2 h3 hcA hz
        by_cases h4 : 4000 < z
        case pos =>
          have h4' : (4000 : Int) < (z : Int) := by omega
          have hF : ¬ Fits ll := fun h => by have := h.2.1 l (List.mem_of_getElem? KL.out); have := KZ.out; omega
          go_wp2_with (first | ((with_reducible refine wv_val (d := 26) ?hd ?hw (.pointer (some (A.add i))) ?hr ?_); (case hd => rfl); (case hw => kernel_rfl); (case hr => intro w; exact run_idxS rfl (by kernel_rfl) (by kernel_rfl) Try.underlying22 hin Try.sizeOf9 w); simp only [Act.put, List.setIfInBounds_toArray, List.set_cons_succ, List.set_cons_zero]) | ((with_reducible refine wv_elem (d := 27) ?hd ?hw 9 ag_str (.tmp 26) ?ho (A.add i) ?hx (.string (strOf l)) ?hc ?_); (case hd => rfl); (case hw => kernel_rfl); (case ho => rfl); (case hx => kernel_rfl); (case hc => exact KC.out); simp only [Act.put, List.setIfInBounds_toArray, List.set_cons_succ, List.set_cons_zero]) | ((with_reducible refine wv_val (d := 28) ?hd ?hw (.int .i64 (z : Int)) ?hr ?_); (case hd => rfl); (case hw => kernel_rfl); (case hr => intro w; exact run_slen rfl (by kernel_rfl) KZ.out w); simp only [Act.put, List.setIfInBounds_toArray, List.set_cons_succ, List.set_cons_zero]))
          go_ret2
          exact ⟨KB.out hF, HW⟩
        case neg =>
          have h4' : ¬ (4000 : Int) < (z : Int) := by omega
          obtain ⟨x, hx⟩ : ∃ x, x = z / 256 := ⟨_, rfl⟩
          obtain ⟨y, hy⟩ : ∃ y, y = z % 256 := ⟨_, rfl⟩
          obtain ⟨T1, hT1⟩ : ∃ T1, T1 = T0 ++ [x, y] := ⟨_, rfl⟩
          obtain ⟨T2, hT2⟩ : ∃ T2, T2 = T1 ++ l := ⟨_, rfl⟩
          have KX : Kept _ := ⟨hx⟩
          have KY : Kept _ := ⟨hy⟩
          have hx8 : x < 256 := by omega
          have hy8 : y < 256 := by omega
          have hz62 : z < 4611686018427387904 := by omega
          have E1 : Kept _ := ⟨hT1⟩
          have E2 : Kept _ := ⟨hT2⟩
          have hT0 : T0.length ≤ 1020600 := by rw [KT.out.1]; simp; omega
          have B1 : T0.length + [x, y].length < 4611686018427387904 := by simp; omega
          have B2 : T1.length + l.length < 4611686018427387904 := by rw [hT1, List.length_append, ← KZ.out]; simp; omega
          have KN : Kept (T2 = 1 :: k :: n :: itemsL (ll.take (i + 1)) ∧ ∀ x ∈ ll.take (i + 1), x.length ≤ 4000) := ⟨by
            refine ⟨?_, small_take KL.out KT.out.2 (by have := KZ.out; omega)⟩
            rw [hT2, hT1, KT.out.1, items_take KL.out]
            unfold itemL
            rw [← KZ.out, ← hx, ← hy]
            simp⟩
          clear hx hy hT1 hT2 KT
          go_wp2_with (first | ((with_reducible refine wv_val (d := 26) ?hd ?hw (.pointer (some (A.add i))) ?hr ?_); (case hd => rfl); (case hw => kernel_rfl); (case hr => intro w; exact run_idxS rfl (by kernel_rfl) (by kernel_rfl) Try.underlying22 hin Try.sizeOf9 w); simp only [Act.put, List.setIfInBounds_toArray, List.set_cons_succ, List.set_cons_zero]) | ((with_reducible refine wv_elem (d := 27) ?hd ?hw 9 ag_str (.tmp 26) ?ho (A.add i) ?hx (.string (strOf l)) ?hc ?_); (case hd => rfl); (case hw => kernel_rfl); (case ho => rfl); (case hx => kernel_rfl); (case hc => exact KC.out); simp only [Act.put, List.setIfInBounds_toArray, List.set_cons_succ, List.set_cons_zero]) | ((with_reducible refine wv_val (d := 28) ?hd ?hw (.int .i64 (z : Int)) ?hr ?_); (case hd => rfl); (case hw => kernel_rfl); (case hr => intro w; exact run_slen rfl (by kernel_rfl) KZ.out w); simp only [Act.put, List.setIfInBounds_toArray, List.set_cons_succ, List.set_cons_zero]))
          refine region_skipM wz 15 [(31, .string (strOf T0)), (32, .int .i64 (z : Int)), (33, .int .i64 (x : Int)), (34, .int .u8 (x : Int)), (35, .int .i64 (z : Int)), (36, .int .i64 (y : Int)), (37, .int .u8 (y : Int)), (39, .string (strOf [x, y])), (40, .string (strOf T1)), (41, .slice (some A) n c), (42, .int .i64 (i : Int)), (43, .pointer (some (A.add i))), (44, .string (strOf l)), (45, .string (strOf T2))] [(38, fun v w => BytesV v w [x, y])] rfl (by kernel_rfl) (by kernel_rfl) (by kernel_rfl) (by kernel_rfl) (by kernel_rfl) (by kernel_rfl) (by kernel_rfl) (by kernel_rfl) ?hst (Below.refl _ _) (fun hA => ⟨.inl (.inl (ow_val hA (wants_none rfl) 31 (.string (strOf T0)) (by kernel_rfl) rfl rfl rfl rfl (by kernel_rfl) (fun w => by kernel_rfl))), .inl (.inl (ow_val hA (wants_none rfl) 32 (.int .i64 (z : Int)) (by kernel_rfl) rfl rfl rfl rfl (by kernel_rfl) (fun w => by kernel_rfl))), .inl (.inl (ow_val hA (wants_none rfl) 33 (.int .i64 (x : Int)) (by kernel_rfl) rfl rfl rfl rfl (by kernel_rfl) (fun w => run_quo256 rfl (by kernel_rfl) KX.out hz62 w))), .inl (.inl (ow_val hA (wants_none rfl) 34 (.int .u8 (x : Int)) (by kernel_rfl) rfl rfl rfl rfl (by kernel_rfl) (fun w => run_c38 rfl (by kernel_rfl) hx8 w))), .inl (.inl (ow_val hA (wants_none rfl) 35 (.int .i64 (z : Int)) (by kernel_rfl) rfl rfl rfl rfl (by kernel_rfl) (fun w => by kernel_rfl))), .inl (.inl (ow_val hA (wants_none rfl) 36 (.int .i64 (y : Int)) (by kernel_rfl) rfl rfl rfl rfl (by kernel_rfl) (fun w => run_rem256 rfl (by kernel_rfl) KY.out w))), .inl (.inl (ow_val hA (wants_none rfl) 37 (.int .u8 (y : Int)) (by kernel_rfl) rfl rfl rfl rfl (by kernel_rfl) (fun w => run_c38 rfl (by kernel_rfl) hy8 w))), .inl (.inl (ow_two hA (wants_none rfl) 38 34 37 x y rfl rfl (by kernel_rfl) (by kernel_rfl) (by kernel_rfl) (by kernel_rfl) rfl rfl rfl rfl rfl rfl)), .inl (.inl (ow_pureD hA (wants_none rfl) 39 38 rfl _ (.string (strOf [x, y])) rfl rfl (by kernel_rfl) (by kernel_rfl) rfl rfl (fun a w1 h1 => run_str rfl rfl h1))), .inl (.inl (ow_val hA (wants_none rfl) 40 (.string (strOf T1)) (by kernel_rfl) rfl rfl rfl rfl (by kernel_rfl) (fun w => run_scat rfl (by kernel_rfl) (by kernel_rfl) B1 E1.out w))), .inl (.inl (ow_val hA (wants_none rfl) 41 (.slice (some A) n c) (by kernel_rfl) rfl rfl rfl rfl (by kernel_rfl) (fun w => by kernel_rfl))), .inl (.inl (ow_val hA (wants_none rfl) 42 (.int .i64 (i : Int)) (by kernel_rfl) rfl rfl rfl rfl (by kernel_rfl) (fun w => by kernel_rfl))), .inl (.inl (ow_val hA (wants_none rfl) 43 (.pointer (some (A.add i))) (by kernel_rfl) rfl rfl rfl rfl (by kernel_rfl) (fun w => run_idxS (c := c) rfl (by kernel_rfl) (by kernel_rfl) Try.underlying22 hin Try.sizeOf9 w))), .inl (.inl (ow_elem hA (wants_none rfl) 44 (.string (strOf l)) (by kernel_rfl) rfl rfl rfl rfl (by kernel_rfl) 9 ag_str (.tmp 43) rfl (A.add i) (by kernel_rfl) (fun w1 hb => KA.out w1 hb))), .inl (.inl (ow_val hA (wants_none rfl) 45 (.string (strOf T2)) (by kernel_rfl) rfl rfl rfl rfl (by kernel_rfl) (fun w => run_scat rfl (by kernel_rfl) (by kernel_rfl) B2 E2.out w))), trivial⟩) ?_
          case hst => intro q hq v w w' h1 h2; simp only [List.mem_singleton] at hq; subst hq; exact h1.under h2
          intro fv w5 hf hb5
          clear hf
          simp only [putR, List.foldl_cons, List.foldl_nil, List.map_cons, List.map_nil, Act.put, List.setIfInBounds_toArray, List.set_cons_succ, List.set_cons_zero]
          go_wp2_with fail
          go_roundg (gk - 1)
          case measure => omega
          case rel => exact ⟨i + 1, T2, by omega, by simp, rfl, KN, HW.trans (hb5.mono HW.size)⟩
end Go.Proofs.Ytfkpbmkhkhnehaa.sh
