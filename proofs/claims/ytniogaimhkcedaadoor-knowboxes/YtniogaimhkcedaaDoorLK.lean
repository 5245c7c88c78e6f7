/-
  KnowTells.
-/
import Derived.Test.YtniogaimhkcedaaDoorLJ
namespace Go.Proofs.YtniogaimhkcedaaDoor.sh
open Go Go.RowKit
set_option linter.unusedVariables false
set_option linter.unusedSimpArgs false

set_option maxRecDepth 100000 in
set_option maxHeartbeats 8000000 in
theorem tells10 (v : Value) (l : List ActK) (u : Value) (told text : List Nat) (w : World) (hv : ActV v w l) (hok : ∀ x ∈ l, ActKOk x) (hZ : l.length * 32 ≤ reachBytes) (hu : BytesV u w told) (hy : Bytes told) (hl : told.length ≤ maxLen) (hty : Bytes text) (htl : text.length ≤ maxLen) :
    Calls Tryd.prog 3 #[v, u, .string (strOf text)] w fun e w' => e = .returned (.bool true) ∧ Below w.heap.size w w' := by
  have KAl : Kept _ := ⟨alive10 w⟩
  have KV : Kept _ := ⟨hv⟩
  have KO : Kept (∀ x ∈ l, ActKOk x) := ⟨hok⟩
  have KU : Kept _ := ⟨hu⟩
  have Kty : Kept (Bytes told) := ⟨hy⟩
  have Ktl : Kept (told.length ≤ maxLen) := ⟨hl⟩
  have Kxy : Kept (Bytes text) := ⟨hty⟩
  obtain ⟨nt, hnt⟩ : ∃ n, n = text.length := ⟨_, rfl⟩
  have Knt : Kept _ := ⟨hnt⟩
  clear hv hok hZ hu hy hl hty htl hnt
  go_enter Tryd.func3, Tryd.ntmps3
  go_wp2_with fail
  refine KAl.out.mono ?_
  rintro e w1 ⟨rfl, q1⟩
  have Kq1 : Kept _ := ⟨q1⟩
  clear q1 KAl
  go_wp2_with fail
  refine (madeK (KV.out.under Kq1.out) KO.out).mono ?_
  rintro e w2 ⟨⟨tb, M, Vm, rfl, hT, hS⟩, q2⟩
  have Kts : Kept (TermsK (actsK [] (l.take 30)) ∧ (actsK [] (l.take 30)).length ≤ 30) := ⟨termsK_nil.acts (fun x hx => (KO.out x (List.mem_of_mem_take hx)).s), by
    have := actsK_len (l.take 30) []
    rw [List.length_take] at this
    have h0 : ([] : List TermL).length = 0 := rfl
    omega⟩
  generalize actsK [] (l.take 30) = ts at *
  have Kq2 : Kept _ := ⟨Kq1.out.trans (q2.mono Kq1.out.size)⟩
  obtain ⟨N, hN⟩ : ∃ N, N = ts.length := ⟨_, rfl⟩
  obtain ⟨pm, cm, rfl, _⟩ := ts_form hS hN.symm
  have KN : Kept _ := ⟨hN⟩
  have hN30 : N ≤ 30 := by rw [hN]; exact Kts.out.2
  have KsM : Kept (ts.length < 1000000) := ⟨by omega⟩
  have KT : Kept _ := ⟨hT⟩
  have KS : Kept _ := ⟨hS⟩
  clear q2 hT hS hN
  by_cases h2 : 2000 < nt
  case pos =>
    have h2' : (2000 : Int) < (nt : Int) := by omega
    go_wp2_with (first | ((with_reducible refine wv_val (d := 26) ?hd ?hw (.int .i64 (nt : Int)) ?hr ?_); (case hd => rfl); (case hw => kernel_rfl); (case hr => intro w; exact run_slen rfl (by kernel_rfl) Knt.out w); simp only [Act.put, List.setIfInBounds_toArray, List.set_cons_succ, List.set_cons_zero]))
    go_ret
    exact ⟨rfl, Kq2.out⟩
  case neg =>
    have h2' : ¬ (2000 : Int) < (nt : Int) := by omega
    have Ktx : Kept (text.length ≤ 40000) := ⟨by rw [← Knt.out]; omega⟩
    go_wp2_with (first | ((with_reducible refine wv_val (d := 26) ?hd ?hw (.int .i64 (nt : Int)) ?hr ?_); (case hd => rfl); (case hw => kernel_rfl); (case hr => intro w; exact run_slen rfl (by kernel_rfl) Knt.out w); simp only [Act.put, List.setIfInBounds_toArray, List.set_cons_succ, List.set_cons_zero]))
    refine (namesD KT.out KsM.out (IntsV.under KU.out Kq2.out) Kty.out Ktl.out).mono ?_
    rintro e w3 ⟨⟨Vg, rfl, hVg⟩, q3⟩
    obtain ⟨given, hg⟩ : ∃ g, g = givenK ts.length told := ⟨_, rfl⟩
    rw [← hg] at hVg
    have Kgn : Kept (NameT given ∧ given.length ≤ 30) := ⟨by rw [hg]; exact ⟨(givenK_elder _ _).names, givenK_len _ _⟩⟩
    have KVg : Kept _ := ⟨vrow_vals hVg⟩
    obtain ⟨ng, hng⟩ : ∃ n, n = given.length := ⟨_, rfl⟩
    obtain ⟨pg, cg, rfl, _⟩ := vals_form KVg.out (show (strs given).length = ng by rw [strs_len, hng])
    obtain ⟨b, hb⟩ := isK_ex ts given
    have Kb : Kept _ := ⟨hb⟩
    have Kq3 : Kept _ := ⟨q3⟩
    have KNe : Kept _ := ⟨NewK (KT.out.under q3) Kts.out.1.toB (by have := Kts.out.2; omega) KVg.out Kgn.out.1.bytes (by rw [Kgn.out.1.weight]; have := Kgn.out.2; omega) hb⟩
    clear hVg hg hng hb q3
    go_wp2_with fail
    refine KNe.out.mono ?_
    rintro e w4 ⟨⟨sb, rfl, hSb⟩, q4⟩
    have q24 := Kq3.out.trans (q4.mono Kq3.out.size)
    have KSb : Kept _ := ⟨hSb⟩
    have KRN : Kept _ := ⟨rNewD (KS.out.under q24) Kts.out.1.toB (by have := Kts.out.2; omega) (KVg.out.under q4) Kgn.out.1.small (by have := Kgn.out.2; omega) Kb.out⟩
    have Kq24 : Kept _ := ⟨q24⟩
    clear hSb q4 q24 KNe
    go_wp2_with fail
    refine KRN.out.mono ?_
    rintro e w5 ⟨⟨VH, rfl, hVH⟩, q5⟩
    have KbN : Kept (b.length = N) := ⟨by rw [Kb.out.1, KN.out]⟩
    obtain ⟨pH, cH, rfl, _⟩ := vals_form (vrow_vals hVH) (show (b.map Value.bool).length = N by rw [List.length_map, KbN.out])
    have KVH : Kept _ := ⟨vrow_vals hVH⟩
    have KSb5 : Kept _ := ⟨KSb.out.under q5⟩
    have q25 := Kq24.out.trans (q5.mono Kq24.out.size)
    have KT5 : Kept _ := ⟨KT.out.under q25⟩
    have KS5 : Kept _ := ⟨KS.out.under q25⟩
    have Kq5 : Kept _ := ⟨Kq2.out.trans (q25.mono Kq2.out.size)⟩
    clear hVH q5 q25 KSb KT KS KRN Kq24 Kq3 KVg
    go_wp2_with fail
    refine (AllD KT5.out KsM.out).mono ?_
    rintro e w6 ⟨⟨Va, rfl, hVa⟩, q6⟩
    obtain ⟨pa, ca, rfl, _⟩ := vals_form (vrow_vals hVa) (show (strs (namesL ts.length)).length = N by rw [strs_len, namesL_len, KN.out])
    have KVa : Kept _ := ⟨vrow_vals hVa⟩
    have KVH6 : Kept _ := ⟨KVH.out.under q6⟩
    have KSb6 : Kept _ := ⟨KSb5.out.under q6⟩
    have KS6 : Kept _ := ⟨KS5.out.under q6⟩
    have Kq6 : Kept _ := ⟨Kq5.out.trans (q6.mono Kq5.out.size)⟩
    clear hVa q6 KVH KSb5 KS5 KT5 Kq5
    go_wp2_with fail
    go_loopg [12, 45] N (fun g s12 s45 wr => ∃ i : Nat, i + g = N ∧ s45 = .int .i64 (i : Int) ∧ s12 = .int .i64 ((cntB (b.take i) : Nat) : Int) ∧ Below w6.heap.size w6 wr)
    case atStart => exact ⟨0, by omega, rfl, rfl, Below.refl _ _⟩
    case round =>
      rename World => wz
      obtain ⟨i, hik, rfl, rfl, hbz⟩ := hrel
      by_cases hk0 : gk = 0
      case neg =>
        have hin : i < N := by omega
        have hin' : (i : Int) < (N : Int) := by omega
        have hi1 : (i : Int) + 1 ≤ 9223372036854775807 := by omega
        obtain ⟨A, rfl, hA, hcell⟩ := vals_at (KVa.out.under hbz) (strs_get (namesL_get (i := i) (by rw [← KN.out]; exact hin)))
        obtain ⟨bx, hbx⟩ : ∃ bx, b[i]? = some bx := ⟨_, List.getElem?_eq_getElem (by rw [KbN.out]; exact hin)⟩
        obtain ⟨A2, rfl, hA2, hc2⟩ := vals_at (KVH6.out.under hbz) (show (b.map Value.bool)[i]? = some (.bool bx) by rw [List.getElem?_map, hbx]; rfl)
        have hf := has_name KsM.out (by rw [← KN.out]; exact hin) hbx
        obtain ⟨T, hT⟩ : ∃ T, T = termN (i + 1) := ⟨_, rfl⟩
        rw [← hT] at hcell hf
        have KHas : Kept (∀ w1, Below wz.heap.size wz w1 → _) := ⟨fun w1 q => HasD (s := T) ((KSb6.out.under hbz).under q) KsM.out (by rw [hT]; exact termN_bytes _) (by rw [hT, termN_len]; decide) hf⟩
        have KC : Kept _ := ⟨hcell⟩
        have KC2 : Kept (∀ w1, Below wz.heap.size wz w1 → w1.cell? (A2.add i) = some (.bool bx)) := ⟨fun w1 q => (q.cell (by rw [add_block]; exact hA2)).trans hc2⟩
        obtain ⟨ct, hct⟩ : ∃ c, c = cntB (b.take i) := ⟨_, rfl⟩
        have Kct : Kept (cntB (b.take (i + 1)) = ct + (if bx = true then 1 else 0)) := ⟨by rw [cnt_take hbx, hct]⟩
        have hctN : ct ≤ i := by rw [hct]; have := cnt_le (b.take i); rw [List.length_take] at this; omega
        have hct1 : (ct : Int) + 1 ≤ 9223372036854775807 := by omega
        have Kbz : Kept _ := ⟨hbz⟩
        rw [← hct]
        clear hcell hbx hc2 hf hT hct hbz
        go_wp2_with (first | ((with_reducible refine wv_val (d := 48) ?hd ?hw (.pointer (some (A.add i))) ?hr ?_); (case hd => rfl); (case hw => kernel_rfl); (case hr => intro w; exact run_idxS (c := ca) rfl (by kernel_rfl) (by kernel_rfl) Tryd.underlying29 hin Tryd.sizeOf9 w); simp only [Act.put, List.setIfInBounds_toArray, List.set_cons_succ, List.set_cons_zero]) | ((with_reducible refine wv_elem (d := 49) ?hd ?hw 9 ag_str (.tmp 48) ?ho (A.add i) ?hx (.string (strOf T)) ?hc ?_); (case hd => rfl); (case hw => kernel_rfl); (case ho => rfl); (case hx => kernel_rfl); (case hc => exact KC.out); simp only [Act.put, List.setIfInBounds_toArray, List.set_cons_succ, List.set_cons_zero]))
        refine region_ownL wz 8 [(50, .pointer (some ⟨sb, 0, none⟩)), (51, .string (strOf T)), (52, .bool bx), (53, .slice (some A2) N cH), (54, .int .i64 (i : Int)), (55, .pointer (some (A2.add i))), (56, .bool bx), (57, .bool false)] [] [] [] rfl (by kernel_rfl) (by kernel_rfl) (by kernel_rfl) (by kernel_rfl) (by kernel_rfl) (by kernel_rfl) (by kernel_rfl) (by kernel_rfl) (by kernel_rfl) (by kernel_rfl) (by kernel_rfl) ?hst1 ?hst2 (Below.refl _ _) (fun hA => ⟨ow_val hA (wants_none rfl) 50 (.pointer (some ⟨sb, 0, none⟩)) (by kernel_rfl) rfl rfl rfl rfl (by kernel_rfl) (fun w => by kernel_rfl), ow_val hA (wants_none rfl) 51 (.string (strOf T)) (by kernel_rfl) rfl rfl rfl rfl (by kernel_rfl) (fun w => by kernel_rfl), ow_calld hA (wants_none rfl) 52 (.bool bx) (by kernel_rfl) rfl rfl rfl rfl (by kernel_rfl) 15 Tryd.f15 _ [.tmp 50, .tmp 51] _ [.pointer (some ⟨sb, 0, none⟩), .string (strOf T)] rfl (by kernel_rfl) Tryd.func15 (by kernel_rfl) rfl (KHas.out), ow_val hA (wants_none rfl) 53 (.slice (some A2) N cH) (by kernel_rfl) rfl rfl rfl rfl (by kernel_rfl) (fun w => by kernel_rfl), ow_val hA (wants_none rfl) 54 (.int .i64 (i : Int)) (by kernel_rfl) rfl rfl rfl rfl (by kernel_rfl) (fun w => by kernel_rfl), ow_val hA (wants_none rfl) 55 (.pointer (some (A2.add i))) (by kernel_rfl) rfl rfl rfl rfl (by kernel_rfl) (fun w => run_idxS (c := cH) rfl (by kernel_rfl) (by kernel_rfl) Tryd.underlying33 hin Tryd.sizeOf4 w), ow_elem hA (wants_none rfl) 56 (.bool bx) (by kernel_rfl) rfl rfl rfl rfl (by kernel_rfl) 4 Tryd.isAgg4 (.tmp 55) rfl (A2.add i) (by kernel_rfl) (fun w1 hb => KC2.out w1 hb), ow_val hA (wants_none rfl) 57 (.bool false) (by kernel_rfl) rfl rfl rfl rfl (by kernel_rfl) (fun w => run_neBB (b := bx) rfl (by kernel_rfl) (by kernel_rfl) w), trivial⟩) ?_
        case hst1 => intro q hq; cases hq
        case hst2 => intro q hq; cases hq
        intro fv w7 hf hD hb7
        simp only [putR, List.foldl_cons, List.foldl_nil, List.map_cons, List.map_nil, Act.put, List.setIfInBounds_toArray, List.set_cons_succ, List.set_cons_zero]
        refine wpList_nil ?_
        have KC7 : Kept _ := ⟨KC2.out w7 hb7⟩
        have Kb7 : Kept _ := ⟨Kbz.out.trans (hb7.mono Kbz.out.size)⟩
        clear hf hD hb7
        cases bx with
        | false =>
          have Ks : Kept (cntB (b.take (i + 1)) = ct) := ⟨by rw [Kct.out]; simp⟩
          go_wp2_with (first | ((with_reducible refine wv_val (d := 60) ?hd ?hw (.pointer (some (A2.add i))) ?hr ?_); (case hd => rfl); (case hw => kernel_rfl); (case hr => intro w; exact run_idxS (c := cH) rfl (by kernel_rfl) (by kernel_rfl) Tryd.underlying33 hin Tryd.sizeOf4 w); simp only [Act.put, List.setIfInBounds_toArray, List.set_cons_succ, List.set_cons_zero]) | ((with_reducible refine wv_elem (d := 61) ?hd ?hw 4 Tryd.isAgg4 (.tmp 60) ?ho (A2.add i) ?hx (.bool false) ?hc ?_); (case hd => rfl); (case hw => kernel_rfl); (case ho => rfl); (case hx => kernel_rfl); (case hc => exact KC7.out); simp only [Act.put, List.setIfInBounds_toArray, List.set_cons_succ, List.set_cons_zero]))
          go_roundg (gk - 1)
          case measure => omega
          case rel => exact ⟨i + 1, by omega, by simp, by rw [Ks.out], Kb7.out⟩
        | true =>
          have Ks : Kept (cntB (b.take (i + 1)) = ct + 1) := ⟨by rw [Kct.out]; simp⟩
          go_wp2_with (first | ((with_reducible refine wv_val (d := 60) ?hd ?hw (.pointer (some (A2.add i))) ?hr ?_); (case hd => rfl); (case hw => kernel_rfl); (case hr => intro w; exact run_idxS (c := cH) rfl (by kernel_rfl) (by kernel_rfl) Tryd.underlying33 hin Tryd.sizeOf4 w); simp only [Act.put, List.setIfInBounds_toArray, List.set_cons_succ, List.set_cons_zero]) | ((with_reducible refine wv_elem (d := 61) ?hd ?hw 4 Tryd.isAgg4 (.tmp 60) ?ho (A2.add i) ?hx (.bool true) ?hc ?_); (case hd => rfl); (case hw => kernel_rfl); (case ho => rfl); (case hx => kernel_rfl); (case hc => exact KC7.out); simp only [Act.put, List.setIfInBounds_toArray, List.set_cons_succ, List.set_cons_zero]))
          go_roundg (gk - 1)
          case measure => omega
          case rel => exact ⟨i + 1, by omega, by simp, by rw [Ks.out]; simp, Kb7.out⟩
      case pos =>
        obtain rfl : N = i := by omega
        have et : b.take N = b := List.take_of_length_le (by rw [KbN.out]; exact Nat.le_refl _)
        rw [et]
        obtain ⟨ct, hct⟩ : ∃ c, c = cntB b := ⟨_, rfl⟩
        have Kct : Kept ((strs (namesB b)).length = ct) := ⟨by rw [strs_len, names_len, hct]⟩
        rw [← hct]
        have KTe : Kept _ := ⟨TermsD (KSb6.out.under hbz) KsM.out⟩
        obtain ⟨g, hg⟩ := ex_bool (KnownS ts (hadP b) text)
        have Kg : Kept (Tells g (KnownS ts (hadP b) text)) := ⟨hg⟩
        have Kbz : Kept _ := ⟨hbz⟩
        clear hct et hg hbz
        go_wp2_with fail
        refine KTe.out.mono ?_
        rintro e w8 ⟨⟨Vt, rfl, hVt⟩, q8⟩
        obtain ⟨p8, c8, rfl, _⟩ := vals_form (vrow_vals hVt) Kct.out
        have Kb8 : Kept _ := ⟨Kbz.out.trans (q8.mono Kbz.out.size)⟩
        have KHa : Kept _ := ⟨HasD (KSb6.out.under Kb8.out) KsM.out Kxy.out Ktx.out Kg.out⟩
        clear hVt q8 KTe
        go_wp2_with fail
        refine KHa.out.mono ?_
        rintro e w9 ⟨rfl, q9⟩
        have Kb9 : Kept _ := ⟨Kb8.out.trans (q9.mono Kb8.out.size)⟩
        have KKn : Kept _ := ⟨KnownD (KS6.out.under Kb9.out) KsM.out (KVH6.out.under Kb9.out) Kb.out.1 Kxy.out Ktx.out Kg.out⟩
        clear q9 KHa
        go_wp2_with fail
        refine KKn.out.mono ?_
        rintro e wa ⟨rfl, qa⟩
        have Kba : Kept _ := ⟨Kb9.out.trans (qa.mono Kb9.out.size)⟩
        clear qa KKn
        go_wp2_with (first | ((with_reducible refine wv_val (d := 78) ?hd ?hw (.bool true) ?hr ?_); (case hd => rfl); (case hw => kernel_rfl); (case hr => intro w; exact run_eqTT rfl (by kernel_rfl) (by kernel_rfl) w); simp only [Act.put, List.setIfInBounds_toArray, List.set_cons_succ, List.set_cons_zero]))
        go_ret
        exact ⟨rfl, Kq6.out.trans (Kba.out.mono Kq6.out.size)⟩
end Go.Proofs.YtniogaimhkcedaaDoor.sh
