/-
  TermOrder.
-/
import Derived.Test.YtfdldpcfdebinaaDoorDN
namespace Go.Proofs.YtfdldpcfdebinaaDoor.sh
open Go Go.RowKit
set_option linter.unusedVariables false
set_option linter.unusedSimpArgs false

theorem ValsV.take {p : Option Addr} {n c k : Nat} {w : World} {vs : List Value} (h : ValsV (.slice p n c) w vs) (hk : k ≤ vs.length) : ValsV (.slice p k c) w (vs.take k) := by
  obtain ⟨p', c', e1, h2, h3⟩ := h
  cases e1
  have hl : (vs.take k).length = k := by rw [List.length_take]; omega
  refine ⟨p, c, by rw [hl], by omega, fun hne => ?_⟩
  obtain ⟨A, rfl, hA, hc⟩ := h3 (fun e => hne (by rw [e]; simp))
  refine ⟨A, rfl, hA, fun j x hx => hc j x ?_⟩
  have hj : j < k := by
    have := (List.getElem?_eq_some_iff.1 hx).1
    omega
  rwa [List.getElem?_take_of_lt hj] at hx
theorem namesL_take {k n : Nat} (h : k ≤ n) : (namesL n).take k = namesL k := by
  unfold namesL
  rw [← List.map_take, List.take_range]
  congr 1
  rw [Nat.min_eq_left h]
theorem strs_take (ll : List (List Nat)) (k : Nat) : (strs ll).take k = strs (ll.take k) := by unfold strs; rw [List.map_take]

set_option maxRecDepth 100000 in
set_option maxHeartbeats 4000000 in
theorem order9 (v : Value) (l : List ActL) (v2 : Value) (l2 : List ActL) (w : World) (hv : ActsV v w l) (hok : ∀ x ∈ l, ActOk x) (hN : l.length ≤ maxLen) (hv2 : ActsV v2 w l2) (hok2 : ∀ x ∈ l2, ActOk x) (hN2 : l2.length ≤ maxLen) :
    Calls Tryd.prog 8 #[v, v2] w fun e w' => e = .returned (.bool true) ∧ Below w.heap.size w w' := by
  have KAl : Kept _ := ⟨alive9 w⟩
  have CH := fun w1 (q : Below w.heap.size w w1) => heavyD (hv.under q) hN
  have CH2 := fun w1 (q : Below w.heap.size w w1) => heavyD (hv2.under q) hN2
  obtain ⟨p, c, rfl, hc⟩ := acts_form hv rfl
  obtain ⟨p2, c2, rfl, hc2⟩ := acts_form hv2 rfl
  obtain ⟨n, hn⟩ : ∃ n, n = l.length := ⟨_, rfl⟩
  obtain ⟨n2, hn2⟩ : ∃ n, n = l2.length := ⟨_, rfl⟩
  rw [← hn] at hv hc hN CH ⊢
  rw [← hn2] at hv2 hc2 hN2 CH2 ⊢
  have KH : Kept _ := ⟨CH⟩
  have HN : Kept _ := ⟨hn⟩
  have HV : Kept _ := ⟨hv⟩
  have HO : Kept _ := ⟨hok⟩
  have KH2 : Kept _ := ⟨CH2⟩
  have HN2 : Kept _ := ⟨hn2⟩
  have HV2 : Kept _ := ⟨hv2⟩
  have HO2 : Kept _ := ⟨hok2⟩
  unfold maxLen at hN hN2
  clear CH hn hv hok CH2 hn2 hv2 hok2
  go_enter Tryd.func8, Tryd.ntmps8
  go_wp2_with fail
  refine KAl.out.mono ?_
  rintro e w1 ⟨rfl, q1⟩
  clear KAl
  go_wp2_with fail
  refine (KH.out _ q1).mono ?_
  rintro e w2 ⟨⟨b, rfl, hb60⟩, q2⟩
  replace q2 := q1.trans (q2.mono q1.size)
  clear KH q1
  cases b with
  | true =>
    go_wp2_with fail
    go_ret
    exact ⟨rfl, q2⟩
  | false =>
    have hlen0 := hb60 rfl
    clear hb60
    go_wp2_with fail
    refine (KH2.out _ q2).mono ?_
    rintro e w3 ⟨⟨b, rfl, hb60⟩, q3⟩
    replace q3 := q2.trans (q3.mono q2.size)
    clear KH2 q2
    cases b with
    | true =>
      go_wp2_with fail
      go_ret
      exact ⟨rfl, q3⟩
    | false =>
      have hlen2 := hb60 rfl
      clear hb60
      go_wp2_with fail
      refine NewD.mono ?_
      rintro e w4 ⟨⟨tb, M0, rfl, hT0⟩, q4⟩
      have hBw : w.heap.size ≤ w3.heap.size := q3.size
      have hQ0 := q3.trans (q4.mono q3.size)
      generalize hB : w3.heap.size = B at *
      clear q3 q4 hB
      go_wp2_with fail
      go_loopg [25] n (fun g s25 wr => ∃ (i : Nat) (M : Nat → Prop), i + g = n ∧ s25 = .int .i64 (i : Int) ∧ Tab tb B (actsL ([] : List TermL) (l.take i)) M wr ∧ Below w.heap.size w wr)
      case atStart => exact ⟨0, M0, by omega, rfl, hT0, hQ0⟩
      case round =>
        rename World => wz
        obtain ⟨i, M, hik, rfl, hT, hq⟩ := hrel
        by_cases hk0 : gk = 0
        case neg =>
          have hin : i < n := by omega
          have hin' : (i : Int) < (n : Int) := by omega
          have hi1 : (i : Int) + 1 ≤ 9223372036854775807 := by omega
          obtain ⟨x, hx⟩ : ∃ x, l[i]? = some x := ⟨_, List.getElem?_eq_getElem (by rw [← HN.out]; exact hin)⟩
          obtain ⟨A, rfl, hA, hcell⟩ := acts_at (HV.out.under hq) hx
          have KC : Kept _ := ⟨hcell⟩
          have hts : (actsL ([] : List TermL) (l.take i)).length < 1000000 := by
            have := (actsL_grows (l.take i) ([] : List TermL)).2
            rw [List.length_take] at this
            have := hlen0
            have h0 : ([] : List TermL).length = 0 := rfl
            omega
          have hxo := HO.out x (List.mem_of_getElem? hx)
          have CA := fun w1 (q : Below wz.heap.size wz w1) => actD (hT.under q) hxo hts
          obtain ⟨us, hus⟩ : ∃ us, us = (actL (actsL ([] : List TermL) (l.take i)) x).1 := ⟨_, rfl⟩
          have Kus : Kept (actsL ([] : List TermL) (l.take (i + 1)) = us) := ⟨by rw [List.take_add_one, hx, Option.toList_some, actsL_snoc, hus]⟩
          rw [← hus] at CA
          obtain ⟨AA, hAA⟩ : ∃ AA, AA = actA x := ⟨_, rfl⟩
          rw [← hAA] at CA
          have KA1 : Kept (AA.all (·.oneCell') = true) := ⟨by rw [hAA]; exact actA_one x⟩
          have KA6 : Kept (AA.size = 6) := ⟨by rw [hAA]; rfl⟩
          have KAA : Kept _ := ⟨hAA⟩
          have KCA : Kept _ := ⟨CA⟩
          clear hx hcell hus hAA CA hxo
          go_wp2_with (first | ((with_reducible refine wv_val (d := 27) ?hd ?hw (.pointer (some (A.add (i * 6)))) ?hr ?_); (case hd => rfl); (case hw => kernel_rfl); (case hr => intro w; exact run_idx6 rfl (by kernel_rfl) (by kernel_rfl) hin w); simp only [Act.put, List.setIfInBounds_toArray, List.set_cons_succ, List.set_cons_zero]) | (((with_reducible refine wv_act (d := 28) ?hd ?hw (.tmp 27) ?ho (A.add (i * 6)) ?hx (x) ?hc ?_); (case hd => rfl); (case hw => kernel_rfl); (case ho => rfl); (case hx => kernel_rfl); (case hc => exact KC.out); simp only [Act.put, List.setIfInBounds_toArray, List.set_cons_succ, List.set_cons_zero]); rw [← KAA.out]) | ((refine wl_store rfl 30 (.tmp 7) (.tmp 28) rfl wz.heap.size AA (by kernel_rfl) (by kernel_rfl) _ (blk_new wz 30 _) (by rw [KA6.out]; exact info_act) (by rw [KA6.out]; rfl) KA1.out ?_); intro w2 hb2 hp2; have q2 : Below wz.heap.size wz w2 := ((Below.refl _ _).alloc (Nat.le_refl _) _).trans (hp2.below (Nat.le_refl _)); simp only [Act.put, List.setIfInBounds_toArray, List.set_cons_succ, List.set_cons_zero]) | ((with_reducible refine wv_rowS (d := 30) ?hd ?hw 30 (.tmp 7) ?ho (wz.heap.size) ?hx (t' := 30) (AA) _ Tryd.underlying30 ?hs ?hg ?_); (case hd => rfl); (case hw => kernel_rfl); (case ho => rfl); (case hx => kernel_rfl); (case hs => rw [KA6.out]; exact info_act); (case hg => exact hb2); simp only [Act.put, List.setIfInBounds_toArray, List.set_cons_succ, List.set_cons_zero]))
          refine (KCA.out _ q2).mono ?_
          rintro e w4 ⟨rfl, hPu⟩
          obtain ⟨M2, hT2, tu⟩ := hPu.from q2
          have q4 := hq.trans ((hT.below tu).mono hBw)
          go_wp2_with fail
          go_roundg (gk - 1)
          case measure => omega
          case rel => exact ⟨i + 1, M2, by omega, by simp, by rw [Kus.out]; exact hT2, q4⟩
        case pos =>
          obtain rfl : n = i := by omega
          have et : l.take n = l := List.take_of_length_le (by rw [← HN.out]; exact Nat.le_refl _)
          rw [et] at hT
          have htsl : (actsL [] l).length ≤ 60 := by
            have := (actsL_grows l []).2
            rw [← HN.out] at this
            have h0 : ([] : List TermL).length = 0 := rfl
            omega
          generalize actsL ([] : List TermL) l = ts at hT htsl
          have KL := AllD hT (by omega)
          obtain ⟨N, hNl⟩ : ∃ N, N = ts.length := ⟨_, rfl⟩
          rw [← hNl] at KL
          have KNl : Kept _ := ⟨hNl⟩
          clear hNl et
          go_wp2_with fail
          refine KL.mono ?_
          rintro e w5 ⟨⟨V1, rfl, hV1⟩, b5⟩
          obtain ⟨p3, c3, rfl, _⟩ := vals_form (vrow_vals hV1) (show (strs (namesL N)).length = N by rw [strs_len, namesL_len])
          have hAp := hT.apart hV1 (Nat.le_refl _)
          have hT5 := hT.under b5
          have hq5 := hq.trans (b5.mono hq.size)
          generalize hB0 : wz.heap.size = B0 at *
          clear KL hT hq b5 hB0 hik
          go_wp2_with fail
          go_loopg [37] n2 (fun g s37 wr => ∃ (i : Nat) (M : Nat → Prop), i + g = n2 ∧ s37 = .int .i64 (i : Int) ∧ Tab tb B (actsL ts (l2.take i)) M wr ∧ Below w.heap.size w wr ∧ VRow B0 9 (strs (namesL N)) (.slice p3 N c3) wr ∧ (∀ b, blkOf (.slice p3 N c3) = some b → ¬ M b))
          case atStart => exact ⟨0, M, by omega, rfl, hT5, hq5, hV1, hAp⟩
          case round =>
            rename World => wy
            obtain ⟨i, M, hik, rfl, hT, hq, e1, e2⟩ := hrel
            by_cases hk0 : gk = 0
            case neg =>
              have hin : i < n2 := by omega
              have hin' : (i : Int) < (n2 : Int) := by omega
              have hi1 : (i : Int) + 1 ≤ 9223372036854775807 := by omega
              obtain ⟨x, hx⟩ : ∃ x, l2[i]? = some x := ⟨_, List.getElem?_eq_getElem (by rw [← HN2.out]; exact hin)⟩
              obtain ⟨A, rfl, hA, hcell⟩ := acts_at (HV2.out.under hq) hx
              have KC : Kept _ := ⟨hcell⟩
              have hts : (actsL ts (l2.take i)).length < 1000000 := by
                have := (actsL_grows (l2.take i) ts).2
                rw [List.length_take] at this
                have := hlen2
                have h0 := htsl
                omega
              have hxo := HO2.out x (List.mem_of_getElem? hx)
              have CA := fun w1 (q : Below wy.heap.size wy w1) => actD (hT.under q) hxo hts
              obtain ⟨us, hus⟩ : ∃ us, us = (actL (actsL ts (l2.take i)) x).1 := ⟨_, rfl⟩
              have Kus : Kept (actsL ts (l2.take (i + 1)) = us) := ⟨by rw [List.take_add_one, hx, Option.toList_some, actsL_snoc, hus]⟩
              rw [← hus] at CA
              obtain ⟨AA, hAA⟩ : ∃ AA, AA = actA x := ⟨_, rfl⟩
              rw [← hAA] at CA
              have KA1 : Kept (AA.all (·.oneCell') = true) := ⟨by rw [hAA]; exact actA_one x⟩
              have KA6 : Kept (AA.size = 6) := ⟨by rw [hAA]; rfl⟩
              have KAA : Kept _ := ⟨hAA⟩
              have KCA : Kept _ := ⟨CA⟩
              clear hx hcell hus hAA CA hxo
              go_wp2_with (first | ((with_reducible refine wv_val (d := 39) ?hd ?hw (.pointer (some (A.add (i * 6)))) ?hr ?_); (case hd => rfl); (case hw => kernel_rfl); (case hr => intro w; exact run_idx6 rfl (by kernel_rfl) (by kernel_rfl) hin w); simp only [Act.put, List.setIfInBounds_toArray, List.set_cons_succ, List.set_cons_zero]) | (((with_reducible refine wv_act (d := 40) ?hd ?hw (.tmp 39) ?ho (A.add (i * 6)) ?hx (x) ?hc ?_); (case hd => rfl); (case hw => kernel_rfl); (case ho => rfl); (case hx => kernel_rfl); (case hc => exact KC.out); simp only [Act.put, List.setIfInBounds_toArray, List.set_cons_succ, List.set_cons_zero]); rw [← KAA.out]) | ((refine wl_store rfl 30 (.tmp 10) (.tmp 40) rfl wy.heap.size AA (by kernel_rfl) (by kernel_rfl) _ (blk_new wy 30 _) (by rw [KA6.out]; exact info_act) (by rw [KA6.out]; rfl) KA1.out ?_); intro w2 hb2 hp2; have q2 : Below wy.heap.size wy w2 := ((Below.refl _ _).alloc (Nat.le_refl _) _).trans (hp2.below (Nat.le_refl _)); simp only [Act.put, List.setIfInBounds_toArray, List.set_cons_succ, List.set_cons_zero]) | ((with_reducible refine wv_rowS (d := 42) ?hd ?hw 30 (.tmp 10) ?ho (wy.heap.size) ?hx (t' := 30) (AA) _ Tryd.underlying30 ?hs ?hg ?_); (case hd => rfl); (case hw => kernel_rfl); (case ho => rfl); (case hx => kernel_rfl); (case hs => rw [KA6.out]; exact info_act); (case hg => exact hb2); simp only [Act.put, List.setIfInBounds_toArray, List.set_cons_succ, List.set_cons_zero]))
              refine (KCA.out _ q2).mono ?_
              rintro e w4 ⟨rfl, hPu⟩
              obtain ⟨M2, hT2, tu⟩ := hPu.from q2
              have q4 := hq.trans ((hT.below tu).mono hBw)
              go_wp2_with fail
              go_roundg (gk - 1)
              case measure => omega
              case rel => exact ⟨i + 1, M2, by omega, by simp, by rw [Kus.out]; exact hT2, q4, tu.vrow e1 e2, fun b hb => tu.not (e2 b hb) (e1.range b hb).2⟩
            case pos =>
              obtain rfl : n2 = i := by omega
              have et : l2.take n2 = l2 := List.take_of_length_le (by rw [← HN2.out]; exact Nat.le_refl _)
              rw [et] at hT
              obtain ⟨g1, g2⟩ := actsL_grows l2 ts
              rw [← HN2.out] at g2
              generalize actsL ts l2 = us at hT g1 g2
              have hNU : N ≤ us.length := by rw [KNl.out]; exact g1.length_le
              have KL := AllD hT (by omega)
              obtain ⟨U, hU⟩ : ∃ U, U = us.length := ⟨_, rfl⟩
              rw [← hU] at KL hNU
              have hNU' : (N : Int) ≤ (U : Int) := by omega
              have KV1 : Kept _ := ⟨e1⟩
              clear hU et e1 e2 g1 g2
              go_wp2_with fail
              refine KL.mono ?_
              rintro e w6 ⟨⟨V2, rfl, hV2⟩, b6⟩
              obtain ⟨p4, c4, rfl, hc4⟩ := vals_form (vrow_vals hV2) (show (strs (namesL U)).length = U by rw [strs_len, namesL_len])
              have hN4 : N ≤ c4 := by omega
              have hva := (vrow_vals hV2).take (k := N) (by rw [strs_len, namesL_len]; exact hNU)
              rw [strs_take, namesL_take hNU] at hva
              have CS := SameD hva (vrow_vals (KV1.out.under b6)) namesL_bytes namesL_bytes (by have := KNl.out; rw [namesL_len]; unfold maxLen; omega)
              rw [decide_eq_true rfl] at CS
              have KCS : Kept _ := ⟨CS⟩
              have q6 := hq.trans (b6.mono hq.size)
              clear KL hV2 hva CS b6 KV1
              go_wp2_with (first | ((with_reducible refine wv_val (d := 56) ?hd ?hw (.slice p4 N c4) ?hr ?_); (case hd => rfl); (case hw => kernel_rfl); (case hr => intro w; exact cutTo_run (l := U) rfl (by kernel_rfl) (by kernel_rfl) Tryd.underlying35 Tryd.sizeOf9 hN4 w); simp only [Act.put, List.setIfInBounds_toArray, List.set_cons_succ, List.set_cons_zero]))
              refine KCS.out.mono ?_
              rintro e w7 ⟨rfl, b7⟩
              go_wp2_with fail
              go_ret
              exact ⟨rfl, q6.trans (b7.mono q6.size)⟩
end Go.Proofs.YtfdldpcfdebinaaDoor.sh
