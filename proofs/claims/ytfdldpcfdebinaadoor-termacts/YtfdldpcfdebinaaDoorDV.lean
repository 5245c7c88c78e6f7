/-
  TermActs.
-/
import Derived.Test.YtfdldpcfdebinaaDoorDU
namespace Go.Proofs.YtfdldpcfdebinaaDoor.sh
open Go Go.RowKit
set_option linter.unusedVariables false
set_option linter.unusedSimpArgs false

theorem run_neBB {o : Oper} {a : Act} {x y : Operand} {u : TypeId} {b : Bool} (ho : o.op = .binOp .neq 4 x y u) (hx : a.eval x = .bool b) (hy : a.eval y = .bool b) (w : World) : (execOp a.eval o).run Tryd.prog w = .ok (.value (.bool false)) w := by
  unfold execOp
  simp only [ho, hx, hy]
  cases b <;> kernel_rfl
theorem dhL_bytes (ts : List TermL) (a b : List Nat) : Bytes (dhL ts a b).2.1 := by
  unfold dhL
  split
  · split
    · exact nil_bytes
    · exact putL_bytes _ _
  · exact nil_bytes
theorem actL_bytes (ts : List TermL) (x : ActL) : Bytes (actL ts x).2.1 := by
  have h5 : x.kind % 5 = 0 ∨ x.kind % 5 = 1 ∨ x.kind % 5 = 2 ∨ x.kind % 5 = 3 ∨ x.kind % 5 = 4 := by omega
  rcases h5 with h | h | h | h | h
  · rw [actL_atom h]; exact putL_bytes _ _
  · rw [actL_pub h]; exact putL_bytes _ _
  · rw [actL_dh h]; exact dhL_bytes _ _ _
  · rw [actL_hash h]; exact putL_bytes _ _
  · rw [actL_seal h]; exact putL_bytes _ _
/-- A table and the reference's list, of the same terms, apart from each other. -/
def Both9 (tb B : Nat) (w0 : World) (ts : List TermL) (v : Value) (w : World) : Prop := ∃ (M D : Nat → Prop), Tab tb B ts M w ∧ TsV D v w ts ∧ (∀ b, D b → ¬ M b ∧ b < w.heap.size) ∧ Below w0.heap.size w0 w

set_option maxRecDepth 100000 in
set_option maxHeartbeats 4000000 in
theorem acts9 (v : Value) (l : List ActL) (w : World) (hv : ActsV v w l) (hok : ∀ x ∈ l, ActOk x) (hN : l.length ≤ maxLen) :
    Calls Tryd.prog 3 #[v] w fun e w' => e = .returned (.bool true) ∧ Below w.heap.size w w' := by
  have KAl : Kept _ := ⟨alive9 w⟩
  have CH := fun w1 (q : Below w.heap.size w w1) => heavyD (hv.under q) hN
  obtain ⟨p, c, rfl, hc⟩ := acts_form hv rfl
  obtain ⟨n, hn⟩ : ∃ n, n = l.length := ⟨_, rfl⟩
  rw [← hn] at hv hc hN CH ⊢
  have KH : Kept _ := ⟨CH⟩
  have HN : Kept _ := ⟨hn⟩
  have HV : Kept _ := ⟨hv⟩
  have HO : Kept _ := ⟨hok⟩
  unfold maxLen at hN
  clear CH hn hv hok
  go_enter Tryd.func3, Tryd.ntmps3
  go_wp2_with fail
  refine KAl.out.mono ?_
  rintro e w1 ⟨rfl, q1⟩
  clear KAl
  go_wp2_with fail
  refine NewD.mono ?_
  rintro e w2 ⟨⟨tb, M0, rfl, hT0⟩, q2⟩
  have hBw : w.heap.size ≤ w1.heap.size := q1.size
  have hQ0 := q1.trans (q2.mono q1.size)
  generalize hB : w1.heap.size = B at *
  clear q1 q2 hB
  go_wp2_with fail
  refine (KH.out _ hQ0).mono ?_
  rintro e w3 ⟨⟨hvy, rfl, hb60⟩, q3⟩
  have hT3 := hT0.under q3
  have hQ3 := hQ0.trans (q3.mono hQ0.size)
  clear hT0 hQ0 q3 KH
  cases hvy with
  | true =>
    go_wp2_with fail
    go_ret
    exact ⟨rfl, hQ3⟩
  | false =>
    have hlen0 := hb60 rfl
    clear hb60
    go_wp2_with fail
    go_loopg [4, 26] n (fun g s4 s26 wr => ∃ i : Nat, i + g = n ∧ s26 = .int .i64 (i : Int) ∧ Both9 tb B w (actsL [] (l.take i)) s4 wr)
    case atStart => exact ⟨0, by omega, rfl, M0, fun _ => False, hT3, ts_nil _ _, fun b h => h.elim, hQ3⟩
    case round =>
      rename World => wz
      clear hT3 hQ3
      obtain ⟨i, hik, rfl, hBo⟩ := hrel
      obtain ⟨M, D, hT, hS, hD, hq⟩ := hBo
      by_cases hk0 : gk = 0
      case neg =>
        have hin : i < n := by omega
        have hin' : (i : Int) < (n : Int) := by omega
        have hi1 : (i : Int) + 1 ≤ 9223372036854775807 := by omega
        obtain ⟨x, hx⟩ : ∃ x, l[i]? = some x := ⟨_, List.getElem?_eq_getElem (by rw [← HN.out]; exact hin)⟩
        obtain ⟨A, rfl, hA, hcell⟩ := acts_at (HV.out.under hq) hx
        have KC : Kept _ := ⟨hcell⟩
        have hts : (actsL ([] : List TermL) (l.take i)).length ≤ 60 := by
          have := (actsL_grows (l.take i) []).2
          rw [List.length_take] at this
          have := hlen0
          have h0 : ([] : List TermL).length = 0 := rfl
          omega
        have hxo := HO.out x (List.mem_of_getElem? hx)
        have hsn : actsL ([] : List TermL) (l.take (i + 1)) = (actL (actsL [] (l.take i)) x).1 := by rw [List.take_add_one, hx, Option.toList_some, actsL_snoc]
        generalize actsL ([] : List TermL) (l.take i) = ts at *
        have hts6 : ts.length < 1000000 := by omega
        have hus6 : (actL ts x).1.length < 1000000 := by
          have := (actL_grows ts x).2
          omega
        have CA := fun w3 (q : Below wz.heap.size wz w3) => actD (hT.under q) hxo hts6
        have CT := fun w2 (q : Below wz.heap.size wz w2) => theirsD (hS.under q) hT.terms hxo hts6
        have hNB : Bytes (actL ts x).2.1 := actL_bytes ts x
        obtain ⟨us, hus⟩ : ∃ us, us = (actL ts x).1 := ⟨_, rfl⟩
        obtain ⟨N, hNN⟩ : ∃ N, N = (actL ts x).2.1 := ⟨_, rfl⟩
        obtain ⟨F, hFF⟩ : ∃ F, F = (actL ts x).2.2 := ⟨_, rfl⟩
        rw [← hus] at CA CT hus6 hsn
        rw [← hNN] at CA CT hNB
        rw [← hFF] at CA CT
        have Kus : Kept _ := ⟨hsn⟩
        obtain ⟨AA, hAA⟩ : ∃ AA, AA = actA x := ⟨_, rfl⟩
        rw [← hAA] at CA CT
        have KA1 : Kept (AA.all (·.oneCell') = true) := ⟨by rw [hAA]; exact actA_one x⟩
        have KA6 : Kept (AA.size = 6) := ⟨by rw [hAA]; rfl⟩
        have KAA : Kept _ := ⟨hAA⟩
        have KCA : Kept _ := ⟨CA⟩
        have KCT : Kept _ := ⟨CT⟩
        have KNB : Kept _ := ⟨hNB⟩
        have DN : Kept (false = !decide (N = N)) := ⟨by rw [decide_eq_true rfl]; rfl⟩
        have KS : Kept _ := ⟨hS⟩
        have KT : Kept _ := ⟨hT⟩
        have KD : Kept _ := ⟨hD⟩
        have Ku6 : Kept _ := ⟨hus6⟩
        obtain ⟨pm, cm, rfl, hcm⟩ := ts_form hS rfl
        clear hx hcell hsn hus hNN hFF hAA CA CT hxo hNB hS hT hD hus6
        go_wp2_with (first | ((with_reducible refine wv_val (d := 28) ?hd ?hw (.pointer (some (A.add (i * 6)))) ?hr ?_); (case hd => rfl); (case hw => kernel_rfl); (case hr => intro w; exact run_idx6 rfl (by kernel_rfl) (by kernel_rfl) hin w); simp only [Act.put, List.setIfInBounds_toArray, List.set_cons_succ, List.set_cons_zero]) | (((with_reducible refine wv_act (d := 29) ?hd ?hw (.tmp 28) ?ho (A.add (i * 6)) ?hx (x) ?hc ?_); (case hd => rfl); (case hw => kernel_rfl); (case ho => rfl); (case hx => kernel_rfl); (case hc => exact KC.out); simp only [Act.put, List.setIfInBounds_toArray, List.set_cons_succ, List.set_cons_zero]); rw [← KAA.out]) | ((refine wl_store rfl 30 (.tmp 6) (.tmp 29) rfl wz.heap.size AA (by kernel_rfl) (by kernel_rfl) _ (blk_new wz 30 _) (by rw [KA6.out]; exact info_act) (by rw [KA6.out]; rfl) KA1.out ?_); intro w2 hb2 hp2; have q2 : Below wz.heap.size wz w2 := ((Below.refl _ _).alloc (Nat.le_refl _) _).trans (hp2.below (Nat.le_refl _)); simp only [Act.put, List.setIfInBounds_toArray, List.set_cons_succ, List.set_cons_zero]) | ((with_reducible refine wv_rowS (d := 32) ?hd ?hw 30 (.tmp 6) ?ho (wz.heap.size) ?hx (t' := 30) (AA) _ Tryd.underlying30 ?hs ?hg ?_); (case hd => rfl); (case hw => kernel_rfl); (case ho => rfl); (case hx => kernel_rfl); (case hs => rw [KA6.out]; exact info_act); (case hg => exact hb2); simp only [Act.put, List.setIfInBounds_toArray, List.set_cons_succ, List.set_cons_zero]))
        refine (KCT.out _ q2).mono ?_
        rintro e w3 ⟨⟨m', rfl, hS3⟩, q3⟩
        have hb3 := hb2.under q3
        have q23 := q2.trans (q3.mono q2.size)
        obtain ⟨n3, hn3⟩ : ∃ n, n = us.length := ⟨_, rfl⟩
        obtain ⟨p3, c3, rfl, hc3⟩ := ts_form hS3 hn3.symm
        have KS3 : Kept _ := ⟨hS3⟩
        have Kn3 : Kept _ := ⟨hn3⟩
        clear hS3 hn3 hb2
        go_wp2_with (first | ((with_reducible refine wv_rowS (d := 40) ?hd ?hw 30 (.tmp 6) ?ho (wz.heap.size) ?hx (t' := 30) (AA) _ Tryd.underlying30 ?hs ?hg ?_); (case hd => rfl); (case hw => kernel_rfl); (case ho => rfl); (case hx => kernel_rfl); (case hs => rw [KA6.out]; exact info_act); (case hg => exact hb3); simp only [Act.put, List.setIfInBounds_toArray, List.set_cons_succ, List.set_cons_zero]))
        refine (KCA.out _ q23).mono ?_
        rintro e w4 ⟨rfl, hPu⟩
        obtain ⟨M4, hT4, tu⟩ := hPu
        have hD3 : ∀ b, News D w2 w3 b → ¬ M b ∧ b < w3.heap.size := fun b hb => by
          rcases hb with hb | ⟨h1, h2⟩
          · exact ⟨(KD.out b hb).1, Nat.lt_of_lt_of_le (KD.out b hb).2 q23.size⟩
          · refine ⟨fun hM => ?_, h2⟩
            have := (KT.out.range hM).2
            have := q2.size
            omega
        have hS4 := KS3.out.turn tu (fun b hb => (hD3 b hb).1)
        have hD4 : ∀ b, News D w2 w3 b → ¬ M4 b ∧ b < w4.heap.size := fun b hb => ⟨tu.not (hD3 b hb).1 (hD3 b hb).2, Nat.lt_of_lt_of_le (hD3 b hb).2 tu.size⟩
        have q4 := (hq.trans (q23.mono hq.size)).trans (((KT.out.under q23).below tu).mono hBw)
        have KL := AllD hT4 Ku6.out
        rw [← Kn3.out] at KL
        have KLK : Kept _ := ⟨KL⟩
        have KT4 : Kept _ := ⟨hT4⟩
        have KS4 : Kept _ := ⟨hS4⟩
        have KD4 : Kept _ := ⟨hD4⟩
        have BN : Kept (false = !decide ((n3 : Int) = (n3 : Int))) := ⟨by rw [decide_eq_true rfl]; rfl⟩
        clear hT4 tu hD3 hS4 hD4 KL hb3
        go_wp2_with (first | ((with_reducible refine wv_val (d := 46) ?hd ?hw (.bool false) ?hr ?_); (case hd => rfl); (case hw => kernel_rfl); (case hr => intro w; exact run_sneq rfl (by kernel_rfl) (by kernel_rfl) KNB.out KNB.out DN.out w); simp only [Act.put, List.setIfInBounds_toArray, List.set_cons_succ, List.set_cons_zero]) | ((with_reducible refine wv_val (d := 50) ?hd ?hw (.bool false) ?hr ?_); (case hd => rfl); (case hw => kernel_rfl); (case hr => intro w; exact run_neBB rfl (by kernel_rfl) (by kernel_rfl) w); simp only [Act.put, List.setIfInBounds_toArray, List.set_cons_succ, List.set_cons_zero]))
        refine KLK.out.mono ?_
        rintro e w5 ⟨⟨V1, rfl, hV1⟩, q5⟩
        obtain ⟨p5, c5, rfl, _⟩ := vals_form (vrow_vals hV1) (show (strs (namesL n3)).length = n3 by rw [strs_len, namesL_len])
        clear hV1 KLK
        go_wp2_with (first | ((with_reducible refine wv_val (d := 58) ?hd ?hw (.bool false) ?hr ?_); (case hd => rfl); (case hw => kernel_rfl); (case hr => intro w; exact run_neI rfl (by kernel_rfl) (by kernel_rfl) BN.out w); simp only [Act.put, List.setIfInBounds_toArray, List.set_cons_succ, List.set_cons_zero]))
        go_roundg (gk - 1)
        case measure => omega
        case rel => exact ⟨i + 1, by omega, by simp, M4, News D w2 w3, by rw [Kus.out]; exact KT4.out.under q5, by rw [Kus.out]; exact KS4.out.under q5, fun b hb => ⟨(KD4.out b hb).1, Nat.lt_of_lt_of_le (KD4.out b hb).2 q5.size⟩, q4.trans (q5.mono q4.size)⟩
      case pos =>
        obtain rfl : n = i := by omega
        have et : l.take n = l := List.take_of_length_le (by rw [← HN.out]; exact Nat.le_refl _)
        rw [et] at hT hS
        have htsl : (actsL [] l).length ≤ 60 := by
          have := (actsL_grows l []).2
          rw [← HN.out] at this
          have h0 : ([] : List TermL).length = 0 := rfl
          omega
        generalize actsL ([] : List TermL) l = ts at hT hS htsl
        have KTs : Kept _ := ⟨hT.terms⟩
        have h1M : ts.length < 1000000 := by omega
        have KL := AllD hT h1M
        obtain ⟨N, hNl⟩ : ∃ N, N = ts.length := ⟨_, rfl⟩
        obtain ⟨pm, cm, rfl, hcm⟩ := ts_form hS hNl.symm
        rw [← hNl] at KL
        have KNl : Kept _ := ⟨hNl⟩
        have hN60 : N ≤ 60 := by omega
        have K1M : Kept _ := ⟨h1M⟩
        have KLK : Kept _ := ⟨KL⟩
        have KT : Kept _ := ⟨hT⟩
        have KS : Kept _ := ⟨hS⟩
        clear hNl et htsl h1M hT hS hD KL
        go_wp2_with fail
        refine KLK.out.mono ?_
        rintro e w5 ⟨⟨V1, rfl, hV1⟩, b5⟩
        obtain ⟨p3, c3, rfl, hc3⟩ := vals_form (vrow_vals hV1) (show (strs (namesL N)).length = N by rw [strs_len, namesL_len])
        have KT5 : Kept _ := ⟨KT.out.under b5⟩
        have KS5 : Kept _ := ⟨KS.out.under b5⟩
        have KV5 : Kept _ := ⟨vrow_vals hV1⟩
        have hq5 := hq.trans (b5.mono hq.size)
        clear hq b5 hV1 KT KS KLK hik hlen0
        go_wp2_with fail
        go_loopg [64] N (fun g s64 wr => ∃ j : Nat, j + g = N ∧ s64 = .int .i64 (j : Int) ∧ Below w5.heap.size w5 wr)
        case atStart => exact ⟨0, by omega, rfl, Below.refl _ _⟩
        case round =>
          rename World => wy
          obtain ⟨j, hjk, rfl, hb⟩ := hrel
          by_cases hk0 : gk = 0
          case pos =>
            obtain rfl : N = j := by omega
            go_wp2_with fail
            go_ret
            exact ⟨rfl, hq5.trans (hb.mono hq5.size)⟩
          case neg =>
            have hjN : j < N := by omega
            have hjN' : (j : Int) < (N : Int) := by omega
            have hjj : (j : Int) + 1 ≤ 9223372036854775807 := by omega
            obtain ⟨t, ht⟩ : ∃ t, ts[j]? = some t := ⟨_, List.getElem?_eq_getElem (by rw [← KNl.out]; exact hjN)⟩
            have hx : (strs (namesL N))[j]? = some (.string (strOf (termN (j + 1)))) := strs_get (namesL_get hjN)
            obtain ⟨A, rfl, hAb, hcell⟩ := vals_at (KV5.out.under hb) hx
            have hF := KTs.out.2 t (List.mem_of_getElem? ht)
            have hFt := KTs.out.1.2 t (List.mem_of_getElem? ht)
            have hPx := partX_name (ts := ts) (i := j) (by rw [← KNl.out]; exact hjN) K1M.out
            rw [ht] at hPx
            have hFy := hF.1
            have YA : Kept _ := ⟨termN_bytes (j + 1)⟩
            obtain ⟨k, ll⟩ := t
            have ht' : ts[j]? = some (k, ll) := ht
            have CP := PartsE (k := k) (ll := ll) (KT5.out.under hb) YA.out (termN_max _) K1M.out hPx
            obtain ⟨j1, hj1⟩ : ∃ j1, j1 = j + 1 := ⟨_, rfl⟩
            rw [← hj1] at CP hcell YA
            have KJ1 : Kept _ := ⟨hj1⟩
            have hj62 : j1 < 4611686018427387904 := by omega
            have CN : Kept (∀ w1, Calls Tryd.prog 16 #[.int .i64 (j1 : Int)] w1 fun e w' => e = .returned (.string (strOf (termN j1))) ∧ Below w1.heap.size w1 w') := ⟨fun w1 => rNameD (by omega)⟩
            obtain ⟨a, hA⟩ : ∃ a, a = termN j1 := ⟨_, rfl⟩
            rw [← hA] at CP hcell YA CN
            have KC : Kept _ := ⟨hcell⟩
            have KCP : Kept _ := ⟨CP⟩
            have KFy : Kept (∀ p ∈ ll, Bytes p) := ⟨hFy⟩
            have KLen : Kept (ll.length ≤ 255) := ⟨hFt.1⟩
            have Kht : Kept _ := ⟨ht'⟩
            have DA : Kept (false = !decide (a = a)) := ⟨by rw [decide_eq_true rfl]; rfl⟩
            have DK : Kept (false = !decide (k = k)) := ⟨by rw [decide_eq_true rfl]; rfl⟩
            clear hx hcell hF hFt hPx hFy CP hA ht ht' hj1
            obtain ⟨gO, hgO⟩ : ∃ q, q = gk := ⟨_, rfl⟩
            go_wp2_with (first | ((with_reducible refine wv_val (d := 67) ?hd ?hw (.pointer (some (A.add j))) ?hr ?_); (case hd => rfl); (case hw => kernel_rfl); (case hr => intro w; exact run_idxS (c := c3) rfl (by kernel_rfl) (by kernel_rfl) Tryd.underlying35 hjN Tryd.sizeOf9 w); simp only [Act.put, List.setIfInBounds_toArray, List.set_cons_succ, List.set_cons_zero]) | ((with_reducible refine wv_elem (d := 68) ?hd ?hw 9 ag_str (.tmp 67) ?ho (A.add j) ?hx (.string (strOf a)) ?hc ?_); (case hd => rfl); (case hw => kernel_rfl); (case ho => rfl); (case hx => kernel_rfl); (case hc => exact KC.out); simp only [Act.put, List.setIfInBounds_toArray, List.set_cons_succ, List.set_cons_zero]))
            refine KCP.out.mono ?_
            rintro e w6 ⟨⟨V2, rfl, hV2⟩, b6⟩
            obtain ⟨p4, c4, rfl, _⟩ := vals_form (vrow_vals hV2) (strs_len ll)
            have hb6 := hb.trans (b6.mono hb.size)
            have KV2 : Kept _ := ⟨vrow_vals hV2⟩
            obtain ⟨lz, hlz⟩ : ∃ z, z = ll.length := ⟨_, rfl⟩
            rw [← hlz] at KV2 ⊢
            clear hV2 KCP hlz
            go_wp2_with (first | ((with_reducible refine wv_val (d := 78) ?hd ?hw (.int .i64 (j1 : Int)) ?hr ?_); (case hd => rfl); (case hw => kernel_rfl); (case hr => intro w; exact run_addZ 1 rfl (by kernel_rfl) KJ1.out hj62 w); simp only [Act.put, List.setIfInBounds_toArray, List.set_cons_succ, List.set_cons_zero]))
            refine (CN.out _).mono ?_
            rintro e w7 ⟨rfl, b7⟩
            have hb7 := hb6.trans (b7.mono hb6.size)
            obtain ⟨A4, U2, rfl, hA4, hc0, hc1, hV4⟩ := ts_at (KS5.out.under hb7) Kht.out
            obtain ⟨pU, cU, rfl, _⟩ := vals_form hV4 (strs_len ll)
            have CS := SameD (KV2.out.under b7) hV4 KFy.out KFy.out (Nat.le_trans KLen.out (by decide))
            rw [decide_eq_true rfl] at CS
            have KCS : Kept _ := ⟨CS⟩
            have K0 : Kept _ := ⟨hc0⟩
            have K1 : Kept _ := ⟨hc1⟩
            clear hc0 hc1 hV4 CS
            go_wp2_with (first | ((with_reducible refine wv_val (d := 80) ?hd ?hw (.bool false) ?hr ?_); (case hd => rfl); (case hw => kernel_rfl); (case hr => intro w; exact run_sneq rfl (by kernel_rfl) (by kernel_rfl) YA.out YA.out DA.out w); simp only [Act.put, List.setIfInBounds_toArray, List.set_cons_succ, List.set_cons_zero]) | ((with_reducible refine wv_val (d := 85) ?hd ?hw (.pointer (some (A4.add (j * 2)))) ?hr ?_); (case hd => rfl); (case hw => kernel_rfl); (case hr => intro w; exact run_idxT (c := cm) rfl (by kernel_rfl) (by kernel_rfl) hjN w); simp only [Act.put, List.setIfInBounds_toArray, List.set_cons_succ, List.set_cons_zero]) | ((with_reducible refine wv_val (d := 86) ?hd ?hw (.pointer (some (A4.add (j * 2)))) ?hr ?_); (case hd => rfl); (case hw => kernel_rfl); (case hr => intro w; exact run_fldT0 rfl (by kernel_rfl) w); simp only [Act.put, List.setIfInBounds_toArray, List.set_cons_succ, List.set_cons_zero]) | ((with_reducible refine wv_elem (d := 87) ?hd ?hw 5 Tryd.isAgg5 (.tmp 86) ?ho (A4.add (j * 2)) ?hx (.int .u8 (k : Int)) ?hc ?_); (case hd => rfl); (case hw => kernel_rfl); (case ho => rfl); (case hx => kernel_rfl); (case hc => exact K0.out); simp only [Act.put, List.setIfInBounds_toArray, List.set_cons_succ, List.set_cons_zero]) | ((with_reducible refine wv_val (d := 88) ?hd ?hw (.bool false) ?hr ?_); (case hd => rfl); (case hw => kernel_rfl); (case hr => intro w; exact run_neU rfl (by kernel_rfl) (by kernel_rfl) DK.out w); simp only [Act.put, List.setIfInBounds_toArray, List.set_cons_succ, List.set_cons_zero]) | ((with_reducible refine wv_val (d := 94) ?hd ?hw (.pointer (some (A4.add (j * 2)))) ?hr ?_); (case hd => rfl); (case hw => kernel_rfl); (case hr => intro w; exact run_idxT (c := cm) rfl (by kernel_rfl) (by kernel_rfl) hjN w); simp only [Act.put, List.setIfInBounds_toArray, List.set_cons_succ, List.set_cons_zero]) | ((with_reducible refine wv_val (d := 95) ?hd ?hw (.pointer (some ((A4.add (j * 2)).add 1))) ?hr ?_); (case hd => rfl); (case hw => kernel_rfl); (case hr => intro w; exact run_fldT1 rfl (by kernel_rfl) w); simp only [Act.put, List.setIfInBounds_toArray, List.set_cons_succ, List.set_cons_zero]) | ((with_reducible refine wv_elem (d := 96) ?hd ?hw 35 ag_strs (.tmp 95) ?ho ((A4.add (j * 2)).add 1) ?hx (.slice pU ll.length cU) ?hc ?_); (case hd => rfl); (case hw => kernel_rfl); (case ho => rfl); (case hx => kernel_rfl); (case hc => exact K1.out); simp only [Act.put, List.setIfInBounds_toArray, List.set_cons_succ, List.set_cons_zero]))
            refine KCS.out.mono ?_
            rintro e w8 ⟨rfl, b8⟩
            go_wp2_with fail
            go_roundg (gk - 1)
            case measure => omega
            case rel => exact ⟨j + 1, by omega, by simp, hb7.trans (b8.mono hb7.size)⟩
end Go.Proofs.YtfdldpcfdebinaaDoor.sh
