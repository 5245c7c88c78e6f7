/-
  TermSame.
-/
import Derived.Test.YtfdldpcfdebinaaDoorDP
namespace Go.Proofs.YtfdldpcfdebinaaDoor.sh
open Go Go.RowKit
set_option linter.unusedVariables false
set_option linter.unusedSimpArgs false

theorem partX_name {ts : List TermL} {i : Nat} (hi : i < ts.length) (hN : ts.length < 1000000) : partX ts (termN (i + 1)) = ts[i]? := by
  have h := noL_name (n := i + 1) (by omega)
  rw [partX_some (termN_bytes _) hN (by rw [h]; omega) (by rw [h]; omega), h, Nat.add_sub_cancel]
theorem putL_same {ts : List TermL} (h : Terms ts) {t : TermL} {i : Nat} (hi : ts[i]? = some t) : putL ts t = (ts, termN (i + 1)) := by
  have hm := List.mem_of_getElem? hi
  rw [putL_old (h.1.2 t hm) hm, idx_at h.1.1 hi]
/-- What a name is made again of: by the kind. -/
def again (k : Nat) (ll : List (List Nat)) : Prop := (k = 1 ∧ ∃ s, ll = [s]) ∨ (k = 2 ∧ ∃ s, ll = [s]) ∨ k = 3 ∨ k = 4 ∨ k = 5
theorem again_of {t : TermL} (h : Formed t) : again t.1 t.2 := by
  rcases h.2 with h | h | ⟨h, _⟩ | h | h
  · exact .inl h
  · exact .inr (.inl h)
  · exact .inr (.inr (.inl h))
  · exact .inr (.inr (.inr (.inl h)))
  · exact .inr (.inr (.inr (.inr h)))

set_option maxRecDepth 100000 in
set_option maxHeartbeats 4000000 in
theorem same9 (v : Value) (l : List ActL) (w : World) (hv : ActsV v w l) (hok : ∀ x ∈ l, ActOk x) (hN : l.length ≤ maxLen) :
    Calls Tryd.prog 4 #[v] w fun e w' => e = .returned (.bool true) ∧ Below w.heap.size w w' := by
  have KAl : Kept _ := ⟨alive9 w⟩
  have CH := fun w1 (q : Below w.heap.size w w1) => heavyD (hv.under q) hN
  obtain ⟨p, c, rfl, hc⟩ := acts_form hv rfl
  obtain ⟨n, hn⟩ : ∃ n, n = l.length := ⟨_, rfl⟩
  rw [← hn] at hv hc hN CH ⊢
  have KH : Kept _ := ⟨CH⟩
  have HN : Kept _ := ⟨hn⟩
  have HV : Kept _ := ⟨hv⟩
  have HO : Kept _ := ⟨hok⟩
  unfold maxLen at hN
  clear CH hn hv hok
  go_enter Tryd.func4, Tryd.ntmps4
  go_wp2_with fail
  refine KAl.out.mono ?_
  rintro e w1 ⟨rfl, q1⟩
  clear KAl
  go_wp2_with fail
  refine NewD.mono ?_
  rintro e w2 ⟨⟨tb, M0, rfl, hT0⟩, q2⟩
  have hBw : w.heap.size ≤ w1.heap.size := q1.size
  have hQ0 := q1.trans (q2.mono q1.size)
  generalize hB : w1.heap.size = B at *
  clear q1 q2 hB
  go_wp2_with fail
  refine (KH.out _ hQ0).mono ?_
  rintro e w3 ⟨⟨hvy, rfl, hb60⟩, q3⟩
  have hT3 := hT0.under q3
  have hQ3 := hQ0.trans (q3.mono hQ0.size)
  clear hT0 hQ0 q3 KH
  cases hvy with
  | true =>
    go_wp2_with fail
    go_ret
    exact ⟨rfl, hQ3⟩
  | false =>
    have hlen0 := hb60 rfl
    clear hb60
    go_wp2_with fail
    go_loopg [27] n (fun g s27 wr => ∃ (i : Nat) (M : Nat → Prop), i + g = n ∧ s27 = .int .i64 (i : Int) ∧ Tab tb B (actsL ([] : List TermL) (l.take i)) M wr ∧ Below w.heap.size w wr)
    case atStart => exact ⟨0, M0, by omega, rfl, hT3, hQ3⟩
    case round =>
      rename World => wz
      obtain ⟨i, M, hik, rfl, hT, hq⟩ := hrel
      by_cases hk0 : gk = 0
      case neg =>
        have hin : i < n := by omega
        have hin' : (i : Int) < (n : Int) := by omega
        have hi1 : (i : Int) + 1 ≤ 9223372036854775807 := by omega
        obtain ⟨x, hx⟩ : ∃ x, l[i]? = some x := ⟨_, List.getElem?_eq_getElem (by rw [← HN.out]; exact hin)⟩
        obtain ⟨A, rfl, hA, hcell⟩ := acts_at (HV.out.under hq) hx
        have KC : Kept _ := ⟨hcell⟩
        have hts : (actsL ([] : List TermL) (l.take i)).length < 1000000 := by
          have := (actsL_grows (l.take i) ([] : List TermL)).2
          rw [List.length_take] at this
          have := hlen0
          have h0 : ([] : List TermL).length = 0 := rfl
          omega
        have hxo := HO.out x (List.mem_of_getElem? hx)
        have CA := fun w1 (q : Below wz.heap.size wz w1) => actD (hT.under q) hxo hts
        obtain ⟨us, hus⟩ : ∃ us, us = (actL (actsL ([] : List TermL) (l.take i)) x).1 := ⟨_, rfl⟩
        have Kus : Kept (actsL ([] : List TermL) (l.take (i + 1)) = us) := ⟨by rw [List.take_add_one, hx, Option.toList_some, actsL_snoc, hus]⟩
        rw [← hus] at CA
        obtain ⟨AA, hAA⟩ : ∃ AA, AA = actA x := ⟨_, rfl⟩
        rw [← hAA] at CA
        have KA1 : Kept (AA.all (·.oneCell') = true) := ⟨by rw [hAA]; exact actA_one x⟩
        have KA6 : Kept (AA.size = 6) := ⟨by rw [hAA]; rfl⟩
        have KAA : Kept _ := ⟨hAA⟩
        have KCA : Kept _ := ⟨CA⟩
        clear hx hcell hus hAA CA hxo
        go_wp2_with (first | ((with_reducible refine wv_val (d := 29) ?hd ?hw (.pointer (some (A.add (i * 6)))) ?hr ?_); (case hd => rfl); (case hw => kernel_rfl); (case hr => intro w; exact run_idx6 rfl (by kernel_rfl) (by kernel_rfl) hin w); simp only [Act.put, List.setIfInBounds_toArray, List.set_cons_succ, List.set_cons_zero]) | (((with_reducible refine wv_act (d := 30) ?hd ?hw (.tmp 29) ?ho (A.add (i * 6)) ?hx (x) ?hc ?_); (case hd => rfl); (case hw => kernel_rfl); (case ho => rfl); (case hx => kernel_rfl); (case hc => exact KC.out); simp only [Act.put, List.setIfInBounds_toArray, List.set_cons_succ, List.set_cons_zero]); rw [← KAA.out]) | ((refine wl_store rfl 30 (.tmp 5) (.tmp 30) rfl wz.heap.size AA (by kernel_rfl) (by kernel_rfl) _ (blk_new wz 30 _) (by rw [KA6.out]; exact info_act) (by rw [KA6.out]; rfl) KA1.out ?_); intro w2 hb2 hp2; have q2 : Below wz.heap.size wz w2 := ((Below.refl _ _).alloc (Nat.le_refl _) _).trans (hp2.below (Nat.le_refl _)); simp only [Act.put, List.setIfInBounds_toArray, List.set_cons_succ, List.set_cons_zero]) | ((with_reducible refine wv_rowS (d := 32) ?hd ?hw 30 (.tmp 5) ?ho (wz.heap.size) ?hx (t' := 30) (AA) _ Tryd.underlying30 ?hs ?hg ?_); (case hd => rfl); (case hw => kernel_rfl); (case ho => rfl); (case hx => kernel_rfl); (case hs => rw [KA6.out]; exact info_act); (case hg => exact hb2); simp only [Act.put, List.setIfInBounds_toArray, List.set_cons_succ, List.set_cons_zero]))
        refine (KCA.out _ q2).mono ?_
        rintro e w4 ⟨rfl, hPu⟩
        obtain ⟨M2, hT2, tu⟩ := hPu.from q2
        have q4 := hq.trans ((hT.below tu).mono hBw)
        go_wp2_with fail
        go_roundg (gk - 1)
        case measure => omega
        case rel => exact ⟨i + 1, M2, by omega, by simp, by rw [Kus.out]; exact hT2, q4⟩
      case pos =>
        obtain rfl : n = i := by omega
        have et : l.take n = l := List.take_of_length_le (by rw [← HN.out]; exact Nat.le_refl _)
        rw [et] at hT
        have htsl : (actsL [] l).length ≤ 60 := by
          have := (actsL_grows l []).2
          rw [← HN.out] at this
          have h0 : ([] : List TermL).length = 0 := rfl
          omega
        generalize actsL ([] : List TermL) l = ts at hT htsl
        have KTs : Kept _ := ⟨hT.terms⟩
        have h1M : ts.length < 1000000 := by omega
        have KL := AllD hT h1M
        obtain ⟨N, hNl⟩ : ∃ N, N = ts.length := ⟨_, rfl⟩
        rw [← hNl] at KL
        have KNl : Kept _ := ⟨hNl⟩
        have hN60 : N ≤ 60 := by omega
        have K1M : Kept _ := ⟨h1M⟩
        clear hNl et htsl h1M
        go_wp2_with fail
        refine KL.mono ?_
        rintro e w5 ⟨⟨V1, rfl, hV1⟩, b5⟩
        obtain ⟨p3, c3, rfl, hc3⟩ := vals_form (vrow_vals hV1) (show (strs (namesL N)).length = N by rw [strs_len, namesL_len])
        have hAp := hT.apart hV1 (Nat.le_refl _)
        have hT5 := hT.under b5
        have hq5 := hq.trans (b5.mono hq.size)
        generalize hB0 : wz.heap.size = B0 at *
        clear KL hT hq b5 hB0 hik hlen0
        go_wp2_with fail
        go_loopg [39] N (fun g s39 wr => ∃ (i : Nat) (M : Nat → Prop), i + g = N ∧ s39 = .int .i64 (i : Int) ∧ Tab tb B ts M wr ∧ Below w.heap.size w wr ∧ VRow B0 9 (strs (namesL N)) (.slice p3 N c3) wr ∧ (∀ b, blkOf (.slice p3 N c3) = some b → ¬ M b))
        case atStart => exact ⟨0, M, by omega, rfl, hT5, hq5, hV1, hAp⟩
        case round =>
          rename World => wy
          clear hT5 hq5 hV1 hAp
          obtain ⟨i, Mi, hik, rfl, hT, hq, hV, hAp⟩ := hrel
          by_cases hk0 : gk = 0
          case pos =>
            obtain rfl : N = i := by omega
            have KL := AllD hT K1M.out
            rw [← KNl.out] at KL
            clear hV hAp
            go_wp2_with fail
            refine KL.mono ?_
            rintro e w6 ⟨⟨V2, rfl, hV2⟩, b6⟩
            obtain ⟨p4, c4, rfl, hc4⟩ := vals_form (vrow_vals hV2) (show (strs (namesL N)).length = N by rw [strs_len, namesL_len])
            have BN : Kept (true = decide ((N : Int) = (N : Int))) := ⟨(decide_eq_true rfl).symm⟩
            clear hV2 KL
            go_wp2_with (first | ((with_reducible refine wv_val (d := 117) ?hd ?hw (.bool true) ?hr ?_); (case hd => rfl); (case hw => kernel_rfl); (case hr => intro w; exact run_eqII rfl (by kernel_rfl) (by kernel_rfl) BN.out w); simp only [Act.put, List.setIfInBounds_toArray, List.set_cons_succ, List.set_cons_zero]))
            go_ret
            exact ⟨rfl, hq.trans (b6.mono hq.size)⟩
          case neg =>
            have hin : i < N := by omega
            have hin' : (i : Int) < (N : Int) := by omega
            have hi1 : (i : Int) + 1 ≤ 9223372036854775807 := by omega
            obtain ⟨t, ht⟩ : ∃ t, ts[i]? = some t := ⟨_, List.getElem?_eq_getElem (by rw [← KNl.out]; exact hin)⟩
            have hx : (strs (namesL N))[i]? = some (.string (strOf (termN (i + 1)))) := strs_get (namesL_get hin)
            obtain ⟨A, rfl, hAb, hcell⟩ := vals_at (vrow_vals hV) hx
            have hF := KTs.out.2 t (List.mem_of_getElem? ht)
            have hFt := KTs.out.1.2 t (List.mem_of_getElem? ht)
            have hPx := partX_name (ts := ts) (i := i) (by rw [← KNl.out]; exact hin) K1M.out
            rw [ht] at hPx
            have hPut := putL_same KTs.out ht
            have hag := again_of hF
            have hFy := hF.1
            have hFl : ∀ p ∈ t.2, p.length ≤ maxLen := fun p hp => Nat.le_trans (hFt.2.1 p hp) (by decide)
            have ha32 := termN_len (i + 1)
            have YA : Kept _ := ⟨termN_bytes (i + 1)⟩
            obtain ⟨k, ll⟩ := t
            have ht' : ts[i]? = some (k, ll) := ht
            have CP := PartsE (k := k) (ll := ll) hT YA.out (termN_max _) K1M.out hPx
            have hne : ∀ j, j < i → termN (i + 1) ≠ termN (j + 1) := fun j hj e => by
              have := termN_inj (n := i + 1) (m := j + 1) (by omega) (by omega) e
              omega
            obtain ⟨a, hA⟩ : ∃ a, a = termN (i + 1) := ⟨_, rfl⟩
            rw [← hA] at CP hPut hcell ha32 YA hne
            have KC : Kept _ := ⟨hcell⟩
            have KPut : Kept _ := ⟨hPut⟩
            have KPut2 : Kept (ts[i]? = some (k, ll)) := ⟨ht'⟩
            have Kag : Kept (again k ll) := ⟨hag⟩
            have KFy : Kept (∀ p ∈ ll, Bytes p) := ⟨hFy⟩
            have KFl : Kept (∀ p ∈ ll, p.length ≤ maxLen) := ⟨hFl⟩
            have Kne : Kept _ := ⟨hne⟩
            have KLen : Kept (ll.length ≤ 255) := ⟨hFt.1⟩
            have K32 : Kept (32 = a.length) := ⟨ha32.symm⟩
            have B32 : Kept (false = !decide (((32 : Nat) : Int) = 32)) := ⟨rfl⟩
            have KCP : Kept _ := ⟨CP⟩
            have KV : Kept _ := ⟨hV⟩
            have KAp : Kept _ := ⟨hAp⟩
            have KT : Kept _ := ⟨hT⟩
            have hkk : Kept (k < 256) := ⟨kind_lt hF⟩
            clear ht hx hcell hF hFt hPx hPut hag hFy hFl ha32 CP hne hA ht' hV hAp
            obtain ⟨gO, hgO⟩ : ∃ q, q = gk := ⟨_, rfl⟩
            have hic : i ≤ c3 := by omega
            go_wp2_with (first | ((with_reducible refine wv_val (d := 42) ?hd ?hw (.pointer (some (A.add i))) ?hr ?_); (case hd => rfl); (case hw => kernel_rfl); (case hr => intro w; exact run_idxS rfl (by kernel_rfl) (by kernel_rfl) Tryd.underlying35 hin Tryd.sizeOf9 w); simp only [Act.put, List.setIfInBounds_toArray, List.set_cons_succ, List.set_cons_zero]) | ((with_reducible refine wv_elem (d := 43) ?hd ?hw 9 ag_str (.tmp 42) ?ho (A.add i) ?hx (.string (strOf a)) ?hc ?_); (case hd => rfl); (case hw => kernel_rfl); (case ho => rfl); (case hx => kernel_rfl); (case hc => exact KC.out); simp only [Act.put, List.setIfInBounds_toArray, List.set_cons_succ, List.set_cons_zero]))
            refine KCP.out.mono ?_
            rintro e w6 ⟨⟨V2, rfl, hV2⟩, b6⟩
            obtain ⟨p4, c4, rfl, hc4⟩ := vals_form (vrow_vals hV2) (strs_len ll)
            have KV2 : Kept _ := ⟨hV2⟩
            have hT6 := KT.out.under b6
            have hV6 := KV.out.under b6
            have hA6 := KT.out.apart hV2 (Nat.le_refl _)
            have KA6 : Kept _ := ⟨hA6⟩
            have KT6 : Kept _ := ⟨hT6⟩
            have KV6 : Kept _ := ⟨hV6⟩
            have q6 := hq.trans (b6.mono hq.size)
            obtain ⟨m, hm⟩ : ∃ m, m = ll.length := ⟨_, rfl⟩
            rw [← hm] at KV2 KA6 hc4 ⊢
            have KM : Kept _ := ⟨hm⟩
            clear hV2 hT6 hV6 hA6 hq b6 KC KCP KV KT hm
            go_wp2_with (first | ((with_reducible refine wv_val (d := 55) ?hd ?hw (.int .i64 ((32 : Nat) : Int)) ?hr ?_); (case hd => rfl); (case hw => kernel_rfl); (case hr => intro w; exact run_slen rfl (by kernel_rfl) K32.out w); simp only [Act.put, List.setIfInBounds_toArray, List.set_cons_succ, List.set_cons_zero]) | ((with_reducible refine wv_val (d := 56) ?hd ?hw (.bool false) ?hr ?_); (case hd => rfl); (case hw => kernel_rfl); (case hr => intro w; exact run_neI rfl (by kernel_rfl) rfl B32.out w); simp only [Act.put, List.setIfInBounds_toArray, List.set_cons_succ, List.set_cons_zero]) | ((with_reducible refine wv_val (d := 60) ?hd ?hw (.slice (some A) i c3) ?hr ?_); (case hd => rfl); (case hw => kernel_rfl); (case hr => intro w; exact cutTo_run (l := N) rfl (by kernel_rfl) (by kernel_rfl) Tryd.underlying35 Tryd.sizeOf9 hic w); simp only [Act.put, List.setIfInBounds_toArray, List.set_cons_succ, List.set_cons_zero]))
            go_loopg [62] i (fun g s62 wr => ∃ j : Nat, j + g = i ∧ s62 = .int .i64 (j : Int) ∧ Below w6.heap.size w6 wr)
            case atStart => exact ⟨0, by omega, rfl, Below.refl _ _⟩
            case round =>
              rename World => wx
              obtain ⟨j, hjk, rfl, hb⟩ := hrel
              by_cases hj0 : gk = 0
              case neg =>
                have hji : j < i := by omega
                have hji' : (j : Int) < (i : Int) := by omega
                have hj1 : (j : Int) + 1 ≤ 9223372036854775807 := by omega
                obtain ⟨u, hu⟩ : ∃ u, ts[j]? = some u := ⟨_, List.getElem?_eq_getElem (by rw [← KNl.out]; omega)⟩
                have hx : (strs (namesL N))[j]? = some (.string (strOf (termN (j + 1)))) := strs_get (namesL_get (by omega))
                have hcell := vals_cell (vrow_vals (KV6.out.under hb)) hx
                have hPx := partX_name (ts := ts) (i := j) (by rw [← KNl.out]; omega) K1M.out
                rw [hu] at hPx
                have hUy := (KTs.out.2 u (List.mem_of_getElem? hu)).1
                have hUF := KTs.out.1.2 u (List.mem_of_getElem? hu)
                have hneq : (k, ll) ≠ u := fun e => by
                  have := nodup_at KTs.out.1.1 KPut2.out (e ▸ hu)
                  omega
                obtain ⟨k2, l2⟩ := u
                have CP := PartsE (k := k2) (ll := l2) (KT6.out.under hb) (termN_bytes (j + 1)) (termN_max _) K1M.out hPx
                have hab := Kne.out j hji
                have YB : Kept _ := ⟨termN_bytes (j + 1)⟩
                obtain ⟨b, hB2⟩ : ∃ a, a = termN (j + 1) := ⟨_, rfl⟩
                rw [← hB2] at CP hcell hab YB
                have D1 : Kept (false = decide (a = b)) := ⟨(decide_eq_false hab).symm⟩
                have KC : Kept _ := ⟨hcell⟩
                have KCP : Kept _ := ⟨CP⟩
                have KUy : Kept (∀ p ∈ l2, Bytes p) := ⟨hUy⟩
                have Kneq : Kept _ := ⟨hneq⟩
                clear hu hx hcell hPx hUy hUF hneq CP hab hB2
                go_wp2_with (first | ((with_reducible refine wv_val (d := 64) ?hd ?hw (.pointer (some (A.add j))) ?hr ?_); (case hd => rfl); (case hw => kernel_rfl); (case hr => intro w; exact run_idxS (c := c3) rfl (by kernel_rfl) (by kernel_rfl) Tryd.underlying35 hji Tryd.sizeOf9 w); simp only [Act.put, List.setIfInBounds_toArray, List.set_cons_succ, List.set_cons_zero]) | ((with_reducible refine wv_elem (d := 65) ?hd ?hw 9 ag_str (.tmp 64) ?ho (A.add j) ?hx (.string (strOf b)) ?hc ?_); (case hd => rfl); (case hw => kernel_rfl); (case ho => rfl); (case hx => kernel_rfl); (case hc => exact KC.out); simp only [Act.put, List.setIfInBounds_toArray, List.set_cons_succ, List.set_cons_zero]))
                refine KCP.out.mono ?_
                rintro e w7 ⟨⟨V3, rfl, hV3⟩, b7⟩
                obtain ⟨p5, c5, rfl, hc5⟩ := vals_form (vrow_vals hV3) (strs_len l2)
                have hb7 := hb.trans (b7.mono hb.size)
                by_cases hkk2 : k = k2
                case neg =>
                  have D2 : Kept (false = decide (k = k2)) := ⟨(decide_eq_false hkk2).symm⟩
                  clear hV3 hkk2
                  go_wp2_with (first | ((with_reducible refine wv_val (d := 75) ?hd ?hw (.bool false) ?hr ?_); (case hd => rfl); (case hw => kernel_rfl); (case hr => intro w; exact run_seq rfl (by kernel_rfl) (by kernel_rfl) YA.out YB.out D1.out w); simp only [Act.put, List.setIfInBounds_toArray, List.set_cons_succ, List.set_cons_zero]) | ((with_reducible refine wv_val (d := 79) ?hd ?hw (.bool false) ?hr ?_); (case hd => rfl); (case hw => kernel_rfl); (case hr => intro w; exact run_eqU rfl (by kernel_rfl) (by kernel_rfl) D2.out w); simp only [Act.put, List.setIfInBounds_toArray, List.set_cons_succ, List.set_cons_zero]))
                  go_roundg (gk - 1)
                  case measure => omega
                  case rel => exact ⟨j + 1, by omega, by simp, hb7⟩
                case pos =>
                  have D2 : Kept (true = decide (k = k2)) := ⟨(decide_eq_true hkk2).symm⟩
                  have hll : ll ≠ l2 := fun e => Kneq.out (by rw [hkk2, e])
                  have CS := SameD (vrow_vals (KV2.out.under hb7)) (vrow_vals hV3) KFy.out KUy.out (Nat.le_trans KLen.out (by decide))
                  rw [decide_eq_false hll] at CS
                  have KCS : Kept _ := ⟨CS⟩
                  clear hV3 hkk2 hll CS
                  go_wp2_with (first | ((with_reducible refine wv_val (d := 75) ?hd ?hw (.bool false) ?hr ?_); (case hd => rfl); (case hw => kernel_rfl); (case hr => intro w; exact run_seq rfl (by kernel_rfl) (by kernel_rfl) YA.out YB.out D1.out w); simp only [Act.put, List.setIfInBounds_toArray, List.set_cons_succ, List.set_cons_zero]) | ((with_reducible refine wv_val (d := 79) ?hd ?hw (.bool true) ?hr ?_); (case hd => rfl); (case hw => kernel_rfl); (case hr => intro w; exact run_eqU rfl (by kernel_rfl) (by kernel_rfl) D2.out w); simp only [Act.put, List.setIfInBounds_toArray, List.set_cons_succ, List.set_cons_zero]))
                  refine KCS.out.mono ?_
                  rintro e w8 ⟨rfl, b8⟩
                  go_wp2_with fail
                  go_roundg (gk - 1)
                  case measure => omega
                  case rel => exact ⟨j + 1, by omega, by simp, hb7.trans (b8.mono hb7.size)⟩
              case pos =>
                obtain rfl : i = j := by omega
                have hT7 := KT6.out.under hb
                have hV7 := KV6.out.under hb
                have q7 := q6.trans (hb.mono q6.size)
                have DA : Kept (false = !decide (a = a)) := ⟨by rw [decide_eq_true rfl]; rfl⟩
                have hgx := hgO
                rcases Kag.out with ⟨rfl, s, rfl⟩ | ⟨rfl, s, rfl⟩ | rfl | rfl | rfl
                ·
                  have C1 : Kept (true = decide ((1 : Nat) = 1)) := ⟨rfl⟩
                  have C2 : Kept (false = decide ((1 : Nat) = 2)) := ⟨rfl⟩
                  have C4 : Kept (false = decide ((1 : Nat) = 4)) := ⟨rfl⟩
                  obtain rfl : m = 1 := KM.out
                  have hx := vrow_vals (KV2.out.under hb)
                  obtain ⟨A2, rfl, hAb2, hcell2⟩ := vals_at hx (show (strs [s])[0]? = some (.string (strOf s)) from rfl)
                  have KC2 : Kept _ := ⟨hcell2⟩
                  have hlt1 : 0 < 1 := by decide
                  clear hx hcell2
                  go_wp2_with (first | ((with_reducible refine wv_val (d := 90) ?hd ?hw (.bool true) ?hr ?_); (case hd => rfl); (case hw => kernel_rfl); (case hr => intro w; exact run_eqU (m := 1) (n := 1) rfl (by kernel_rfl) rfl C1.out w); simp only [Act.put, List.setIfInBounds_toArray, List.set_cons_succ, List.set_cons_zero]) | ((with_reducible refine wv_val (d := 93) ?hd ?hw (.pointer (some (A2.add 0))) ?hr ?_); (case hd => rfl); (case hw => kernel_rfl); (case hr => intro w; exact run_idxS (i := 0) (l := 1) (c := c4) rfl (by kernel_rfl) rfl Tryd.underlying35 hlt1 Tryd.sizeOf9 w); simp only [Act.put, List.setIfInBounds_toArray, List.set_cons_succ, List.set_cons_zero]) | ((with_reducible refine wv_elem (d := 94) ?hd ?hw 9 ag_str (.tmp 93) ?ho (A2.add 0) ?hx (.string (strOf s)) ?hc ?_); (case hd => rfl); (case hw => kernel_rfl); (case ho => rfl); (case hx => kernel_rfl); (case hc => exact KC2.out); simp only [Act.put, List.setIfInBounds_toArray, List.set_cons_succ, List.set_cons_zero]))
                  refine (AtomE hT7 (KFy.out s (by simp)) (KFl.out s (by simp)) K1M.out KPut.out rfl).mono ?_
                  rintro e w9 ⟨rfl, M9, hT9, tu⟩
                  have q9 := q7.trans ((hT7.below tu).mono hBw)
                  have V9 := tu.vrow hV7 KAp.out
                  have A9 : ∀ b, blkOf (.slice (some A) N c3) = some b → ¬ M9 b := fun b hb2 => tu.not (KAp.out b hb2) (hV7.range b hb2).2
                  go_wp2_with (first | ((with_reducible refine wv_val (d := 110) ?hd ?hw (.bool false) ?hr ?_); (case hd => rfl); (case hw => kernel_rfl); (case hr => intro w; exact run_sneq rfl (by kernel_rfl) (by kernel_rfl) YA.out YA.out DA.out w); simp only [Act.put, List.setIfInBounds_toArray, List.set_cons_succ, List.set_cons_zero]))
                  go_roundg (gO - 1)
                  case measure => omega
                  case rel => exact ⟨i + 1, _, by omega, by simp, hT9, q9, V9, A9⟩

                ·
                  have C1 : Kept (false = decide ((2 : Nat) = 1)) := ⟨rfl⟩
                  have C2 : Kept (true = decide ((2 : Nat) = 2)) := ⟨rfl⟩
                  have C4 : Kept (false = decide ((2 : Nat) = 4)) := ⟨rfl⟩
                  obtain rfl : m = 1 := KM.out
                  have hx := vrow_vals (KV2.out.under hb)
                  obtain ⟨A2, rfl, hAb2, hcell2⟩ := vals_at hx (show (strs [s])[0]? = some (.string (strOf s)) from rfl)
                  have KC2 : Kept _ := ⟨hcell2⟩
                  have hlt1 : 0 < 1 := by decide
                  clear hx hcell2
                  go_wp2_with (first | ((with_reducible refine wv_val (d := 90) ?hd ?hw (.bool false) ?hr ?_); (case hd => rfl); (case hw => kernel_rfl); (case hr => intro w; exact run_eqU (m := 2) (n := 1) rfl (by kernel_rfl) rfl C1.out w); simp only [Act.put, List.setIfInBounds_toArray, List.set_cons_succ, List.set_cons_zero]) | ((with_reducible refine wv_val (d := 97) ?hd ?hw (.bool true) ?hr ?_); (case hd => rfl); (case hw => kernel_rfl); (case hr => intro w; exact run_eqU (m := 2) (n := 2) rfl (by kernel_rfl) rfl C2.out w); simp only [Act.put, List.setIfInBounds_toArray, List.set_cons_succ, List.set_cons_zero]) | ((with_reducible refine wv_val (d := 100) ?hd ?hw (.pointer (some (A2.add 0))) ?hr ?_); (case hd => rfl); (case hw => kernel_rfl); (case hr => intro w; exact run_idxS (i := 0) (l := 1) (c := c4) rfl (by kernel_rfl) rfl Tryd.underlying35 hlt1 Tryd.sizeOf9 w); simp only [Act.put, List.setIfInBounds_toArray, List.set_cons_succ, List.set_cons_zero]) | ((with_reducible refine wv_elem (d := 101) ?hd ?hw 9 ag_str (.tmp 100) ?ho (A2.add 0) ?hx (.string (strOf s)) ?hc ?_); (case hd => rfl); (case hw => kernel_rfl); (case ho => rfl); (case hx => kernel_rfl); (case hc => exact KC2.out); simp only [Act.put, List.setIfInBounds_toArray, List.set_cons_succ, List.set_cons_zero]))
                  refine (PubE hT7 (KFy.out s (by simp)) (KFl.out s (by simp)) K1M.out KPut.out rfl).mono ?_
                  rintro e w9 ⟨rfl, M9, hT9, tu⟩
                  have q9 := q7.trans ((hT7.below tu).mono hBw)
                  have V9 := tu.vrow hV7 KAp.out
                  have A9 : ∀ b, blkOf (.slice (some A) N c3) = some b → ¬ M9 b := fun b hb2 => tu.not (KAp.out b hb2) (hV7.range b hb2).2
                  go_wp2_with (first | ((with_reducible refine wv_val (d := 110) ?hd ?hw (.bool false) ?hr ?_); (case hd => rfl); (case hw => kernel_rfl); (case hr => intro w; exact run_sneq rfl (by kernel_rfl) (by kernel_rfl) YA.out YA.out DA.out w); simp only [Act.put, List.setIfInBounds_toArray, List.set_cons_succ, List.set_cons_zero]))
                  go_roundg (gO - 1)
                  case measure => omega
                  case rel => exact ⟨i + 1, _, by omega, by simp, hT9, q9, V9, A9⟩

                ·
                  have C1 : Kept (false = decide ((3 : Nat) = 1)) := ⟨rfl⟩
                  have C2 : Kept (false = decide ((3 : Nat) = 2)) := ⟨rfl⟩
                  have C4 : Kept (false = decide ((3 : Nat) = 4)) := ⟨rfl⟩
                  go_wp2_with (first | ((with_reducible refine wv_val (d := 90) ?hd ?hw (.bool false) ?hr ?_); (case hd => rfl); (case hw => kernel_rfl); (case hr => intro w; exact run_eqU (m := 3) (n := 1) rfl (by kernel_rfl) rfl C1.out w); simp only [Act.put, List.setIfInBounds_toArray, List.set_cons_succ, List.set_cons_zero]) | ((with_reducible refine wv_val (d := 97) ?hd ?hw (.bool false) ?hr ?_); (case hd => rfl); (case hw => kernel_rfl); (case hr => intro w; exact run_eqU (m := 3) (n := 2) rfl (by kernel_rfl) rfl C2.out w); simp only [Act.put, List.setIfInBounds_toArray, List.set_cons_succ, List.set_cons_zero]) | ((with_reducible refine wv_val (d := 104) ?hd ?hw (.bool false) ?hr ?_); (case hd => rfl); (case hw => kernel_rfl); (case hr => intro w; exact run_eqU (m := 3) (n := 4) rfl (by kernel_rfl) rfl C4.out w); simp only [Act.put, List.setIfInBounds_toArray, List.set_cons_succ, List.set_cons_zero]) | ((with_reducible refine wv_val (d := 110) ?hd ?hw (.bool false) ?hr ?_); (case hd => rfl); (case hw => kernel_rfl); (case hr => intro w; exact run_sneq rfl (by kernel_rfl) (by kernel_rfl) YA.out YA.out DA.out w); simp only [Act.put, List.setIfInBounds_toArray, List.set_cons_succ, List.set_cons_zero]))
                  go_roundg (gO - 1)
                  case measure => omega
                  case rel => exact ⟨i + 1, _, by omega, by simp, hT7, q7, hV7, KAp.out⟩

                ·
                  have C1 : Kept (false = decide ((4 : Nat) = 1)) := ⟨rfl⟩
                  have C2 : Kept (false = decide ((4 : Nat) = 2)) := ⟨rfl⟩
                  have C4 : Kept (true = decide ((4 : Nat) = 4)) := ⟨rfl⟩
                  have hx := vrow_vals (KV2.out.under hb)
                  have KHx : Kept _ := ⟨hx⟩
                  clear hx
                  go_wp2_with (first | ((with_reducible refine wv_val (d := 90) ?hd ?hw (.bool false) ?hr ?_); (case hd => rfl); (case hw => kernel_rfl); (case hr => intro w; exact run_eqU (m := 4) (n := 1) rfl (by kernel_rfl) rfl C1.out w); simp only [Act.put, List.setIfInBounds_toArray, List.set_cons_succ, List.set_cons_zero]) | ((with_reducible refine wv_val (d := 97) ?hd ?hw (.bool false) ?hr ?_); (case hd => rfl); (case hw => kernel_rfl); (case hr => intro w; exact run_eqU (m := 4) (n := 2) rfl (by kernel_rfl) rfl C2.out w); simp only [Act.put, List.setIfInBounds_toArray, List.set_cons_succ, List.set_cons_zero]) | ((with_reducible refine wv_val (d := 104) ?hd ?hw (.bool true) ?hr ?_); (case hd => rfl); (case hw => kernel_rfl); (case hr => intro w; exact run_eqU (m := 4) (n := 4) rfl (by kernel_rfl) rfl C4.out w); simp only [Act.put, List.setIfInBounds_toArray, List.set_cons_succ, List.set_cons_zero]))
                  refine (HashE hT7 KFy.out KHx.out KFl.out K1M.out KPut.out).mono ?_
                  rintro e w9 ⟨rfl, M9, hT9, tu⟩
                  have q9 := q7.trans ((hT7.below tu).mono hBw)
                  have V9 := tu.vrow hV7 KAp.out
                  have A9 : ∀ b, blkOf (.slice (some A) N c3) = some b → ¬ M9 b := fun b hb2 => tu.not (KAp.out b hb2) (hV7.range b hb2).2
                  go_wp2_with (first | ((with_reducible refine wv_val (d := 110) ?hd ?hw (.bool false) ?hr ?_); (case hd => rfl); (case hw => kernel_rfl); (case hr => intro w; exact run_sneq rfl (by kernel_rfl) (by kernel_rfl) YA.out YA.out DA.out w); simp only [Act.put, List.setIfInBounds_toArray, List.set_cons_succ, List.set_cons_zero]))
                  go_roundg (gO - 1)
                  case measure => omega
                  case rel => exact ⟨i + 1, _, by omega, by simp, hT9, q9, V9, A9⟩

                ·
                  have C1 : Kept (false = decide ((5 : Nat) = 1)) := ⟨rfl⟩
                  have C2 : Kept (false = decide ((5 : Nat) = 2)) := ⟨rfl⟩
                  have C4 : Kept (false = decide ((5 : Nat) = 4)) := ⟨rfl⟩
                  go_wp2_with (first | ((with_reducible refine wv_val (d := 90) ?hd ?hw (.bool false) ?hr ?_); (case hd => rfl); (case hw => kernel_rfl); (case hr => intro w; exact run_eqU (m := 5) (n := 1) rfl (by kernel_rfl) rfl C1.out w); simp only [Act.put, List.setIfInBounds_toArray, List.set_cons_succ, List.set_cons_zero]) | ((with_reducible refine wv_val (d := 97) ?hd ?hw (.bool false) ?hr ?_); (case hd => rfl); (case hw => kernel_rfl); (case hr => intro w; exact run_eqU (m := 5) (n := 2) rfl (by kernel_rfl) rfl C2.out w); simp only [Act.put, List.setIfInBounds_toArray, List.set_cons_succ, List.set_cons_zero]) | ((with_reducible refine wv_val (d := 104) ?hd ?hw (.bool false) ?hr ?_); (case hd => rfl); (case hw => kernel_rfl); (case hr => intro w; exact run_eqU (m := 5) (n := 4) rfl (by kernel_rfl) rfl C4.out w); simp only [Act.put, List.setIfInBounds_toArray, List.set_cons_succ, List.set_cons_zero]) | ((with_reducible refine wv_val (d := 110) ?hd ?hw (.bool false) ?hr ?_); (case hd => rfl); (case hw => kernel_rfl); (case hr => intro w; exact run_sneq rfl (by kernel_rfl) (by kernel_rfl) YA.out YA.out DA.out w); simp only [Act.put, List.setIfInBounds_toArray, List.set_cons_succ, List.set_cons_zero]))
                  go_roundg (gO - 1)
                  case measure => omega
                  case rel => exact ⟨i + 1, _, by omega, by simp, hT7, q7, hV7, KAp.out⟩

end Go.Proofs.YtfdldpcfdebinaaDoor.sh
