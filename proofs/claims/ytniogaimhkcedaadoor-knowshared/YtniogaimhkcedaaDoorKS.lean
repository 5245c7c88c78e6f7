/-
  rulesOf.
-/
import Derived.Test.YtniogaimhkcedaaDoorKQ
namespace Go.Proofs.YtniogaimhkcedaaDoor.sh
open Go Go.RowKit Go.Maps
set_option linter.unusedVariables false
set_option linter.unusedSimpArgs false

theorem inf_ints : (Tryd.prog.info? 65).map (fun i => (i.zero, i.size, i.bytes)) = some (some (.slice none 0 0), 1, 24) := by kernel_rfl
theorem inf_bool : (Tryd.prog.info? 4).map (fun i => (i.zero, i.size, i.bytes)) = some (some (.bool false), 1, 1) := by kernel_rfl
/-- What a table's terms are: formed, boxes of four parts. -/
structure TermsB (ts : List TermL) : Prop where
  terms : Terms ts
  box : ∀ ll, ((5, ll) : TermL) ∈ ts → ∃ k n a x, ll = [k, n, a, x]
theorem TermsK.toB {ts : List TermL} (h : TermsK ts) : TermsB ts := ⟨h.terms, h.box⟩
theorem TermsB.put {ts : List TermL} {t : TermL} (h : TermsB ts) (ht : Formed t) (hb : t.1 = 5 → ∃ k n a x, t.2 = [k, n, a, x]) : TermsB (putL ts t).1 where
  terms := putL_terms h.terms ht
  box ll hm := by
    rcases put_mem hm with hm | rfl
    · exact h.box ll hm
    · exact hb rfl
set_option maxRecDepth 100000 in
set_option maxHeartbeats 8000000 in
theorem rulesOfD {tb Bt mb : Nat} {ts : List TermL} {Mt : Nat → Prop} {V : Value} {w : World} (hT : Tab tb Bt ts Mt w) (hV : ValsV V w (strs (namesL ts.length))) (hP : MapI (plcR ts.length) mb ts.length w) (hK : TermsB ts) (hN : ts.length ≤ 200000) :
    Calls Tryd.prog 29 #[.pointer (some ⟨tb, 0, none⟩), V, .map (some mb)] w fun e w' => (∃ rb M', e = .returned (.pointer (some ⟨rb, 0, none⟩)) ∧ RuB rb w.heap.size ts.length (3 * ts.length) (fun H => ∀ j, j < ts.length → ClosedAt ts H j) M' w') ∧ Below w.heap.size w w' := by
  have hts : ts.length < 1000000 := by omega
  obtain ⟨N, hNn⟩ : ∃ N, N = ts.length := ⟨_, rfl⟩
  obtain ⟨p, c, rfl, hc⟩ := vals_form hV (show (strs (namesL ts.length)).length = N by rw [strs_len, namesL_len, hNn])
  have hN1 : N < 1000001 := by omega
  have hN0 : N ≤ 200000 := by omega
  have KV : Kept _ := ⟨hV⟩
  have KT : Kept _ := ⟨hT⟩
  have KPl : Kept _ := ⟨hP⟩
  have KK : Kept _ := ⟨hK⟩
  have Kts : Kept _ := ⟨hts⟩
  have KN : Kept _ := ⟨hNn⟩
  clear hT hV hP hK hN hts hNn
  go_enter Tryd.func29, Tryd.ntmps29
  go_wp2_with fail
  refine region_ownL w 6 [(14, .slice p N c), (15, .int .i64 (N : Int)), (17, .slice p N c), (18, .int .i64 (N : Int))] [(16, VRow w.heap.size 65 (List.replicate N (.slice none 0 0))), (19, VRow w.heap.size 4 (List.replicate N (.bool false)))] [16, 19] [] rfl (by kernel_rfl) (by kernel_rfl) (by kernel_rfl) (by kernel_rfl) (by kernel_rfl) (by kernel_rfl) (by kernel_rfl) (by kernel_rfl) (by kernel_rfl) (by kernel_rfl) (by kernel_rfl) ?hst1 ?hst2 (Below.refl _ _) (fun hA => ⟨ow_val hA (wants_none rfl) 14 (.slice p N c) (by kernel_rfl) rfl rfl rfl rfl (by kernel_rfl) (fun w => by kernel_rfl), ow_val hA (wants_none rfl) 15 (.int .i64 (N : Int)) (by kernel_rfl) rfl rfl rfl rfl (by kernel_rfl) (fun w => by kernel_rfl), ow_mkV hA (wants_none rfl) 16 15 N rfl rfl (by kernel_rfl) (by kernel_rfl) rfl Tryd.underlying68 inf_ints rfl (by decide) hN1 rfl, ow_val hA (wants_none rfl) 17 (.slice p N c) (by kernel_rfl) rfl rfl rfl rfl (by kernel_rfl) (fun w => by kernel_rfl), ow_val hA (wants_none rfl) 18 (.int .i64 (N : Int)) (by kernel_rfl) rfl rfl rfl rfl (by kernel_rfl) (fun w => by kernel_rfl), ow_mkV hA (wants_none rfl) 19 18 N rfl rfl (by kernel_rfl) (by kernel_rfl) rfl Tryd.underlying33 inf_bool rfl (by decide) hN1 rfl, trivial⟩) ?_
  case hst1 =>
    intro q hq h
    rcases List.mem_cons.1 hq with rfl | hq
    · cases h
    · rw [List.mem_singleton] at hq
      subst hq
      cases h
  case hst2 =>
    intro q hq _ v w1 w2 row h hg hne _
    rcases List.mem_cons.1 hq with rfl | hq
    · exact VRow.keeps h hg hne
    · rw [List.mem_singleton] at hq
      subst hq
      exact VRow.keeps h hg hne
  intro fv w3 hf hD b3
  simp only [putR, List.foldl_cons, List.foldl_nil, List.map_cons, List.map_nil, Act.put, List.setIfInBounds_toArray, List.set_cons_succ, List.set_cons_zero]
  have h16 : VRow w.heap.size 65 (List.replicate N (.slice none 0 0)) (fv 16) w3 := (hf 16 _ rfl rfl).1
  have h19 : VRow w.heap.size 4 (List.replicate N (.bool false)) (fv 19) w3 := (hf 19 _ rfl rfl).1
  have hdd := hD 16 19 rfl rfl rfl rfl (by decide)
  clear hf hD
  generalize fv 16 = v16 at *
  generalize fv 19 = v19 at *
  obtain ⟨p16, c16, rfl, _⟩ := vals_form (vrow_vals h16) List.length_replicate
  obtain ⟨p19, c19, rfl, _⟩ := vals_form (vrow_vals h19) List.length_replicate
  have hru := ru_first b3.size h16 h19 hdd
  have b4 : Below w.heap.size w (w3.alloc (.cells #[.slice none 0 0, .slice p16 N c16, .slice p19 N c19, .slice none 0 0] 70)) := b3.trans (((Below.refl w3.heap.size w3).alloc (Nat.le_refl _) _).mono b3.size)
  have fin : ∀ w4, w4 = w3.alloc (.cells #[.slice none 0 0, .slice p16 N c16, .slice p19 N c19, .slice none 0 0] 70) → (∃ M0, RuB w3.heap.size w.heap.size ts.length 0 (fun H => ∀ j, j < 0 → ClosedAt ts H j) M0 w4) ∧ Below w.heap.size w w4 := fun w4 h => by
    subst h
    have hN := KN.out
    rw [hN] at hru
    refine ⟨⟨_, rs0 ts.length, [], by rw [hN]; exact hru, ⟨Built.first _, Nat.le_refl _, fun l hl => ?_, fun r hr => (by cases hr)⟩, fun H => ⟨fun _ j hj => absurd hj (Nat.not_lt_zero _), fun _ => ⟨fun x hx => absurd hx (had_none _ _), fun r hr => by cases hr⟩⟩⟩, b4⟩
    have := List.eq_of_mem_replicate hl
    rw [this]
    exact Nat.zero_le _
  have KF : Kept _ := ⟨fin⟩
  obtain ⟨rb, hrb⟩ : ∃ r, r = w3.heap.size := ⟨_, rfl⟩
  have Krb : Kept _ := ⟨hrb⟩
  clear hru b4 h16 h19 hdd fin b3 hrb
  go_wp2_with (first | ((with_reducible refine wv_val (d := 20) ?hd ?hw (.agg #[.slice none 0 0, .slice p16 N c16, .slice p19 N c19, .slice none 0 0]) ?hr ?_); (case hd => rfl); (case hw => kernel_rfl); (case hr => intro w; exact run_buildRO rfl (by kernel_rfl) (by kernel_rfl) w); simp only [Act.put, List.setIfInBounds_toArray, List.set_cons_succ, List.set_cons_zero]))
  have h4 := KF.out _ rfl
  clear KF
  (generalize hw4 : w3.alloc (.cells #[.slice none 0 0, .slice p16 N c16, .slice p19 N c19, .slice none 0 0] 70) = w4 at *)
  have KF4 : Kept _ := ⟨h4⟩
  rw [← Krb.out]
  clear hw4 h4
  obtain ⟨⟨M0, hR4⟩, hb4⟩ := KF4.out
  have hM0 : ∀ b, M0 b → w.heap.size ≤ b := fun b hb => (hR4.range hb).1
  have KPub : Kept _ := ⟨pubsOfD (KT.out.under hb4) (KV.out.under hb4) Kts.out⟩
  have KR4 : Kept _ := ⟨hR4⟩
  have Kb4 : Kept _ := ⟨hb4⟩
  have KM0 : Kept (∀ b, M0 b → w.heap.size ≤ b) := ⟨hM0⟩
  clear hR4 hb4 hM0 KF4
  go_wp2_with fail
  refine KPub.out.mono ?_
  rintro e w5 ⟨⟨pb, rfl, hpb, hPb⟩, q5⟩
  have hG5 : Reg ts rb w.heap.size mb pb (3 * 0) (fun H => ∀ j, j < 0 → ClosedAt ts H j) M0 w4 M0 w5 := by
    have hR5 := KR4.out.under q5
    rw [← Krb.out] at hR5
    refine ⟨hR5, (KPl.out.under Kb4.out).under q5, hPb, fun h => ?_, fun h => ?_, Turn.of_below q5⟩
    · have h1 := KM0.out _ h
      have h2 := KPl.out.lt
      omega
    · have h1 := (KR4.out.range h).2
      omega
  have KG5 : Kept _ := ⟨hG5⟩
  have KBel : Kept (∀ M' w', Turn M0 w4 M' w' → Below w.heap.size w w') := ⟨fun M' w' ht => Kb4.out.trans (ht.below KM0.out Kb4.out.size)⟩
  clear hG5 hPb hpb q5
  go_wp2_with fail
  go_loopg [27] N (fun g s27 wr => ∃ (i : Nat) (M' : Nat → Prop), i + g = N ∧ s27 = .int .i64 (i : Int) ∧ Reg ts rb w.heap.size mb pb (3 * i) (fun H => ∀ j, j < i → ClosedAt ts H j) M0 w4 M' wr)
  case atStart => exact ⟨0, M0, by omega, rfl, KG5.out⟩
  case round =>
    rename World => wz
    obtain ⟨i, M1, hik, rfl, hG⟩ := hrel
    by_cases hk0 : gk = 0
    case pos =>
      obtain rfl : N = i := by omega
      have KG : Kept _ := ⟨hG⟩
      clear hG
      go_wp2_with fail
      go_ret
      have hru := KG.out.ru
      have hN := KN.out
      refine ⟨⟨rb, M1, rfl, ?_⟩, KBel.out _ _ KG.out.tu⟩
      rw [← hN]
      rw [← hN] at hru
      exact hru
    case neg =>
      have hin : i < N := by omega
      have hin' : (i : Int) < (N : Int) := by omega
      have hi1 : (i : Int) + 1 ≤ 9223372036854775807 := by omega
      have hx : (strs (namesL ts.length))[i]? = some (.string (strOf (termN (i + 1)))) := strs_get (namesL_get (by rw [← KN.out]; exact hin))
      have hqw := KBel.out _ _ hG.tu
      obtain ⟨A, rfl, hA, hcell⟩ := vals_at (KV.out.under hqw) hx
      obtain ⟨t, ht⟩ : ∃ t, ts[i]? = some t := ⟨_, List.getElem?_eq_getElem (by rw [← KN.out]; exact hin)⟩
      have hmem := List.mem_of_getElem? ht
      have htF := KT.out.terms.2 t hmem
      have htC := KT.out.terms.1.2 t hmem
      have htB := KK.out.box
      have hPx := partX_name (ts := ts) (i := i) (by rw [← KN.out]; exact hin) Kts.out
      rw [ht] at hPx
      obtain ⟨kk, ll⟩ := t
      have CP := PartsE (k := kk) (ll := ll) (KT.out.under hqw) (termN_bytes _) (termN_max (i + 1)) Kts.out hPx
      have KC : Kept _ := ⟨hcell⟩
      have KG : Kept _ := ⟨hG⟩
      have KP : Kept _ := ⟨CP⟩
      obtain ⟨T, hT⟩ : ∃ T, T = termN (i + 1) := ⟨_, rfl⟩
      rw [← hT] at KC KP
      have Kit : Kept (i < ts.length) := ⟨by rw [← KN.out]; exact hin⟩
      have Kk : Kept (3 * i ≤ 900000) := ⟨by omega⟩
      have Kk3 : Kept (3 * i + 3 ≤ 900000) := ⟨by omega⟩
      have Kk2 : Kept (3 * i + 2 ≤ 900000) := ⟨by omega⟩
      have Kwt : Kept (weight ll ≤ 1000000) := ⟨Nat.le_trans (weight_fits htC) (by decide)⟩
      have Kby : Kept (∀ l ∈ ll, Bytes l) := ⟨htF.1⟩
      have Kln : Kept (∀ l ∈ ll, l.length ≤ 40000) := ⟨fun l hl => Nat.le_trans (htC.2.1 l hl) (by decide)⟩
      clear hqw hA hmem
      have hkinds := htF.2
      have ht' := ht
      rcases hkinds with ⟨hkk, px, rfl⟩ | ⟨hkk, px, rfl⟩ | ⟨hkk, x, y, rfl⟩ | hkk | hkk
      · -- an atom
       have Kcl : Kept (∀ H, ClosedAt ts H i ↔ True) := ⟨fun H => closed_atom (by rw [ht, show kk = 1 from hkk])⟩
       replace hkk : kk = 1 := hkk
       have B2 : Kept (false = decide (kk = 2)) := ⟨by rw [hkk]; rfl⟩
       have B4 : Kept (false = decide (kk = 4)) := ⟨by rw [hkk]; rfl⟩
       have B3 : Kept (false = decide (kk = 3)) := ⟨by rw [hkk]; rfl⟩
       have B5 : Kept (false = decide (kk = 5)) := ⟨by rw [hkk]; rfl⟩
       clear hx hcell hG ht ht' htF htC htB hPx CP hkk hT
       go_wp2_with (first | ((with_reducible refine wv_val (d := 30) ?hd ?hw (.pointer (some (A.add i))) ?hr ?_); (case hd => rfl); (case hw => kernel_rfl); (case hr => intro w; exact run_idxS (c := c) rfl (by kernel_rfl) (by kernel_rfl) Tryd.underlying29 hin Tryd.sizeOf9 w); simp only [Act.put, List.setIfInBounds_toArray, List.set_cons_succ, List.set_cons_zero]) | ((with_reducible refine wv_elem (d := 31) ?hd ?hw 9 ag_str (.tmp 30) ?ho (A.add i) ?hx (.string (strOf T)) ?hc ?_); (case hd => rfl); (case hw => kernel_rfl); (case ho => rfl); (case hx => kernel_rfl); (case hc => exact KC.out); simp only [Act.put, List.setIfInBounds_toArray, List.set_cons_succ, List.set_cons_zero]))
       refine KP.out.mono ?_
       rintro e w6 ⟨⟨V2, rfl, hV2⟩, q6⟩
       obtain ⟨p2, c2, rfl, _⟩ := vals_form (vrow_vals hV2) (show (strs [px]).length = 1 from rfl)
       have KG6 : Kept _ := ⟨KG.out.under q6⟩
       clear hV2 q6
       go_wp2_with (first | ((with_reducible refine wv_val (d := 41) ?hd ?hw (.bool false) ?hr ?_); (case hd => rfl); (case hw => kernel_rfl); (case hr => intro w; exact run_eqU8 2 rfl (by kernel_rfl) B2.out w); simp only [Act.put, List.setIfInBounds_toArray, List.set_cons_succ, List.set_cons_zero]) | ((with_reducible refine wv_val (d := 42) ?hd ?hw (.bool false) ?hr ?_); (case hd => rfl); (case hw => kernel_rfl); (case hr => intro w; exact run_eqU8 4 rfl (by kernel_rfl) B4.out w); simp only [Act.put, List.setIfInBounds_toArray, List.set_cons_succ, List.set_cons_zero]) | ((with_reducible refine wv_val (d := 51) ?hd ?hw (.bool false) ?hr ?_); (case hd => rfl); (case hw => kernel_rfl); (case hr => intro w; exact run_eqU8 3 rfl (by kernel_rfl) B3.out w); simp only [Act.put, List.setIfInBounds_toArray, List.set_cons_succ, List.set_cons_zero]) | ((with_reducible refine wv_val (d := 64) ?hd ?hw (.bool false) ?hr ?_); (case hd => rfl); (case hw => kernel_rfl); (case hr => intro w; exact run_eqU8 5 rfl (by kernel_rfl) B5.out w); simp only [Act.put, List.setIfInBounds_toArray, List.set_cons_succ, List.set_cons_zero]))
       go_roundg (gk - 1)
       case measure => omega
       case rel =>
         refine ⟨i + 1, M1, by omega, by simp, ?_⟩
         exact KG6.out.mono (by omega) fun H => by rw [closed_succ, Kcl.out H]; simp
      · -- a public key
       have Kcl : Kept (∀ H, ClosedAt ts H i ↔ ((∀ p ∈ [px], KnownS ts H p) → H i)) := ⟨fun H => closed_pub (by rw [ht, show kk = 2 from hkk])⟩
       generalize hll : [px] = ll at *
       clear hll ht' htB
       replace hkk : kk = 2 := hkk
       have B2 : Kept (true = decide (kk = 2)) := ⟨by rw [hkk]; rfl⟩
       have B4 : Kept (false = decide (kk = 4)) := ⟨by rw [hkk]; rfl⟩
       have B3 : Kept (false = decide (kk = 3)) := ⟨by rw [hkk]; rfl⟩
       have B5 : Kept (false = decide (kk = 5)) := ⟨by rw [hkk]; rfl⟩
       clear hx hcell hG ht htF htC hPx CP hkk hT
       go_wp2_with (first | ((with_reducible refine wv_val (d := 30) ?hd ?hw (.pointer (some (A.add i))) ?hr ?_); (case hd => rfl); (case hw => kernel_rfl); (case hr => intro w; exact run_idxS (c := c) rfl (by kernel_rfl) (by kernel_rfl) Tryd.underlying29 hin Tryd.sizeOf9 w); simp only [Act.put, List.setIfInBounds_toArray, List.set_cons_succ, List.set_cons_zero]) | ((with_reducible refine wv_elem (d := 31) ?hd ?hw 9 ag_str (.tmp 30) ?ho (A.add i) ?hx (.string (strOf T)) ?hc ?_); (case hd => rfl); (case hw => kernel_rfl); (case ho => rfl); (case hx => kernel_rfl); (case hc => exact KC.out); simp only [Act.put, List.setIfInBounds_toArray, List.set_cons_succ, List.set_cons_zero]))
       refine KP.out.mono ?_
       rintro e w6 ⟨⟨V2, rfl, hV2⟩, q6⟩
       obtain ⟨m2, hm2⟩ : ∃ m, m = ll.length := ⟨_, rfl⟩
       obtain ⟨p2, c2, rfl, _⟩ := vals_form (vrow_vals hV2) (show (strs ll).length = m2 by rw [strs_len, hm2])
       have KG6 : Kept _ := ⟨KG.out.under q6⟩
       have KW : Kept _ := ⟨withinD Kts.out (ll := ll) Kwt.out Kby.out (vrow_vals hV2) KG6.out.pl⟩
       clear hV2 hm2 q6
       go_wp2_with (first | ((with_reducible refine wv_val (d := 41) ?hd ?hw (.bool true) ?hr ?_); (case hd => rfl); (case hw => kernel_rfl); (case hr => intro w; exact run_eqU8 2 rfl (by kernel_rfl) B2.out w); simp only [Act.put, List.setIfInBounds_toArray, List.set_cons_succ, List.set_cons_zero]) | ((with_reducible refine wv_val (d := 42) ?hd ?hw (.bool false) ?hr ?_); (case hd => rfl); (case hw => kernel_rfl); (case hr => intro w; exact run_eqU8 4 rfl (by kernel_rfl) B4.out w); simp only [Act.put, List.setIfInBounds_toArray, List.set_cons_succ, List.set_cons_zero]) | ((with_reducible refine wv_val (d := 51) ?hd ?hw (.bool false) ?hr ?_); (case hd => rfl); (case hw => kernel_rfl); (case hr => intro w; exact run_eqU8 3 rfl (by kernel_rfl) B3.out w); simp only [Act.put, List.setIfInBounds_toArray, List.set_cons_succ, List.set_cons_zero]) | ((with_reducible refine wv_val (d := 64) ?hd ?hw (.bool false) ?hr ?_); (case hd => rfl); (case hw => kernel_rfl); (case hr => intro w; exact run_eqU8 5 rfl (by kernel_rfl) B5.out w); simp only [Act.put, List.setIfInBounds_toArray, List.set_cons_succ, List.set_cons_zero]))
       refine KW.out.mono ?_
       rintro e w7 ⟨⟨V7, ns, rfl, hr, hm, hl⟩, q7⟩
       obtain ⟨m7, hm7⟩ : ∃ m, m = ns.length := ⟨_, rfl⟩
       obtain ⟨p7, c7, rfl, _⟩ := ints_form (row_cells hr) hm7.symm
       have KA : Kept _ := ⟨KG6.out.addW Kts.out Kk.out (Below.refl _ _) q7 hr (todo_lt hm) Kit.out (Nat.le_trans hl Kwt.out)⟩
       have Kmm : Kept _ := ⟨hm⟩
       clear hr hm hl hm7 q7
       go_wp2_with (first | (refine wl_bsI rfl (.tmp 47) rfl i (by kernel_rfl) ?_; simp only [Act.put, List.setIfInBounds_toArray, List.set_cons_succ, List.set_cons_zero]))
       refine KA.out.mono ?_
       rintro e w8 ⟨rfl, M6, hG6⟩
       replace hG6 : Reg ts rb w.heap.size mb pb (3 * i + 1) (fun H => (∀ j, j < i → ClosedAt ts H j) ∧ ((∀ p ∈ ll, KnownS ts H p) → H i)) M0 w4 M6 w8 := hG6.mono (Nat.le_refl _) fun H => by rw [with_known Kmm.out H]
       have KG8 : Kept _ := ⟨hG6⟩
       clear hG6
       go_wp2_with fail
       go_roundg (gk - 1)
       case measure => omega
       case rel =>
         refine ⟨i + 1, M6, by omega, by simp, ?_⟩
         exact KG8.out.mono (by omega) fun H => by rw [closed_succ, Kcl.out H]
      · -- a shared key
       have Kcl : Kept (∀ H, ClosedAt ts H i ↔ (MakesK ts H (3, [x, y]) → H i)) := ⟨fun H => closed_dh (by rw [ht, show kk = 3 from hkk])⟩
       clear ht' htB
       replace hkk : kk = 3 := hkk
       have B2 : Kept (false = decide (kk = 2)) := ⟨by rw [hkk]; rfl⟩
       have B4 : Kept (false = decide (kk = 4)) := ⟨by rw [hkk]; rfl⟩
       have B3 : Kept (true = decide (kk = 3)) := ⟨by rw [hkk]; rfl⟩
       have B5 : Kept (false = decide (kk = 5)) := ⟨by rw [hkk]; rfl⟩
       clear hx hcell hG ht htF htC hPx CP hkk hT
       go_wp2_with (first | ((with_reducible refine wv_val (d := 30) ?hd ?hw (.pointer (some (A.add i))) ?hr ?_); (case hd => rfl); (case hw => kernel_rfl); (case hr => intro w; exact run_idxS (c := c) rfl (by kernel_rfl) (by kernel_rfl) Tryd.underlying29 hin Tryd.sizeOf9 w); simp only [Act.put, List.setIfInBounds_toArray, List.set_cons_succ, List.set_cons_zero]) | ((with_reducible refine wv_elem (d := 31) ?hd ?hw 9 ag_str (.tmp 30) ?ho (A.add i) ?hx (.string (strOf T)) ?hc ?_); (case hd => rfl); (case hw => kernel_rfl); (case ho => rfl); (case hx => kernel_rfl); (case hc => exact KC.out); simp only [Act.put, List.setIfInBounds_toArray, List.set_cons_succ, List.set_cons_zero]))
       refine KP.out.mono ?_
       rintro e w6 ⟨⟨V2, rfl, hV2⟩, q6⟩
       obtain ⟨m2, hm2⟩ : ∃ m, m = 2 := ⟨_, rfl⟩
       obtain ⟨p2, c2, rfl, _⟩ := vals_form (vrow_vals hV2) (show (strs [x, y]).length = m2 by rw [hm2]; rfl)
       obtain ⟨A2, rfl, hA2, _⟩ := vals_at (vrow_vals hV2) (show (strs [x, y])[0]? = some (.string (strOf x)) from rfl)
       have Kc0 : Kept (w6.cell? (A2.add 0) = some (.string (strOf x))) := ⟨vals_cell (vrow_vals hV2) (show (strs [x, y])[0]? = some (.string (strOf x)) from rfl)⟩
       have hl0 : 0 < m2 := by rw [hm2]; decide
       have Kc1 : Kept (w6.cell? (A2.add 1) = some (.string (strOf y))) := ⟨vals_cell (vrow_vals hV2) (show (strs [x, y])[1]? = some (.string (strOf y)) from rfl)⟩
       have hl1 : 1 < m2 := by rw [hm2]; decide
       have KG6 : Kept _ := ⟨KG.out.under q6⟩
       clear hV2 hm2 q6
       go_wp2_with (first | ((with_reducible refine wv_val (d := 41) ?hd ?hw (.bool false) ?hr ?_); (case hd => rfl); (case hw => kernel_rfl); (case hr => intro w; exact run_eqU8 2 rfl (by kernel_rfl) B2.out w); simp only [Act.put, List.setIfInBounds_toArray, List.set_cons_succ, List.set_cons_zero]) | ((with_reducible refine wv_val (d := 42) ?hd ?hw (.bool false) ?hr ?_); (case hd => rfl); (case hw => kernel_rfl); (case hr => intro w; exact run_eqU8 4 rfl (by kernel_rfl) B4.out w); simp only [Act.put, List.setIfInBounds_toArray, List.set_cons_succ, List.set_cons_zero]) | ((with_reducible refine wv_val (d := 51) ?hd ?hw (.bool true) ?hr ?_); (case hd => rfl); (case hw => kernel_rfl); (case hr => intro w; exact run_eqU8 3 rfl (by kernel_rfl) B3.out w); simp only [Act.put, List.setIfInBounds_toArray, List.set_cons_succ, List.set_cons_zero]) | ((with_reducible refine wv_val (d := 64) ?hd ?hw (.bool false) ?hr ?_); (case hd => rfl); (case hw => kernel_rfl); (case hr => intro w; exact run_eqU8 5 rfl (by kernel_rfl) B5.out w); simp only [Act.put, List.setIfInBounds_toArray, List.set_cons_succ, List.set_cons_zero]))
       refine region_ownNL w6 10 [(52, .pointer (some ⟨rb, 0, none⟩)), (53, .slice (some A2) m2 c2), (54, .pointer (some (A2.add 0))), (55, .string (strOf x)), (56, .slice (some A2) m2 c2), (57, .pointer (some (A2.add 1))), (58, .string (strOf y)), (59, .int .i64 (i : Int)), (60, .map (some mb)), (61, .map (some pb))] [] [] [] rfl (by kernel_rfl) (by kernel_rfl) (by kernel_rfl) (by kernel_rfl) (by kernel_rfl) (by kernel_rfl) (by kernel_rfl) (by kernel_rfl) (by kernel_rfl) (by kernel_rfl) (by kernel_rfl) ?hst1 ?hst2 (Below.refl _ _) (fun hA => ⟨ow_val hA (wants_none rfl) 52 (.pointer (some ⟨rb, 0, none⟩)) (by kernel_rfl) rfl rfl rfl rfl (by kernel_rfl) (fun w => by kernel_rfl), ow_val hA (wants_none rfl) 53 (.slice (some A2) m2 c2) (by kernel_rfl) rfl rfl rfl rfl (by kernel_rfl) (fun w => by kernel_rfl), ow_val hA (wants_none rfl) 54 (.pointer (some (A2.add 0))) (by kernel_rfl) rfl rfl rfl rfl (by kernel_rfl) (fun w => run_idxS (i := 0) (l := m2) (c := c2) rfl (by kernel_rfl) rfl Tryd.underlying29 hl0 Tryd.sizeOf9 w), ow_elem hA (wants_none rfl) 55 (.string (strOf x)) (by kernel_rfl) rfl rfl rfl rfl (by kernel_rfl) 9 ag_str (.tmp 54) rfl (A2.add 0) (by kernel_rfl) (fun w1 hb => (hb.cell (by rw [add_block]; exact hA2)).trans Kc0.out), ow_val hA (wants_none rfl) 56 (.slice (some A2) m2 c2) (by kernel_rfl) rfl rfl rfl rfl (by kernel_rfl) (fun w => by kernel_rfl), ow_val hA (wants_none rfl) 57 (.pointer (some (A2.add 1))) (by kernel_rfl) rfl rfl rfl rfl (by kernel_rfl) (fun w => run_idxS (i := 1) (l := m2) (c := c2) rfl (by kernel_rfl) rfl Tryd.underlying29 hl1 Tryd.sizeOf9 w), ow_elem hA (wants_none rfl) 58 (.string (strOf y)) (by kernel_rfl) rfl rfl rfl rfl (by kernel_rfl) 9 ag_str (.tmp 57) rfl (A2.add 1) (by kernel_rfl) (fun w1 hb => (hb.cell (by rw [add_block]; exact hA2)).trans Kc1.out), ow_val hA (wants_none rfl) 59 (.int .i64 (i : Int)) (by kernel_rfl) rfl rfl rfl rfl (by kernel_rfl) (fun w => by kernel_rfl), ow_val hA (wants_none rfl) 60 (.map (some mb)) (by kernel_rfl) rfl rfl rfl rfl (by kernel_rfl) (fun w => by kernel_rfl), ow_val hA (wants_none rfl) 61 (.map (some pb)) (by kernel_rfl) rfl rfl rfl rfl (by kernel_rfl) (fun w => by kernel_rfl), trivial⟩) ?_
       case hst1 => intro q hq; cases hq
       case hst2 => intro q hq; cases hq
       intro fv w7 hf hD b7
       simp only [putR, List.foldl_cons, List.foldl_nil, List.map_cons, List.map_nil, Act.put, List.setIfInBounds_toArray, List.set_cons_succ, List.set_cons_zero]
       clear hf hD
       have KG7 : Kept _ := ⟨KG6.out.under b7⟩
       go_wp2_with fail
       refine (addDhD KT.out.terms Kts.out KG7.out Kk3.out (Kby.out x (by simp)) (Kby.out y (by simp)) (Kln.out x (by simp)) (Kln.out y (by simp)) Kit.out).mono ?_
       rintro e w8 ⟨rfl, M6, hG6⟩
       have KG8 : Kept _ := ⟨hG6⟩
       clear hG6
       go_wp2_with fail
       go_roundg (gk - 1)
       case measure => omega
       case rel =>
         refine ⟨i + 1, M6, by omega, by simp, ?_⟩
         exact KG8.out.mono (by omega) fun H => by rw [closed_succ, Kcl.out H]
      · -- a digest
       have Kcl : Kept (∀ H, ClosedAt ts H i ↔ ((∀ p ∈ ll, KnownS ts H p) → H i)) := ⟨fun H => closed_hash (by rw [ht, show kk = 4 from hkk])⟩
       clear ht' htB
       replace hkk : kk = 4 := hkk
       have B2 : Kept (false = decide (kk = 2)) := ⟨by rw [hkk]; rfl⟩
       have B4 : Kept (true = decide (kk = 4)) := ⟨by rw [hkk]; rfl⟩
       have B3 : Kept (false = decide (kk = 3)) := ⟨by rw [hkk]; rfl⟩
       have B5 : Kept (false = decide (kk = 5)) := ⟨by rw [hkk]; rfl⟩
       clear hx hcell hG ht htF htC hPx CP hkk hT
       go_wp2_with (first | ((with_reducible refine wv_val (d := 30) ?hd ?hw (.pointer (some (A.add i))) ?hr ?_); (case hd => rfl); (case hw => kernel_rfl); (case hr => intro w; exact run_idxS (c := c) rfl (by kernel_rfl) (by kernel_rfl) Tryd.underlying29 hin Tryd.sizeOf9 w); simp only [Act.put, List.setIfInBounds_toArray, List.set_cons_succ, List.set_cons_zero]) | ((with_reducible refine wv_elem (d := 31) ?hd ?hw 9 ag_str (.tmp 30) ?ho (A.add i) ?hx (.string (strOf T)) ?hc ?_); (case hd => rfl); (case hw => kernel_rfl); (case ho => rfl); (case hx => kernel_rfl); (case hc => exact KC.out); simp only [Act.put, List.setIfInBounds_toArray, List.set_cons_succ, List.set_cons_zero]))
       refine KP.out.mono ?_
       rintro e w6 ⟨⟨V2, rfl, hV2⟩, q6⟩
       obtain ⟨m2, hm2⟩ : ∃ m, m = ll.length := ⟨_, rfl⟩
       obtain ⟨p2, c2, rfl, _⟩ := vals_form (vrow_vals hV2) (show (strs ll).length = m2 by rw [strs_len, hm2])
       have KG6 : Kept _ := ⟨KG.out.under q6⟩
       have KW : Kept _ := ⟨withinD Kts.out (ll := ll) Kwt.out Kby.out (vrow_vals hV2) KG6.out.pl⟩
       clear hV2 hm2 q6
       go_wp2_with (first | ((with_reducible refine wv_val (d := 41) ?hd ?hw (.bool false) ?hr ?_); (case hd => rfl); (case hw => kernel_rfl); (case hr => intro w; exact run_eqU8 2 rfl (by kernel_rfl) B2.out w); simp only [Act.put, List.setIfInBounds_toArray, List.set_cons_succ, List.set_cons_zero]) | ((with_reducible refine wv_val (d := 42) ?hd ?hw (.bool true) ?hr ?_); (case hd => rfl); (case hw => kernel_rfl); (case hr => intro w; exact run_eqU8 4 rfl (by kernel_rfl) B4.out w); simp only [Act.put, List.setIfInBounds_toArray, List.set_cons_succ, List.set_cons_zero]) | ((with_reducible refine wv_val (d := 51) ?hd ?hw (.bool false) ?hr ?_); (case hd => rfl); (case hw => kernel_rfl); (case hr => intro w; exact run_eqU8 3 rfl (by kernel_rfl) B3.out w); simp only [Act.put, List.setIfInBounds_toArray, List.set_cons_succ, List.set_cons_zero]) | ((with_reducible refine wv_val (d := 64) ?hd ?hw (.bool false) ?hr ?_); (case hd => rfl); (case hw => kernel_rfl); (case hr => intro w; exact run_eqU8 5 rfl (by kernel_rfl) B5.out w); simp only [Act.put, List.setIfInBounds_toArray, List.set_cons_succ, List.set_cons_zero]))
       refine KW.out.mono ?_
       rintro e w7 ⟨⟨V7, ns, rfl, hr, hm, hl⟩, q7⟩
       obtain ⟨m7, hm7⟩ : ∃ m, m = ns.length := ⟨_, rfl⟩
       obtain ⟨p7, c7, rfl, _⟩ := ints_form (row_cells hr) hm7.symm
       have KA : Kept _ := ⟨KG6.out.addW Kts.out Kk.out (Below.refl _ _) q7 hr (todo_lt hm) Kit.out (Nat.le_trans hl Kwt.out)⟩
       have Kmm : Kept _ := ⟨hm⟩
       clear hr hm hl hm7 q7
       go_wp2_with (first | (refine wl_bsI rfl (.tmp 47) rfl i (by kernel_rfl) ?_; simp only [Act.put, List.setIfInBounds_toArray, List.set_cons_succ, List.set_cons_zero]))
       refine KA.out.mono ?_
       rintro e w8 ⟨rfl, M6, hG6⟩
       replace hG6 : Reg ts rb w.heap.size mb pb (3 * i + 1) (fun H => (∀ j, j < i → ClosedAt ts H j) ∧ ((∀ p ∈ ll, KnownS ts H p) → H i)) M0 w4 M6 w8 := hG6.mono (Nat.le_refl _) fun H => by rw [with_known Kmm.out H]
       have KG8 : Kept _ := ⟨hG6⟩
       clear hG6
       go_wp2_with fail
       go_roundg (gk - 1)
       case measure => omega
       case rel =>
         refine ⟨i + 1, M6, by omega, by simp, ?_⟩
         exact KG8.out.mono (by omega) fun H => by rw [closed_succ, Kcl.out H]
      · -- a box
       obtain ⟨x, nn, a, z, rfl⟩ : ∃ x nn a z, ll = [x, nn, a, z] := htB ll (by rw [← show kk = 5 from hkk]; exact List.mem_of_getElem? ht)
       have Kcl : Kept (∀ H, ClosedAt ts H i ↔ (KnownS ts H x ∧ KnownS ts H a ∧ KnownS ts H z → H i) ∧ (H i → KnownS ts H x → ∀ j, Leaf ts z j → H j)) := ⟨fun H => closed_box (by rw [ht, show kk = 5 from hkk])⟩
       clear ht' htB
       replace hkk : kk = 5 := hkk
       have B2 : Kept (false = decide (kk = 2)) := ⟨by rw [hkk]; rfl⟩
       have B4 : Kept (false = decide (kk = 4)) := ⟨by rw [hkk]; rfl⟩
       have B3 : Kept (false = decide (kk = 3)) := ⟨by rw [hkk]; rfl⟩
       have B5 : Kept (true = decide (kk = 5)) := ⟨by rw [hkk]; rfl⟩
       clear hx hcell hG ht htF htC hPx CP hkk hT
       go_wp2_with (first | ((with_reducible refine wv_val (d := 30) ?hd ?hw (.pointer (some (A.add i))) ?hr ?_); (case hd => rfl); (case hw => kernel_rfl); (case hr => intro w; exact run_idxS (c := c) rfl (by kernel_rfl) (by kernel_rfl) Tryd.underlying29 hin Tryd.sizeOf9 w); simp only [Act.put, List.setIfInBounds_toArray, List.set_cons_succ, List.set_cons_zero]) | ((with_reducible refine wv_elem (d := 31) ?hd ?hw 9 ag_str (.tmp 30) ?ho (A.add i) ?hx (.string (strOf T)) ?hc ?_); (case hd => rfl); (case hw => kernel_rfl); (case ho => rfl); (case hx => kernel_rfl); (case hc => exact KC.out); simp only [Act.put, List.setIfInBounds_toArray, List.set_cons_succ, List.set_cons_zero]))
       refine KP.out.mono ?_
       rintro e w6 ⟨⟨V2, rfl, hV2⟩, q6⟩
       obtain ⟨m2, hm2⟩ : ∃ m, m = 4 := ⟨_, rfl⟩
       obtain ⟨p2, c2, rfl, _⟩ := vals_form (vrow_vals hV2) (show (strs [x, nn, a, z]).length = m2 by rw [hm2]; rfl)
       obtain ⟨A2, rfl, hA2, _⟩ := vals_at (vrow_vals hV2) (show (strs [x, nn, a, z])[0]? = some (.string (strOf x)) from rfl)
       have Kc0 : Kept (w6.cell? (A2.add 0) = some (.string (strOf x))) := ⟨vals_cell (vrow_vals hV2) (show (strs [x, nn, a, z])[0]? = some (.string (strOf x)) from rfl)⟩
       have hl0 : 0 < m2 := by rw [hm2]; decide
       have Kc2 : Kept (w6.cell? (A2.add 2) = some (.string (strOf a))) := ⟨vals_cell (vrow_vals hV2) (show (strs [x, nn, a, z])[2]? = some (.string (strOf a)) from rfl)⟩
       have hl2 : 2 < m2 := by rw [hm2]; decide
       have Kc3 : Kept (w6.cell? (A2.add 3) = some (.string (strOf z))) := ⟨vals_cell (vrow_vals hV2) (show (strs [x, nn, a, z])[3]? = some (.string (strOf z)) from rfl)⟩
       have hl3 : 3 < m2 := by rw [hm2]; decide
       have KG6 : Kept _ := ⟨KG.out.under q6⟩
       clear hV2 hm2 q6
       go_wp2_with (first | ((with_reducible refine wv_val (d := 41) ?hd ?hw (.bool false) ?hr ?_); (case hd => rfl); (case hw => kernel_rfl); (case hr => intro w; exact run_eqU8 2 rfl (by kernel_rfl) B2.out w); simp only [Act.put, List.setIfInBounds_toArray, List.set_cons_succ, List.set_cons_zero]) | ((with_reducible refine wv_val (d := 42) ?hd ?hw (.bool false) ?hr ?_); (case hd => rfl); (case hw => kernel_rfl); (case hr => intro w; exact run_eqU8 4 rfl (by kernel_rfl) B4.out w); simp only [Act.put, List.setIfInBounds_toArray, List.set_cons_succ, List.set_cons_zero]) | ((with_reducible refine wv_val (d := 51) ?hd ?hw (.bool false) ?hr ?_); (case hd => rfl); (case hw => kernel_rfl); (case hr => intro w; exact run_eqU8 3 rfl (by kernel_rfl) B3.out w); simp only [Act.put, List.setIfInBounds_toArray, List.set_cons_succ, List.set_cons_zero]) | ((with_reducible refine wv_val (d := 64) ?hd ?hw (.bool true) ?hr ?_); (case hd => rfl); (case hw => kernel_rfl); (case hr => intro w; exact run_eqU8 5 rfl (by kernel_rfl) B5.out w); simp only [Act.put, List.setIfInBounds_toArray, List.set_cons_succ, List.set_cons_zero]))
       refine region_ownNL w6 12 [(65, .pointer (some ⟨rb, 0, none⟩)), (66, .slice (some A2) m2 c2), (67, .pointer (some (A2.add 0))), (68, .string (strOf x)), (69, .slice (some A2) m2 c2), (70, .pointer (some (A2.add 2))), (71, .string (strOf a)), (72, .slice (some A2) m2 c2), (73, .pointer (some (A2.add 3))), (74, .string (strOf z)), (75, .int .i64 (i : Int)), (76, .map (some mb))] [] [] [] rfl (by kernel_rfl) (by kernel_rfl) (by kernel_rfl) (by kernel_rfl) (by kernel_rfl) (by kernel_rfl) (by kernel_rfl) (by kernel_rfl) (by kernel_rfl) (by kernel_rfl) (by kernel_rfl) ?hst1 ?hst2 (Below.refl _ _) (fun hA => ⟨ow_val hA (wants_none rfl) 65 (.pointer (some ⟨rb, 0, none⟩)) (by kernel_rfl) rfl rfl rfl rfl (by kernel_rfl) (fun w => by kernel_rfl), ow_val hA (wants_none rfl) 66 (.slice (some A2) m2 c2) (by kernel_rfl) rfl rfl rfl rfl (by kernel_rfl) (fun w => by kernel_rfl), ow_val hA (wants_none rfl) 67 (.pointer (some (A2.add 0))) (by kernel_rfl) rfl rfl rfl rfl (by kernel_rfl) (fun w => run_idxS (i := 0) (l := m2) (c := c2) rfl (by kernel_rfl) rfl Tryd.underlying29 hl0 Tryd.sizeOf9 w), ow_elem hA (wants_none rfl) 68 (.string (strOf x)) (by kernel_rfl) rfl rfl rfl rfl (by kernel_rfl) 9 ag_str (.tmp 67) rfl (A2.add 0) (by kernel_rfl) (fun w1 hb => (hb.cell (by rw [add_block]; exact hA2)).trans Kc0.out), ow_val hA (wants_none rfl) 69 (.slice (some A2) m2 c2) (by kernel_rfl) rfl rfl rfl rfl (by kernel_rfl) (fun w => by kernel_rfl), ow_val hA (wants_none rfl) 70 (.pointer (some (A2.add 2))) (by kernel_rfl) rfl rfl rfl rfl (by kernel_rfl) (fun w => run_idxS (i := 2) (l := m2) (c := c2) rfl (by kernel_rfl) rfl Tryd.underlying29 hl2 Tryd.sizeOf9 w), ow_elem hA (wants_none rfl) 71 (.string (strOf a)) (by kernel_rfl) rfl rfl rfl rfl (by kernel_rfl) 9 ag_str (.tmp 70) rfl (A2.add 2) (by kernel_rfl) (fun w1 hb => (hb.cell (by rw [add_block]; exact hA2)).trans Kc2.out), ow_val hA (wants_none rfl) 72 (.slice (some A2) m2 c2) (by kernel_rfl) rfl rfl rfl rfl (by kernel_rfl) (fun w => by kernel_rfl), ow_val hA (wants_none rfl) 73 (.pointer (some (A2.add 3))) (by kernel_rfl) rfl rfl rfl rfl (by kernel_rfl) (fun w => run_idxS (i := 3) (l := m2) (c := c2) rfl (by kernel_rfl) rfl Tryd.underlying29 hl3 Tryd.sizeOf9 w), ow_elem hA (wants_none rfl) 74 (.string (strOf z)) (by kernel_rfl) rfl rfl rfl rfl (by kernel_rfl) 9 ag_str (.tmp 73) rfl (A2.add 3) (by kernel_rfl) (fun w1 hb => (hb.cell (by rw [add_block]; exact hA2)).trans Kc3.out), ow_val hA (wants_none rfl) 75 (.int .i64 (i : Int)) (by kernel_rfl) rfl rfl rfl rfl (by kernel_rfl) (fun w => by kernel_rfl), ow_val hA (wants_none rfl) 76 (.map (some mb)) (by kernel_rfl) rfl rfl rfl rfl (by kernel_rfl) (fun w => by kernel_rfl), trivial⟩) ?_
       case hst1 => intro q hq; cases hq
       case hst2 => intro q hq; cases hq
       intro fv w7 hf hD b7
       simp only [putR, List.foldl_cons, List.foldl_nil, List.map_cons, List.map_nil, Act.put, List.setIfInBounds_toArray, List.set_cons_succ, List.set_cons_zero]
       clear hf hD
       have KG7 : Kept _ := ⟨KG6.out.under b7⟩
       go_wp2_with fail
       refine (addSealedD Kts.out KG7.out Kk2.out (Kby.out x (by simp)) (Kby.out a (by simp)) (Kby.out z (by simp)) (Kln.out x (by simp)) (Kln.out a (by simp)) (Kln.out z (by simp)) Kit.out).mono ?_
       rintro e w8 ⟨rfl, M6, hG6⟩
       have KG8 : Kept _ := ⟨hG6⟩
       clear hG6
       go_wp2_with fail
       go_roundg (gk - 1)
       case measure => omega
       case rel =>
         refine ⟨i + 1, M6, by omega, by simp, ?_⟩
         exact KG8.out.mono (by omega) fun H => by rw [closed_succ, Kcl.out H]
end Go.Proofs.YtniogaimhkcedaaDoor.sh
