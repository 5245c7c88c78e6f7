/-
  KnowMore; KnowNothing.
-/
import Derived.Test.YtniogaimhkcedaaDoorLK
namespace Go.Proofs.YtniogaimhkcedaaDoor.sh
open Go Go.RowKit
set_option linter.unusedVariables false
set_option linter.unusedSimpArgs false

theorem has_true {ts : List TermL} {b : List Bool} {i : Nat} (hl : ts.length < 1000000) (hi : i < ts.length) (h : hadP b i) : true = true ↔ KnownS ts (hadP b) (termN (i + 1)) := ⟨fun _ => (known_at hl hi).2 h, fun _ => rfl⟩
theorem namesB_names (b : List Bool) : NameT (namesB b) := fun s hs => by
  obtain ⟨i, _, e⟩ := namesB_mem.1 hs
  exact ⟨_, e⟩
/-- A set that knows what Φ tells: what New leaves. -/
theorem NewG {tb B : Nat} {ts : List TermL} {M : Nat → Prop} {V : Value} {told : List (List Nat)} {b : List Bool} {w : World} (hT : Tab tb B ts M w) (hK : TermsB ts) (hN : ts.length ≤ 1000) (hV : ValsV V w (strs told)) (hg : NameT told) (hl : told.length ≤ 1000) (hb : IsK ts told b) :
    Calls Tryd.prog 12 #[.pointer (some ⟨tb, 0, none⟩), V] w fun e w' => (∃ sb, e = .returned (.pointer (some ⟨sb, 0, none⟩)) ∧ SetK sb ts.length b w') ∧ Below w.heap.size w w' :=
  NewK hT hK (by omega) hV hg.bytes (by rw [hg.weight]; omega) hb
set_option maxRecDepth 100000 in
set_option maxHeartbeats 8000000 in
theorem more10 (v : Value) (l : List ActK) (u : Value) (told : List Nat) (u2 : Value) (more : List Nat) (w : World) (hv : ActV v w l) (hok : ∀ x ∈ l, ActKOk x) (hZ : l.length * 32 ≤ reachBytes) (hu : BytesV u w told) (hy : Bytes told) (hl : told.length ≤ maxLen) (hu2 : BytesV u2 w more) (hy2 : Bytes more) (hl2 : more.length ≤ maxLen) :
    Calls Tryd.prog 4 #[v, u, u2] w fun e w' => e = .returned (.bool true) ∧ Below w.heap.size w w' := by
  have KAl : Kept _ := ⟨alive10 w⟩
  have KV : Kept _ := ⟨hv⟩
  have KO : Kept (∀ x ∈ l, ActKOk x) := ⟨hok⟩
  have KU : Kept _ := ⟨hu⟩
  have Kty : Kept (Bytes told) := ⟨hy⟩
  have Ktl : Kept (told.length ≤ maxLen) := ⟨hl⟩
  have KU2 : Kept _ := ⟨hu2⟩
  have Kty2 : Kept (Bytes more) := ⟨hy2⟩
  have Ktl2 : Kept (more.length ≤ maxLen) := ⟨hl2⟩
  clear hv hok hZ hu hy hl hu2 hy2 hl2
  go_enter Tryd.func4, Tryd.ntmps4
  go_wp2_with fail
  refine KAl.out.mono ?_
  rintro e w1 ⟨rfl, q1⟩
  have Kq1 : Kept _ := ⟨q1⟩
  clear q1 KAl
  go_wp2_with fail
  refine (madeK (KV.out.under Kq1.out) KO.out).mono ?_
  rintro e w2 ⟨⟨tb, M, Vm, rfl, hT, hS⟩, q2⟩
  have Kts : Kept (TermsK (actsK [] (l.take 30)) ∧ (actsK [] (l.take 30)).length ≤ 30) := ⟨termsK_nil.acts (fun x hx => (KO.out x (List.mem_of_mem_take hx)).s), by
    have := actsK_len (l.take 30) []
    rw [List.length_take] at this
    have h0 : ([] : List TermL).length = 0 := rfl
    omega⟩
  generalize actsK [] (l.take 30) = ts at *
  have Kq2 : Kept _ := ⟨Kq1.out.trans (q2.mono Kq1.out.size)⟩
  obtain ⟨N, hN⟩ : ∃ N, N = ts.length := ⟨_, rfl⟩
  obtain ⟨pm, cm, rfl, _⟩ := ts_form hS hN.symm
  have KN : Kept _ := ⟨hN⟩
  have hN30 : N ≤ 30 := by rw [hN]; exact Kts.out.2
  have KsM : Kept (ts.length < 1000000) := ⟨by omega⟩
  have KT : Kept _ := ⟨hT⟩
  have KS : Kept _ := ⟨hS⟩
  clear q2 hT hS hN
  obtain ⟨gv, hgv⟩ : ∃ g, g = givenK ts.length told := ⟨_, rfl⟩
  obtain ⟨gm, hgm⟩ : ∃ g, g = givenK ts.length more := ⟨_, rfl⟩
  have Kgv : Kept (NameT gv ∧ gv.length ≤ 30) := ⟨by rw [hgv]; exact ⟨(givenK_elder _ _).names, givenK_len _ _⟩⟩
  have Kgm : Kept (NameT gm ∧ gm.length ≤ 30) := ⟨by rw [hgm]; exact ⟨(givenK_elder _ _).names, givenK_len _ _⟩⟩
  have KNa : Kept (∀ w3, Below w2.heap.size w2 w3 → Calls Tryd.prog 11 #[.pointer (some ⟨tb, 0, none⟩), u] w3 fun e w' => (∃ V, e = .returned V ∧ VRow w3.heap.size 9 (strs gv) V w') ∧ Below w3.heap.size w3 w') := ⟨fun w3 q => by
    rw [hgv]
    exact namesD (KT.out.under q) KsM.out (IntsV.under KU.out (Kq2.out.trans (q.mono Kq2.out.size))) Kty.out Ktl.out⟩
  have KNb : Kept (∀ w3, Below w2.heap.size w2 w3 → Calls Tryd.prog 11 #[.pointer (some ⟨tb, 0, none⟩), u2] w3 fun e w' => (∃ V, e = .returned V ∧ VRow w3.heap.size 9 (strs gm) V w') ∧ Below w3.heap.size w3 w') := ⟨fun w3 q => by
    rw [hgm]
    exact namesD (KT.out.under q) KsM.out (IntsV.under KU2.out (Kq2.out.trans (q.mono Kq2.out.size))) Kty2.out Ktl2.out⟩
  obtain ⟨ba, hba⟩ := isK_ex ts gv
  obtain ⟨bb, hbb⟩ := isK_ex ts (gv ++ gm)
  have Kba : Kept _ := ⟨hba⟩
  have Kbb : Kept _ := ⟨hbb⟩
  have Kmo : Kept _ := ⟨hba.more hbb (fun s hs => List.mem_append_left _ hs)⟩
  obtain ⟨la, hla⟩ : ∃ n, n = (namesB ba).length := ⟨_, rfl⟩
  obtain ⟨lb, hlb⟩ : ∃ n, n = (namesB bb).length := ⟨_, rfl⟩
  have Kla : Kept _ := ⟨hla⟩
  have Klb : Kept _ := ⟨hlb⟩
  have hab : (la : Int) ≤ (lb : Int) := by have := Kmo.out.2; omega
  have hla30 : la ≤ 30 := by rw [hla]; have := names_le ba; have := hba.1; have := Kts.out.2; omega
  have KtN : Kept (ts.length ≤ 1000) := ⟨by have := Kts.out.2; omega⟩
  clear hgv hgm hba hbb hla hlb
  go_wp2_with fail
  refine (KNa.out w2 (Below.refl _ _)).mono ?_
  rintro e w3 ⟨⟨Vg, rfl, hVg⟩, q3⟩
  have KN1 : Kept _ := ⟨NewG (KT.out.under q3) Kts.out.1.toB KtN.out (vrow_vals hVg) Kgv.out.1 (by have := Kgv.out.2; omega) Kba.out⟩
  have Kq3 : Kept _ := ⟨q3⟩
  clear hVg q3
  go_wp2_with fail
  refine KN1.out.mono ?_
  rintro e w4 ⟨⟨sa, rfl, hSa⟩, q4⟩
  have q24 := Kq3.out.trans (q4.mono Kq3.out.size)
  have KSa : Kept _ := ⟨hSa⟩
  have Kq4 : Kept _ := ⟨q24⟩
  clear hSa q4 q24 Kq3 KN1
  go_wp2_with fail
  refine (KNa.out _ Kq4.out).mono ?_
  rintro e w5 ⟨⟨Vg, rfl, hVg⟩, q5⟩
  have q25 := Kq4.out.trans (q5.mono Kq4.out.size)
  have KVg : Kept _ := ⟨hVg⟩
  have Kq5 : Kept _ := ⟨q25⟩
  have Kq45 : Kept _ := ⟨q5⟩
  clear hVg q5 q25
  go_wp2_with fail
  refine (KNb.out _ Kq5.out).mono ?_
  rintro e w6 ⟨⟨Vm2, rfl, hVm⟩, q6⟩
  have KVm : Kept _ := ⟨vrow_vals hVm⟩
  have KVg6 : Kept _ := ⟨KVg.out.under q6⟩
  have q46 := Kq45.out.trans (q6.mono Kq45.out.size)
  have Kq46 : Kept _ := ⟨q46⟩
  have Kap : Kept ((strs gv).length + (strs gm).length ≤ 1099511627776) := ⟨by rw [strs_len, strs_len]; have := Kgv.out.2; have := Kgm.out.2; omega⟩
  have K1c : Kept _ := ⟨strs_one gm⟩
  have Kh6 : Kept (w4.heap.size ≤ w6.heap.size) := ⟨q46.size⟩
  clear hVm q6 q46 KVg Kq5 Kq45
  go_wp2_with (first | ((refine wl_appV (by kernel_rfl) (.tmp 31) (.tmp 34) 29 9 (.string .empty) 16 rfl Tryd.underlying29 inf_str rfl (by decide) w4.heap.size (strs gv) (strs gm) _ _ (by kernel_rfl) (by kernel_rfl) KVg6.out KVm.out K1c.out Kap.out Kh6.out ?_); intro vB w7 hr7 hg7 hne7; simp only [Act.put, List.setIfInBounds_toArray, List.set_cons_succ, List.set_cons_zero]))
  have q7 : Below w4.heap.size w4 w7 := Kq46.out.trans (grown_mono hg7 Kh6.out (fun b hb => (KVg6.out.range b hb).1))
  have q27 := Kq4.out.trans (q7.mono Kq4.out.size)
  rw [← strs_append] at hr7
  have KN2 : Kept _ := ⟨NewG (KT.out.under q27) Kts.out.1.toB KtN.out (vrow_vals hr7) (Kgv.out.1.append Kgm.out.1) (by rw [List.length_append]; have := Kgv.out.2; have := Kgm.out.2; omega) Kbb.out⟩
  have Kq27 : Kept _ := ⟨q27⟩
  have KSa7 : Kept _ := ⟨KSa.out.under q7⟩
  clear hr7 hg7 hne7 q7 q27 KSa Kq4 Kq46 KVm KVg6 KNa KNb
  refine KN2.out.mono ?_
  rintro e w8 ⟨⟨sb, rfl, hSb⟩, q8⟩
  have KSa8 : Kept _ := ⟨KSa7.out.under q8⟩
  have KSb8 : Kept _ := ⟨hSb⟩
  have q28 := Kq27.out.trans (q8.mono Kq27.out.size)
  have KT8 : Kept _ := ⟨KT.out.under q28⟩
  have Kq8 : Kept _ := ⟨Kq2.out.trans (q28.mono Kq2.out.size)⟩
  have KTe : Kept _ := ⟨TermsD (KSa7.out.under q8) KsM.out⟩
  clear hSb q8 q28 KN2 KT KS KSa7 Kq27
  go_wp2_with fail
  refine KTe.out.mono ?_
  rintro e w9 ⟨⟨Vt, rfl, hVt⟩, q9⟩
  obtain ⟨p9, c9, rfl, _⟩ := vals_form (vrow_vals hVt) (show (strs (namesB ba)).length = la by rw [strs_len, Kla.out])
  have KVt : Kept _ := ⟨vrow_vals hVt⟩
  have KSa9 : Kept _ := ⟨KSa8.out.under q9⟩
  have KSb9 : Kept _ := ⟨KSb8.out.under q9⟩
  have KT9 : Kept _ := ⟨KT8.out.under q9⟩
  have Kq9 : Kept _ := ⟨Kq8.out.trans (q9.mono Kq8.out.size)⟩
  clear hVt q9 KTe KSa8 KSb8 KT8 Kq8
  go_wp2_with fail
  go_loopg [46] la (fun g s46 wr => ∃ i : Nat, i + g = la ∧ s46 = .int .i64 (i : Int) ∧ Below w9.heap.size w9 wr)
  case atStart => exact ⟨0, by omega, rfl, Below.refl _ _⟩
  case round =>
    rename World => wz
    obtain ⟨i, hik, rfl, hbz⟩ := hrel
    by_cases hk0 : gk = 0
    case neg =>
      have hin : i < la := by omega
      have hin' : (i : Int) < (la : Int) := by omega
      have hi1 : (i : Int) + 1 ≤ 9223372036854775807 := by omega
      obtain ⟨T, hT⟩ : ∃ T, (namesB ba)[i]? = some T := ⟨_, List.getElem?_eq_getElem (by rw [← Kla.out]; exact hin)⟩
      obtain ⟨j, hj, hTj⟩ := namesB_mem.1 (List.mem_of_getElem? hT)
      obtain ⟨A, rfl, hA, hcell⟩ := vals_at (KVt.out.under hbz) (strs_get hT)
      have hjN : j < ts.length := by rw [← Kba.out.1]; exact had_lt hj
      have KHa : Kept _ := ⟨HasD (s := T) (f := true) (KSa9.out.under hbz) KsM.out (by rw [hTj]; exact termN_bytes _) (by rw [hTj, termN_len]; decide) (by rw [hTj]; exact has_true KsM.out hjN hj)⟩
      have KHb : Kept (∀ w1, Below wz.heap.size wz w1 → _) := ⟨fun w1 q => HasD (s := T) (f := true) ((KSb9.out.under hbz).under q) KsM.out (by rw [hTj]; exact termN_bytes _) (by rw [hTj, termN_len]; decide) (by rw [hTj]; exact has_true KsM.out hjN (Kmo.out.1 j hj))⟩
      have KC : Kept _ := ⟨hcell⟩
      have Kbz : Kept _ := ⟨hbz⟩
      clear hcell hbz hT hTj hj
      go_wp2_with (first | ((with_reducible refine wv_val (d := 48) ?hd ?hw (.pointer (some (A.add i))) ?hr ?_); (case hd => rfl); (case hw => kernel_rfl); (case hr => intro w; exact run_idxS (c := c9) rfl (by kernel_rfl) (by kernel_rfl) Tryd.underlying29 hin Tryd.sizeOf9 w); simp only [Act.put, List.setIfInBounds_toArray, List.set_cons_succ, List.set_cons_zero]) | ((with_reducible refine wv_elem (d := 49) ?hd ?hw 9 ag_str (.tmp 48) ?ho (A.add i) ?hx (.string (strOf T)) ?hc ?_); (case hd => rfl); (case hw => kernel_rfl); (case ho => rfl); (case hx => kernel_rfl); (case hc => exact KC.out); simp only [Act.put, List.setIfInBounds_toArray, List.set_cons_succ, List.set_cons_zero]))
      refine KHa.out.mono ?_
      rintro e wa ⟨rfl, qa⟩
      have Kqa : Kept _ := ⟨qa⟩
      clear qa
      go_wp2_with fail
      refine (KHb.out _ Kqa.out).mono ?_
      rintro e wb ⟨rfl, qb⟩
      have Kqb : Kept _ := ⟨Kbz.out.trans ((Kqa.out.trans (qb.mono Kqa.out.size)).mono Kbz.out.size)⟩
      clear qb
      go_wp2_with fail
      go_roundg (gk - 1)
      case measure => omega
      case rel => exact ⟨i + 1, by omega, by simp, Kqb.out⟩
    case pos =>
      obtain rfl : la = i := by omega
      have KTe : Kept _ := ⟨TermsD (KSa9.out.under hbz) KsM.out⟩
      have Kbz : Kept _ := ⟨hbz⟩
      clear hbz
      go_wp2_with fail
      refine KTe.out.mono ?_
      rintro e wa ⟨⟨Vt2, rfl, hVt2⟩, qa⟩
      have q9a := Kbz.out.trans (qa.mono Kbz.out.size)
      have KNc : Kept _ := ⟨NewG (KT9.out.under q9a) Kts.out.1.toB KtN.out (vrow_vals hVt2) (namesB_names ba) (by rw [← Kla.out]; omega) (Kba.out.again KsM.out)⟩
      have Kqa : Kept _ := ⟨q9a⟩
      clear hVt2 qa q9a KTe
      go_wp2_with fail
      refine KNc.out.mono ?_
      rintro e wb ⟨⟨sc, rfl, hSc⟩, qb⟩
      have Kqb : Kept _ := ⟨Kqa.out.trans (qb.mono Kqa.out.size)⟩
      have KTc : Kept _ := ⟨TermsD hSc KsM.out⟩
      clear hSc qb KNc Kqa
      go_wp2_with fail
      refine KTc.out.mono ?_
      rintro e wc ⟨⟨Vt3, rfl, hVt3⟩, qc⟩
      obtain ⟨pc, cc, rfl, _⟩ := vals_form (vrow_vals hVt3) (show (strs (namesB ba)).length = la by rw [strs_len, Kla.out])
      have Kqc : Kept _ := ⟨Kqb.out.trans (qc.mono Kqb.out.size)⟩
      have KTe1 : Kept _ := ⟨TermsD (KSa9.out.under Kqc.out) KsM.out⟩
      clear hVt3 qc KTc Kqb
      go_wp2_with fail
      refine KTe1.out.mono ?_
      rintro e wd ⟨⟨Vt4, rfl, hVt4⟩, qd⟩
      obtain ⟨pd, cd, rfl, _⟩ := vals_form (vrow_vals hVt4) (show (strs (namesB ba)).length = la by rw [strs_len, Kla.out])
      have Kqd : Kept _ := ⟨Kqc.out.trans (qd.mono Kqc.out.size)⟩
      have KTe2 : Kept _ := ⟨TermsD (KSb9.out.under Kqd.out) KsM.out⟩
      clear hVt4 qd KTe1 Kqc
      go_wp2_with fail
      refine KTe2.out.mono ?_
      rintro e we ⟨⟨Vt5, rfl, hVt5⟩, qe⟩
      obtain ⟨pe, ce, rfl, _⟩ := vals_form (vrow_vals hVt5) (show (strs (namesB bb)).length = lb by rw [strs_len, Klb.out])
      have Kqe : Kept _ := ⟨Kqd.out.trans (qe.mono Kqd.out.size)⟩
      have KTe3 : Kept _ := ⟨TermsD (KSa9.out.under Kqe.out) KsM.out⟩
      clear hVt5 qe KTe2 Kqd
      go_wp2_with fail
      refine KTe3.out.mono ?_
      rintro e wf ⟨⟨Vt6, rfl, hVt6⟩, qf⟩
      obtain ⟨pf, cf, rfl, _⟩ := vals_form (vrow_vals hVt6) (show (strs (namesB ba)).length = la by rw [strs_len, Kla.out])
      have Kqf : Kept _ := ⟨Kqe.out.trans (qf.mono Kqe.out.size)⟩
      clear hVt6 qf KTe3 Kqe
      go_wp2_with fail
      go_ret
      exact ⟨rfl, Kq9.out.trans (Kqf.out.mono Kq9.out.size)⟩
end Go.Proofs.YtniogaimhkcedaaDoor.sh
