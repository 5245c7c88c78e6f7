/-
  KnowShared.
-/
import Derived.Test.YtniogaimhkcedaaDoorLO
namespace Go.Proofs.YtniogaimhkcedaaDoor.sh
open Go Go.RowKit
set_option linter.unusedVariables false
set_option linter.unusedSimpArgs false

/-- What is known where the public keys may be among what is given. -/
theorem shared_rest {ts us : List TermL} {aa ba o : List Nat} {gf : List (List Nat)} (h : Added ts (sharedT ts.length aa ba o) us) (hg : ∀ s ∈ gf, ∃ j, s = termN (j + 1) ∧ (j < ts.length ∨ j = ts.length + 2 ∨ j = ts.length + 3)) (ho : Mute o) :
    (∀ n, KN us (gf ++ [termN (ts.length + 3), termN (ts.length + 4)]) n → n < ts.length ∨ n = ts.length + 2 ∨ n = ts.length + 3) ∧
    (∀ n, KN us (gf ++ [termN (ts.length + 1), termN (ts.length + 4)]) n → n ≠ ts.length + 1) ∧
    (KN us (gf ++ [termN (ts.length + 1), termN (ts.length + 4)]) (ts.length + 4) ∧ KN us (gf ++ [termN (ts.length + 1), termN (ts.length + 4)]) (ts.length + 5) ∧ KN us (gf ++ [termN (ts.length + 1), termN (ts.length + 4)]) (ts.length + 2)) ∧
    (KN us (gf ++ [termN (ts.length + 3), termN (ts.length + 2)]) (ts.length + 4) ∧ KN us (gf ++ [termN (ts.length + 3), termN (ts.length + 2)]) (ts.length + 3)) := by
  obtain ⟨ge, hge⟩ : ∃ g, g = fltL [termN (ts.length + 3), termN (ts.length + 4)] gf := ⟨_, rfl⟩
  have hel : Elder ts.length ge := fun s hs => by
    rw [hge] at hs
    obtain ⟨h1, h2⟩ := fltL_mem hs
    obtain ⟨j, rfl, hj⟩ := hg s h1
    rcases hj with hj | rfl | rfl
    · exact ⟨j, hj, rfl⟩
    · exact absurd rfl (h2 _ (by simp))
    · exact absurd rfl (h2 _ (by simp))
  have hin : ∀ s ∈ gf, s ∈ ge ∨ s = termN (ts.length + 3) ∨ s = termN (ts.length + 4) := fun s hs => by
    by_cases e1 : s = termN (ts.length + 3)
    · exact .inr (.inl e1)
    by_cases e2 : s = termN (ts.length + 4)
    · exact .inr (.inr e2)
    · refine .inl ?_
      rw [hge]
      exact List.mem_filter.2 ⟨hs, keepF_true fun e he => by
        simp only [List.mem_cons, List.not_mem_nil, or_false] at he
        rcases he with rfl | rfl
        · exact e1
        · exact e2⟩
  have hsub : ∀ (m : List (List Nat)) (s : List Nat), s ∈ ge ++ m → s ∈ gf ++ m := fun m s hs => by
    rcases List.mem_append.1 hs with hs | hs
    · rw [hge] at hs
      exact List.mem_append_left _ (fltL_mem hs).1
    · exact List.mem_append_right _ hs
  have hl := h.len
  have hsz : us.length = ts.length + 6 := by have := h.size; simpa [sharedT] using this
  have h1 := shared_one (given := ge) h ho
  have h2 := shared_other (given := ge) h
  refine ⟨fun n hn => ?_, fun n hn => ?_, ⟨?_, ?_, ?_⟩, ?_, ?_⟩
  · refine shared_none h hel n (kn_mono (fun s hs => ?_) n hn)
    rcases List.mem_append.1 hs with hs | hs
    · rcases hin s hs with hs | rfl | rfl
      · exact List.mem_append_left _ hs
      · simp
      · simp
    · exact List.mem_append_right _ hs
  · refine shared_one_not h hel n (kn_sub (fun s hs j hj => ?_) n hn)
    rcases List.mem_append.1 hs with hs | hs
    · rcases hin s hs with hs | rfl | rfl
      · exact kn_told (List.mem_append_left _ hs) hj
      · have e := (leaf_at (i := ts.length + 2) hl (by omega)).1 hj
        rw [e]
        exact h1.2.2
      · exact kn_told (s := termN (ts.length + 4)) (by simp) hj
    · exact kn_told (List.mem_append_right _ hs) hj
  · exact kn_mono (hsub _) _ h1.1
  · exact kn_mono (hsub _) _ h1.2.1
  · exact kn_mono (hsub _) _ h1.2.2
  · exact kn_mono (hsub _) _ h2.1
  · exact kn_mono (hsub _) _ h2.2
set_option maxRecDepth 100000 in
set_option maxHeartbeats 16000000 in
theorem shared10 (v : Value) (l : List ActK) (u : Value) (told : List Nat) (w : World) (hv : ActV v w l) (hok : ∀ x ∈ l, ActKOk x) (hZ : l.length * 32 ≤ reachBytes) (hu : BytesV u w told) (hy : Bytes told) (hl : told.length ≤ maxLen) :
    Calls Tryd.prog 7 #[v, u] w fun e w' => e = .returned (.bool true) ∧ Below w.heap.size w w' := by
  have KAl : Kept _ := ⟨alive10 w⟩
  have KV : Kept _ := ⟨hv⟩
  have KO : Kept (∀ x ∈ l, ActKOk x) := ⟨hok⟩
  have KZ : Kept (l.length * 32 ≤ reachBytes) := ⟨hZ⟩
  have KU : Kept _ := ⟨hu⟩
  have Kty : Kept (Bytes told) := ⟨hy⟩
  have Ktl : Kept (told.length ≤ maxLen) := ⟨hl⟩
  clear hv hok hZ hu hy hl
  go_enter Tryd.func7, Tryd.ntmps7
  go_wp2_with fail
  refine KAl.out.mono ?_
  rintro e w1 ⟨rfl, q1⟩
  have Kq1 : Kept _ := ⟨q1⟩
  clear q1 KAl
  go_wp2_with fail
  refine (cleanD (KV.out.under Kq1.out) KO.out KZ.out).mono ?_
  rintro e wc ⟨⟨Vc, rfl, hVc⟩, qc⟩
  obtain ⟨cl, hcl⟩ : ∃ c, c = cleanL l := ⟨_, rfl⟩
  rw [← hcl] at hVc
  have Kcl : Kept (∀ x ∈ cl, ActKOk x ∧ NoTerm x.s) := ⟨fun x hx => by
    rw [hcl] at hx
    exact ⟨KO.out x (cleanL_mem hx).1, (cleanL_mem hx).2⟩⟩
  have KVc : Kept _ := ⟨hVc⟩
  have Kqc : Kept _ := ⟨Kq1.out.trans (qc.mono Kq1.out.size)⟩
  clear hVc hcl qc
  go_wp2_with fail
  refine (madeK KVc.out (fun x hx => (Kcl.out x hx).1)).mono ?_
  rintro e w2 ⟨⟨tb, M, Vm, rfl, hT, hS⟩, q2⟩
  have Kts : Kept (TermsK (actsK [] (cl.take 30)) ∧ (actsK [] (cl.take 30)).length ≤ 30) := ⟨termsK_nil.acts (fun x hx => (Kcl.out x (List.mem_of_mem_take hx)).1.s), by
    have := actsK_len (cl.take 30) []
    rw [List.length_take] at this
    have h0 : ([] : List TermL).length = 0 := rfl
    omega⟩
  have KLo : Kept (LowT (actsK [] (cl.take 30))) := ⟨low_acts low_nil (by have := List.length_take (l := cl) (i := 30); have h0 : ([] : List TermL).length = 0 := rfl; omega) (fun x hx => ⟨(Kcl.out x (List.mem_of_mem_take hx)).1.s, (Kcl.out x (List.mem_of_mem_take hx)).2⟩)⟩
  generalize actsK [] (cl.take 30) = ts at *
  have Kq2 : Kept _ := ⟨Kqc.out.trans (q2.mono Kqc.out.size)⟩
  obtain ⟨N, hN⟩ : ∃ N, N = ts.length := ⟨_, rfl⟩
  obtain ⟨pm, cm, rfl, _⟩ := ts_form hS hN.symm
  have KN : Kept _ := ⟨hN⟩
  have hN30 : N ≤ 30 := by rw [hN]; exact Kts.out.2
  have KsM : Kept (ts.length < 1000000) := ⟨by omega⟩
  have KT : Kept _ := ⟨hT⟩
  have KS : Kept _ := ⟨hS⟩
  clear q2 hT hS hN
  obtain ⟨aa, haa⟩ : ∃ k, k = ownL [111, 110, 101, 32, 115, 101, 99, 114, 101, 116] := ⟨_, rfl⟩
  have Oaa : Kept (OwnS aa) := ⟨by rw [haa]; exact own_ok (by decide) (by decide) (by decide)⟩
  have Caa : Kept (∀ w, Calls Tryd.prog 22 #[.string ⟨#[111, 110, 101, 32, 115, 101, 99, 114, 101, 116]⟩] w fun e w' => e = .returned (.string (strOf aa)) ∧ Below w.heap.size w w') := ⟨fun w => by
    rw [haa]
    exact ownD (by decide) (by kernel_rfl)⟩

  obtain ⟨ba, hba⟩ : ∃ k, k = ownL [97, 110, 111, 116, 104, 101, 114, 32, 115, 101, 99, 114, 101, 116] := ⟨_, rfl⟩
  have Oba : Kept (OwnS ba) := ⟨by rw [hba]; exact own_ok (by decide) (by decide) (by decide)⟩
  have Cba : Kept (∀ w, Calls Tryd.prog 22 #[.string ⟨#[97, 110, 111, 116, 104, 101, 114, 32, 115, 101, 99, 114, 101, 116]⟩] w fun e w' => e = .returned (.string (strOf ba)) ∧ Below w.heap.size w w') := ⟨fun w => by
    rw [hba]
    exact ownD (by decide) (by kernel_rfl)⟩

  obtain ⟨u1, u2, u3, u4, u5, u6, hX⟩ := sharedX (o := [111, 102]) Kts.out.1 KLo.out (by have := Kts.out.2; omega) Oaa.out Oba.out (by rw [hba, haa]; exact ownL_ne (by decide)) (bytes_of_all (by decide)) (by decide)
  clear haa hba
  obtain ⟨E0, hE0⟩ : ∃ e, e = termN (ts.length + 1) := ⟨_, rfl⟩
  have KE0 : Kept (Bytes E0 ∧ E0.length ≤ 40000 ∧ E0.length ≤ maxLen) := ⟨by rw [hE0]; exact ⟨termN_bytes _, by rw [termN_len]; decide, termN_max _⟩⟩

  obtain ⟨E1, hE1⟩ : ∃ e, e = termN (ts.length + 2) := ⟨_, rfl⟩
  have KE1 : Kept (Bytes E1 ∧ E1.length ≤ 40000 ∧ E1.length ≤ maxLen) := ⟨by rw [hE1]; exact ⟨termN_bytes _, by rw [termN_len]; decide, termN_max _⟩⟩

  obtain ⟨PN, hPN⟩ : ∃ e, e = termN (ts.length + 3) := ⟨_, rfl⟩
  have KPN : Kept (Bytes PN ∧ PN.length ≤ 40000 ∧ PN.length ≤ maxLen) := ⟨by rw [hPN]; exact ⟨termN_bytes _, by rw [termN_len]; decide, termN_max _⟩⟩

  obtain ⟨QN, hQN⟩ : ∃ e, e = termN (ts.length + 4) := ⟨_, rfl⟩
  have KQN : Kept (Bytes QN ∧ QN.length ≤ 40000 ∧ QN.length ≤ maxLen) := ⟨by rw [hQN]; exact ⟨termN_bytes _, by rw [termN_len]; decide, termN_max _⟩⟩

  obtain ⟨E2, hE2⟩ : ∃ e, e = termN (ts.length + 5) := ⟨_, rfl⟩
  have KE2 : Kept (Bytes E2 ∧ E2.length ≤ 40000 ∧ E2.length ≤ maxLen) := ⟨by rw [hE2]; exact ⟨termN_bytes _, by rw [termN_len]; decide, termN_max _⟩⟩

  obtain ⟨E3, hE3⟩ : ∃ e, e = termN (ts.length + 6) := ⟨_, rfl⟩
  have KE3 : Kept (Bytes E3 ∧ E3.length ≤ 40000 ∧ E3.length ≤ maxLen) := ⟨by rw [hE3]; exact ⟨termN_bytes _, by rw [termN_len]; decide, termN_max _⟩⟩

  have P1 : Kept (putL ts (1, [aa]) = (u1, E0)) := ⟨by rw [hE0]; exact hX.p1⟩
  have P2 : Kept (putL u1 (1, [ba]) = (u2, E1)) := ⟨by rw [hE1]; exact hX.p2⟩
  have P3 : Kept (putL u2 (2, [E0]) = (u3, PN)) := ⟨by rw [hE0, hPN]; exact hX.p3⟩
  have P4 : Kept (putL u3 (2, [E1]) = (u4, QN)) := ⟨by rw [hE1, hQN]; exact hX.p4⟩
  have P5 : Kept (dhL u4 E0 QN = (u5, E2, true)) := ⟨by rw [hE0, hQN, hE2]; exact hX.p5⟩
  have P6 : Kept (putL u5 (4, [[111, 102], E2]) = (u6, E3)) := ⟨by rw [hE2, hE3]; exact hX.p6⟩
  have KlN : Kept (ts.length ≤ 30 ∧ u1.length = ts.length + 1 ∧ u2.length = ts.length + 2 ∧ u3.length = ts.length + 3 ∧ u4.length = ts.length + 4 ∧ u5.length = ts.length + 5 ∧ u6.length = ts.length + 6) := ⟨⟨Kts.out.2, hX.l1, hX.l2, hX.l3, hX.l4, hX.l5, hX.l6⟩⟩
  have Ku1 : Kept (u1.length < 1000000) := ⟨by have := KlN.out; omega⟩
  have Ku2 : Kept (u2.length < 1000000) := ⟨by have := KlN.out; omega⟩
  have Ku3 : Kept (u3.length < 1000000) := ⟨by have := KlN.out; omega⟩
  have Ku4 : Kept (u4.length < 1000000) := ⟨by have := KlN.out; omega⟩
  have Ku5 : Kept (u5.length < 1000000) := ⟨by have := KlN.out; omega⟩
  have Ku6 : Kept (u6.length < 1000000) := ⟨by have := KlN.out; omega⟩
  have Ku6t : Kept (TermsB u6 ∧ u6.length ≤ 1000) := ⟨⟨hX.terms, by have := KlN.out; omega⟩⟩
  obtain ⟨gl, hgl⟩ : ∃ g, g = givenK u6.length told := ⟨_, rfl⟩
  obtain ⟨gf, hgf⟩ : ∃ g, g = fltL [E0, E1, E2, E3] gl := ⟨_, rfl⟩
  have Kgl : Kept (NameT gl ∧ gl.length ≤ 30) := ⟨by rw [hgl]; exact ⟨(givenK_elder _ _).names, givenK_len _ _⟩⟩
  have Kgf : Kept (fltL [E0, E1, E2, E3] gl = gf) := ⟨hgf.symm⟩
  have hel : ∀ s ∈ gf, ∃ j, s = termN (j + 1) ∧ (j < ts.length ∨ j = ts.length + 2 ∨ j = ts.length + 3) := fun s hs => by
    rw [hgf] at hs
    obtain ⟨h1, h2⟩ := fltL_mem hs
    rw [hgl] at h1
    obtain ⟨j, hj, rfl⟩ := givenK_elder _ _ s h1
    rw [KlN.out.2.2.2.2.2.2] at hj
    refine ⟨j, rfl, ?_⟩
    have e0 := h2 E0 (by simp)
    have e1 := h2 E1 (by simp)
    have e2 := h2 E2 (by simp)
    have e3 := h2 E3 (by simp)
    rw [hE0] at e0
    rw [hE1] at e1
    rw [hE2] at e2
    rw [hE3] at e3
    have f0 : j ≠ ts.length := fun e => e0 (by rw [e])
    have f1 : j ≠ ts.length + 1 := fun e => e1 (by rw [e])
    have f2 : j ≠ ts.length + 4 := fun e => e2 (by rw [e])
    have f3 : j ≠ ts.length + 5 := fun e => e3 (by rw [e])
    omega
  have Kgn : Kept (NameT gf ∧ gf.length ≤ 30) := ⟨⟨fun s hs => by obtain ⟨j, e, _⟩ := hel s hs; exact ⟨_, e⟩, by rw [hgf]; exact Nat.le_trans (fltL_len _ _) Kgl.out.2⟩⟩
  have KgE : Kept (NameT (gf ++ [PN, QN]) ∧ NameT (gf ++ [E0, QN]) ∧ NameT (gf ++ [PN, E1])) := ⟨by
    rw [hPN, hQN, hE0, hE1]
    exact ⟨Kgn.out.1.append nameT_nil.cons.cons, Kgn.out.1.append nameT_nil.cons.cons, Kgn.out.1.append nameT_nil.cons.cons⟩⟩
  obtain ⟨b0, hb0⟩ := isK_ex u6 (gf ++ [PN, QN])
  obtain ⟨b1, hb1⟩ := isK_ex u6 (gf ++ [E0, QN])
  obtain ⟨b2, hb2⟩ := isK_ex u6 (gf ++ [PN, E1])
  have KI0 : Kept _ := ⟨hb0⟩
  have KI1 : Kept _ := ⟨hb1⟩
  have KI2 : Kept _ := ⟨hb2⟩
  rw [hPN, hQN] at hb0
  rw [hE0, hQN] at hb1
  rw [hPN, hE1] at hb2
  have hu6 := Ku6.out
  have hl6 := KlN.out.2.2.2.2.2.2
  obtain ⟨r0, r1, r2, r3⟩ := shared_rest hX.added hel (mute_short (by decide))
  have F1 : Kept (Tells false (KnownS u6 (hadP b0) E2)) := ⟨by rw [hE2]; exact at_false (n := ts.length + 4) hb0 hu6 (by omega) (fun h => by have := r0 _ h; omega)⟩
  have F2 : Kept (Tells false (KnownS u6 (hadP b0) E3)) := ⟨by rw [hE3]; exact at_false (n := ts.length + 5) hb0 hu6 (by omega) (fun h => by have := r0 _ h; omega)⟩
  have F3 : Kept (Tells false (KnownS u6 (hadP b0) E0)) := ⟨by rw [hE0]; exact at_false (n := ts.length) hb0 hu6 (by omega) (fun h => by have := r0 _ h; omega)⟩
  have F4 : Kept (Tells true (KnownS u6 (hadP b1) E2)) := ⟨by rw [hE2]; exact at_true (n := ts.length + 4) hb1 hu6 r2.1⟩
  have F5 : Kept (Tells true (KnownS u6 (hadP b1) E3)) := ⟨by rw [hE3]; exact at_true (n := ts.length + 5) hb1 hu6 r2.2.1⟩
  have F6 : Kept (Tells true (KnownS u6 (hadP b1) PN)) := ⟨by rw [hPN]; exact at_true (n := ts.length + 2) hb1 hu6 r2.2.2⟩
  have F7 : Kept (Tells false (KnownS u6 (hadP b1) E1)) := ⟨by rw [hE1]; exact at_false (n := ts.length + 1) hb1 hu6 (by omega) (fun h => r1 _ h rfl)⟩
  have F8 : Kept (Tells true (KnownS u6 (hadP b2) E2)) := ⟨by rw [hE2]; exact at_true (n := ts.length + 4) hb2 hu6 r3.1⟩
  have F9 : Kept (Tells true (KnownS u6 (hadP b2) QN)) := ⟨by rw [hQN]; exact at_true (n := ts.length + 3) hb2 hu6 r3.2⟩
  have KNm : Kept (∀ (M : Nat → Prop) (w3 : World), Tab tb wc.heap.size u6 M w3 → Below w.heap.size w w3 → Calls Tryd.prog 11 #[.pointer (some ⟨tb, 0, none⟩), u] w3 fun e w' => (∃ V, e = .returned V ∧ VRow w3.heap.size 9 (strs gl) V w') ∧ Below w3.heap.size w3 w') := ⟨fun M w3 hT q => by
    rw [hgl]
    exact namesD hT Ku6.out (IntsV.under KU.out q) Kty.out Ktl.out⟩
  obtain ⟨n, hn⟩ : ∃ n, n = gl.length := ⟨_, rfl⟩
  have Kn : Kept _ := ⟨hn⟩
  have hn30 : n ≤ 30 := by rw [hn]; exact Kgl.out.2
  have KTw2 : Kept _ := ⟨KT.out⟩
  have Kqw2 : Kept _ := ⟨Kq2.out⟩
  have KOy : Kept (Bytes [111, 102]) := ⟨bytes_of_all (by decide)⟩
  clear hX hgl hgf hel hb0 hb1 hb2 hu6 hl6 r0 r1 r2 r3 hn hE0 hE1 hE2 hE3 hPN hQN KT Kq2
  go_wp2_with fail
  refine (Caa.out _).mono ?_
  rintro e w3 ⟨rfl, q⟩
  have KTw3 : Kept _ := ⟨KTw2.out.under q⟩
  have Kqw3 : Kept _ := ⟨Kqw2.out.trans (q.mono Kqw2.out.size)⟩
  clear q KTw2 Kqw2
  go_wp2_with fail

  refine (AtomE KTw3.out Oaa.out.bytes Oaa.out.max KsM.out P1.out rfl).mono ?_
  rintro e w4 ⟨rfl, hPu⟩
  obtain ⟨Mw4, hT, tu⟩ := hPu
  have KTw4 : Kept _ := ⟨hT⟩
  have Kqw4 : Kept _ := ⟨Kqw3.out.trans ((KTw3.out.below tu).mono Kqc.out.size)⟩
  clear hT tu KTw3 Kqw3
  go_wp2_with fail

  refine (Cba.out _).mono ?_
  rintro e w5 ⟨rfl, q⟩
  have KTw5 : Kept _ := ⟨KTw4.out.under q⟩
  have Kqw5 : Kept _ := ⟨Kqw4.out.trans (q.mono Kqw4.out.size)⟩
  clear q KTw4 Kqw4
  go_wp2_with fail

  refine (AtomE KTw5.out Oba.out.bytes Oba.out.max Ku1.out P2.out rfl).mono ?_
  rintro e w6 ⟨rfl, hPu⟩
  obtain ⟨Mw6, hT, tu⟩ := hPu
  have KTw6 : Kept _ := ⟨hT⟩
  have Kqw6 : Kept _ := ⟨Kqw5.out.trans ((KTw5.out.below tu).mono Kqc.out.size)⟩
  clear hT tu KTw5 Kqw5
  go_wp2_with fail

  refine (PubE KTw6.out KE0.out.1 KE0.out.2.2 Ku2.out P3.out rfl).mono ?_
  rintro e w7 ⟨rfl, hPu⟩
  obtain ⟨Mw7, hT, tu⟩ := hPu
  have KTw7 : Kept _ := ⟨hT⟩
  have Kqw7 : Kept _ := ⟨Kqw6.out.trans ((KTw6.out.below tu).mono Kqc.out.size)⟩
  clear hT tu KTw6 Kqw6
  go_wp2_with fail

  refine (PubE KTw7.out KE1.out.1 KE1.out.2.2 Ku3.out P4.out rfl).mono ?_
  rintro e w8 ⟨rfl, hPu⟩
  obtain ⟨Mw8, hT, tu⟩ := hPu
  have KTw8 : Kept _ := ⟨hT⟩
  have Kqw8 : Kept _ := ⟨Kqw7.out.trans ((KTw7.out.below tu).mono Kqc.out.size)⟩
  clear hT tu KTw7 Kqw7
  go_wp2_with fail

  refine (DhE KTw8.out KE0.out.1 KQN.out.1 KE0.out.2.2 KQN.out.2.2 Ku4.out P5.out).mono ?_
  rintro e w9 ⟨rfl, hPu⟩
  obtain ⟨Mw9, hT, tu⟩ := hPu
  have KTw9 : Kept _ := ⟨hT⟩
  have Kqw9 : Kept _ := ⟨Kqw8.out.trans ((KTw8.out.below tu).mono Kqc.out.size)⟩
  clear hT tu KTw8 Kqw8

  have bA := (Below.refl w9.heap.size w9).alloc (Nat.le_refl _) (.cells #[.string (strOf [111, 102]), .string (strOf E2)] 9)
  have KbA : Kept _ := ⟨bA⟩
  have KCA : Kept _ := ⟨HashE (KTw9.out.under bA) (fun l h => by simp only [List.mem_cons, List.not_mem_nil, or_false] at h; rcases h with rfl | rfl <;> first | exact KOy.out | exact KE2.out.1) (new2 [111, 102] E2 w9) (fun l h => by simp only [List.mem_cons, List.not_mem_nil, or_false] at h; rcases h with rfl | rfl <;> first | decide | exact KE2.out.2.2) Ku5.out P6.out⟩
  clear bA
  go_wp2_with (first | (refine wl_bs2 (by kernel_rfl) (.const (.string ⟨#[111, 102]⟩)) (.tmp 50) rfl ([111, 102]) (E2) (by kernel_rfl) (by kernel_rfl) ?_; simp only [Act.put, List.setIfInBounds_toArray, List.set_cons_succ, List.set_cons_zero]))
  refine KCA.out.mono ?_
  rintro e wA ⟨rfl, hPu⟩
  obtain ⟨MwA, hT, tu⟩ := hPu.from KbA.out
  have KTwA : Kept _ := ⟨hT⟩
  have KqwA : Kept _ := ⟨Kqw9.out.trans ((KTw9.out.below tu).mono Kqc.out.size)⟩
  clear hPu hT tu KTw9 Kqw9 KbA KCA
  go_wp2_with fail

  refine (KNm.out _ _ KTwA.out KqwA.out).mono ?_
  rintro e wB ⟨⟨Vn, rfl, hVn⟩, q⟩
  have KVn' : Kept _ := ⟨vrow_vals hVn⟩
  have KTwB : Kept _ := ⟨KTwA.out.under q⟩
  have KqwB : Kept _ := ⟨KqwA.out.trans (q.mono KqwA.out.size)⟩
  obtain ⟨pn, cn, rfl, _⟩ := vals_form KVn'.out (show (strs gl).length = n by rw [strs_len, Kn.out])
  have KVn : Kept _ := ⟨KVn'.out⟩
  clear hVn q KTwA KqwA KVn' KNm
  go_wp2_with fail
  go_loopg [14, 57] n (fun g s14 s57 wr => ∃ i : Nat, i + g = n ∧ s57 = .int .i64 (i : Int) ∧ VRow wB.heap.size 9 (strs (fltL [E0, E1, E2, E3] (gl.take i))) s14 wr ∧ Below wB.heap.size wB wr)
  case atStart => exact ⟨0, by omega, rfl, vrow_nil _ _ _, Below.refl _ _⟩
  case round =>
    rename World => wz
    obtain ⟨i, hik, rfl, hr, hbz⟩ := hrel
    by_cases hk0 : gk = 0
    case neg =>
      have hin : i < n := by omega
      have hin' : (i : Int) < (n : Int) := by omega
      have hi1 : (i : Int) + 1 ≤ 9223372036854775807 := by omega
      obtain ⟨T, hT⟩ : ∃ T, gl[i]? = some T := ⟨_, List.getElem?_eq_getElem (by rw [← Kn.out]; exact hin)⟩
      obtain ⟨A, rfl, hA, hcell⟩ := vals_at (KVn.out.under hbz) (strs_get hT)
      have KC : Kept _ := ⟨hcell⟩
      have KTy : Kept (Bytes T) := ⟨Kgl.out.1.bytes T (List.mem_of_getElem? hT)⟩
      have Kst := fltL_snoc (es := [E0, E1, E2, E3]) hT
      have Kr : Kept _ := ⟨hr⟩
      have Kbz : Kept _ := ⟨hbz⟩
      have hd : T = E0 ∨ (T ≠ E0 ∧ T = E1) ∨ (T ≠ E0 ∧ T ≠ E1 ∧ T = E2) ∨ (T ≠ E0 ∧ T ≠ E1 ∧ T ≠ E2 ∧ T = E3) ∨ (T ≠ E0 ∧ T ≠ E1 ∧ T ≠ E2 ∧ T ≠ E3) := by
        by_cases d0 : T = E0
        · exact .inl d0
        by_cases d1 : T = E1
        · exact .inr (.inl ⟨d0, d1⟩)
        by_cases d2 : T = E2
        · exact .inr (.inr (.inl ⟨d0, d1, d2⟩))
        by_cases d3 : T = E3
        · exact .inr (.inr (.inr (.inl ⟨d0, d1, d2, d3⟩)))
        · exact .inr (.inr (.inr (.inr ⟨d0, d1, d2, d3⟩)))
      clear hcell hT hr hbz
      rcases hd with d | ⟨d0, d⟩ | ⟨d0, d1, d⟩ | ⟨d0, d1, d2, d⟩ | ⟨d0, d1, d2, d3⟩
      · have B0 : Kept (false = !decide (T = E0)) := ⟨by rw [decide_eq_true d]; rfl⟩
        have Ks : Kept (fltL [E0, E1, E2, E3] (gl.take (i + 1)) = fltL [E0, E1, E2, E3] (gl.take i)) := ⟨by rw [Kst, keepF_false (e := E0) (by simp) d]; simp⟩
        clear  d Kst
        go_wp2_with (first | ((with_reducible refine wv_val (d := 59) ?hd ?hw (.pointer (some (A.add i))) ?hr ?_); (case hd => rfl); (case hw => kernel_rfl); (case hr => intro w; exact run_idxS (c := cn) rfl (by kernel_rfl) (by kernel_rfl) Tryd.underlying29 hin Tryd.sizeOf9 w); simp only [Act.put, List.setIfInBounds_toArray, List.set_cons_succ, List.set_cons_zero]) | ((with_reducible refine wv_elem (d := 60) ?hd ?hw 9 ag_str (.tmp 59) ?ho (A.add i) ?hx (.string (strOf T)) ?hc ?_); (case hd => rfl); (case hw => kernel_rfl); (case ho => rfl); (case hx => kernel_rfl); (case hc => exact KC.out); simp only [Act.put, List.setIfInBounds_toArray, List.set_cons_succ, List.set_cons_zero]) | ((with_reducible refine wv_val (d := 63) ?hd ?hw (.bool false) ?hr ?_); (case hd => rfl); (case hw => kernel_rfl); (case hr => intro w; exact run_sneq rfl (by kernel_rfl) (by kernel_rfl) KTy.out KE0.out.1 B0.out w); simp only [Act.put, List.setIfInBounds_toArray, List.set_cons_succ, List.set_cons_zero]))
        go_roundg (gk - 1)
        case measure => omega
        case rel => exact ⟨i + 1, by omega, by simp, by rw [Ks.out]; exact Kr.out, Kbz.out⟩
      · have B0 : Kept (true = !decide (T = E0)) := ⟨by rw [decide_eq_false d0]; rfl⟩
        have B1 : Kept (false = !decide (T = E1)) := ⟨by rw [decide_eq_true d]; rfl⟩
        have Ks : Kept (fltL [E0, E1, E2, E3] (gl.take (i + 1)) = fltL [E0, E1, E2, E3] (gl.take i)) := ⟨by rw [Kst, keepF_false (e := E1) (by simp) d]; simp⟩
        clear d0 d Kst
        go_wp2_with (first | ((with_reducible refine wv_val (d := 59) ?hd ?hw (.pointer (some (A.add i))) ?hr ?_); (case hd => rfl); (case hw => kernel_rfl); (case hr => intro w; exact run_idxS (c := cn) rfl (by kernel_rfl) (by kernel_rfl) Tryd.underlying29 hin Tryd.sizeOf9 w); simp only [Act.put, List.setIfInBounds_toArray, List.set_cons_succ, List.set_cons_zero]) | ((with_reducible refine wv_elem (d := 60) ?hd ?hw 9 ag_str (.tmp 59) ?ho (A.add i) ?hx (.string (strOf T)) ?hc ?_); (case hd => rfl); (case hw => kernel_rfl); (case ho => rfl); (case hx => kernel_rfl); (case hc => exact KC.out); simp only [Act.put, List.setIfInBounds_toArray, List.set_cons_succ, List.set_cons_zero]) | ((with_reducible refine wv_val (d := 63) ?hd ?hw (.bool true) ?hr ?_); (case hd => rfl); (case hw => kernel_rfl); (case hr => intro w; exact run_sneq rfl (by kernel_rfl) (by kernel_rfl) KTy.out KE0.out.1 B0.out w); simp only [Act.put, List.setIfInBounds_toArray, List.set_cons_succ, List.set_cons_zero]) | ((with_reducible refine wv_val (d := 67) ?hd ?hw (.bool false) ?hr ?_); (case hd => rfl); (case hw => kernel_rfl); (case hr => intro w; exact run_sneq rfl (by kernel_rfl) (by kernel_rfl) KTy.out KE1.out.1 B1.out w); simp only [Act.put, List.setIfInBounds_toArray, List.set_cons_succ, List.set_cons_zero]))
        go_roundg (gk - 1)
        case measure => omega
        case rel => exact ⟨i + 1, by omega, by simp, by rw [Ks.out]; exact Kr.out, Kbz.out⟩
      · have B0 : Kept (true = !decide (T = E0)) := ⟨by rw [decide_eq_false d0]; rfl⟩
        have B1 : Kept (true = !decide (T = E1)) := ⟨by rw [decide_eq_false d1]; rfl⟩
        have B2 : Kept (false = !decide (T = E2)) := ⟨by rw [decide_eq_true d]; rfl⟩
        have Ks : Kept (fltL [E0, E1, E2, E3] (gl.take (i + 1)) = fltL [E0, E1, E2, E3] (gl.take i)) := ⟨by rw [Kst, keepF_false (e := E2) (by simp) d]; simp⟩
        clear d0 d1 d Kst
        go_wp2_with (first | ((with_reducible refine wv_val (d := 59) ?hd ?hw (.pointer (some (A.add i))) ?hr ?_); (case hd => rfl); (case hw => kernel_rfl); (case hr => intro w; exact run_idxS (c := cn) rfl (by kernel_rfl) (by kernel_rfl) Tryd.underlying29 hin Tryd.sizeOf9 w); simp only [Act.put, List.setIfInBounds_toArray, List.set_cons_succ, List.set_cons_zero]) | ((with_reducible refine wv_elem (d := 60) ?hd ?hw 9 ag_str (.tmp 59) ?ho (A.add i) ?hx (.string (strOf T)) ?hc ?_); (case hd => rfl); (case hw => kernel_rfl); (case ho => rfl); (case hx => kernel_rfl); (case hc => exact KC.out); simp only [Act.put, List.setIfInBounds_toArray, List.set_cons_succ, List.set_cons_zero]) | ((with_reducible refine wv_val (d := 63) ?hd ?hw (.bool true) ?hr ?_); (case hd => rfl); (case hw => kernel_rfl); (case hr => intro w; exact run_sneq rfl (by kernel_rfl) (by kernel_rfl) KTy.out KE0.out.1 B0.out w); simp only [Act.put, List.setIfInBounds_toArray, List.set_cons_succ, List.set_cons_zero]) | ((with_reducible refine wv_val (d := 67) ?hd ?hw (.bool true) ?hr ?_); (case hd => rfl); (case hw => kernel_rfl); (case hr => intro w; exact run_sneq rfl (by kernel_rfl) (by kernel_rfl) KTy.out KE1.out.1 B1.out w); simp only [Act.put, List.setIfInBounds_toArray, List.set_cons_succ, List.set_cons_zero]) | ((with_reducible refine wv_val (d := 72) ?hd ?hw (.bool false) ?hr ?_); (case hd => rfl); (case hw => kernel_rfl); (case hr => intro w; exact run_sneq rfl (by kernel_rfl) (by kernel_rfl) KTy.out KE2.out.1 B2.out w); simp only [Act.put, List.setIfInBounds_toArray, List.set_cons_succ, List.set_cons_zero]))
        go_roundg (gk - 1)
        case measure => omega
        case rel => exact ⟨i + 1, by omega, by simp, by rw [Ks.out]; exact Kr.out, Kbz.out⟩
      · have B0 : Kept (true = !decide (T = E0)) := ⟨by rw [decide_eq_false d0]; rfl⟩
        have B1 : Kept (true = !decide (T = E1)) := ⟨by rw [decide_eq_false d1]; rfl⟩
        have B2 : Kept (true = !decide (T = E2)) := ⟨by rw [decide_eq_false d2]; rfl⟩
        have B3 : Kept (false = !decide (T = E3)) := ⟨by rw [decide_eq_true d]; rfl⟩
        have Ks : Kept (fltL [E0, E1, E2, E3] (gl.take (i + 1)) = fltL [E0, E1, E2, E3] (gl.take i)) := ⟨by rw [Kst, keepF_false (e := E3) (by simp) d]; simp⟩
        clear d0 d1 d2 d Kst
        go_wp2_with (first | ((with_reducible refine wv_val (d := 59) ?hd ?hw (.pointer (some (A.add i))) ?hr ?_); (case hd => rfl); (case hw => kernel_rfl); (case hr => intro w; exact run_idxS (c := cn) rfl (by kernel_rfl) (by kernel_rfl) Tryd.underlying29 hin Tryd.sizeOf9 w); simp only [Act.put, List.setIfInBounds_toArray, List.set_cons_succ, List.set_cons_zero]) | ((with_reducible refine wv_elem (d := 60) ?hd ?hw 9 ag_str (.tmp 59) ?ho (A.add i) ?hx (.string (strOf T)) ?hc ?_); (case hd => rfl); (case hw => kernel_rfl); (case ho => rfl); (case hx => kernel_rfl); (case hc => exact KC.out); simp only [Act.put, List.setIfInBounds_toArray, List.set_cons_succ, List.set_cons_zero]) | ((with_reducible refine wv_val (d := 63) ?hd ?hw (.bool true) ?hr ?_); (case hd => rfl); (case hw => kernel_rfl); (case hr => intro w; exact run_sneq rfl (by kernel_rfl) (by kernel_rfl) KTy.out KE0.out.1 B0.out w); simp only [Act.put, List.setIfInBounds_toArray, List.set_cons_succ, List.set_cons_zero]) | ((with_reducible refine wv_val (d := 67) ?hd ?hw (.bool true) ?hr ?_); (case hd => rfl); (case hw => kernel_rfl); (case hr => intro w; exact run_sneq rfl (by kernel_rfl) (by kernel_rfl) KTy.out KE1.out.1 B1.out w); simp only [Act.put, List.setIfInBounds_toArray, List.set_cons_succ, List.set_cons_zero]) | ((with_reducible refine wv_val (d := 72) ?hd ?hw (.bool true) ?hr ?_); (case hd => rfl); (case hw => kernel_rfl); (case hr => intro w; exact run_sneq rfl (by kernel_rfl) (by kernel_rfl) KTy.out KE2.out.1 B2.out w); simp only [Act.put, List.setIfInBounds_toArray, List.set_cons_succ, List.set_cons_zero]) | ((with_reducible refine wv_val (d := 77) ?hd ?hw (.bool false) ?hr ?_); (case hd => rfl); (case hw => kernel_rfl); (case hr => intro w; exact run_sneq rfl (by kernel_rfl) (by kernel_rfl) KTy.out KE3.out.1 B3.out w); simp only [Act.put, List.setIfInBounds_toArray, List.set_cons_succ, List.set_cons_zero]))
        go_roundg (gk - 1)
        case measure => omega
        case rel => exact ⟨i + 1, by omega, by simp, by rw [Ks.out]; exact Kr.out, Kbz.out⟩
      · have B0 : Kept (true = !decide (T = E0)) := ⟨by rw [decide_eq_false d0]; rfl⟩
        have B1 : Kept (true = !decide (T = E1)) := ⟨by rw [decide_eq_false d1]; rfl⟩
        have B2 : Kept (true = !decide (T = E2)) := ⟨by rw [decide_eq_false d2]; rfl⟩
        have B3 : Kept (true = !decide (T = E3)) := ⟨by rw [decide_eq_false d3]; rfl⟩
        have Ks : Kept (fltL [E0, E1, E2, E3] (gl.take (i + 1)) = fltL [E0, E1, E2, E3] (gl.take i) ++ [T]) := ⟨by
          rw [Kst, keepF_true (fun e he => by
            simp only [List.mem_cons, List.not_mem_nil, or_false] at he
            rcases he with rfl | rfl | rfl | rfl
            · exact d0
            · exact d1
            · exact d2
            · exact d3)]
          simp⟩
        have b6 := (Below.refl wz.heap.size wz).alloc (Nat.le_refl _) (.cells #[.string (strOf T)] 9)
        have Kr6 : Kept _ := ⟨Kr.out.under b6⟩
        have K1 : Kept _ := ⟨one_new T wz⟩
        have Kh6 : Kept (wB.heap.size ≤ (wz.alloc (.cells #[.string (strOf T)] 9)).heap.size) := ⟨Nat.le_trans Kbz.out.size b6.size⟩
        have Kb6 : Kept _ := ⟨Kbz.out.trans (b6.mono Kbz.out.size)⟩
        have K1c : Kept (∀ x ∈ ([Value.string (strOf T)] : List Value), x.oneCell' = true) := ⟨fun x hx => by simp at hx; subst hx; rfl⟩
        have Kap : Kept ((strs (fltL [E0, E1, E2, E3] (gl.take i))).length + ([Value.string (strOf T)] : List Value).length ≤ 1099511627776) := ⟨by
          rw [strs_len]
          have := fltL_len [E0, E1, E2, E3] (gl.take i)
          rw [List.length_take] at this
          simp
          omega⟩
        clear b6
        clear d0 d1 d2 d3 Kst
        go_wp2_with (first | ((with_reducible refine wv_val (d := 59) ?hd ?hw (.pointer (some (A.add i))) ?hr ?_); (case hd => rfl); (case hw => kernel_rfl); (case hr => intro w; exact run_idxS (c := cn) rfl (by kernel_rfl) (by kernel_rfl) Tryd.underlying29 hin Tryd.sizeOf9 w); simp only [Act.put, List.setIfInBounds_toArray, List.set_cons_succ, List.set_cons_zero]) | ((with_reducible refine wv_elem (d := 60) ?hd ?hw 9 ag_str (.tmp 59) ?ho (A.add i) ?hx (.string (strOf T)) ?hc ?_); (case hd => rfl); (case hw => kernel_rfl); (case ho => rfl); (case hx => kernel_rfl); (case hc => exact KC.out); simp only [Act.put, List.setIfInBounds_toArray, List.set_cons_succ, List.set_cons_zero]) | ((with_reducible refine wv_val (d := 63) ?hd ?hw (.bool true) ?hr ?_); (case hd => rfl); (case hw => kernel_rfl); (case hr => intro w; exact run_sneq rfl (by kernel_rfl) (by kernel_rfl) KTy.out KE0.out.1 B0.out w); simp only [Act.put, List.setIfInBounds_toArray, List.set_cons_succ, List.set_cons_zero]) | ((with_reducible refine wv_val (d := 67) ?hd ?hw (.bool true) ?hr ?_); (case hd => rfl); (case hw => kernel_rfl); (case hr => intro w; exact run_sneq rfl (by kernel_rfl) (by kernel_rfl) KTy.out KE1.out.1 B1.out w); simp only [Act.put, List.setIfInBounds_toArray, List.set_cons_succ, List.set_cons_zero]) | ((with_reducible refine wv_val (d := 72) ?hd ?hw (.bool true) ?hr ?_); (case hd => rfl); (case hw => kernel_rfl); (case hr => intro w; exact run_sneq rfl (by kernel_rfl) (by kernel_rfl) KTy.out KE2.out.1 B2.out w); simp only [Act.put, List.setIfInBounds_toArray, List.set_cons_succ, List.set_cons_zero]) | ((with_reducible refine wv_val (d := 77) ?hd ?hw (.bool true) ?hr ?_); (case hd => rfl); (case hw => kernel_rfl); (case hr => intro w; exact run_sneq rfl (by kernel_rfl) (by kernel_rfl) KTy.out KE3.out.1 B3.out w); simp only [Act.put, List.setIfInBounds_toArray, List.set_cons_succ, List.set_cons_zero]) | (refine wl_build1S rfl (.tmp 80) rfl T (by kernel_rfl) ?_; simp only [Act.put, List.setIfInBounds_toArray, List.set_cons_succ, List.set_cons_zero]) | ((refine wl_appV (by kernel_rfl) (.tmp 79) (.tmp 81) 29 9 (.string .empty) 16 rfl Tryd.underlying29 inf_str rfl (by decide) wB.heap.size _ [.string (strOf T)] _ _ (by kernel_rfl) (by kernel_rfl) Kr6.out K1.out K1c.out Kap.out Kh6.out ?_); intro v' w7 hr' hg' hne'; simp only [Act.put, List.setIfInBounds_toArray, List.set_cons_succ, List.set_cons_zero]))
        go_roundg (gk - 1)
        case measure => omega
        case rel =>
          refine ⟨i + 1, by omega, by simp, ?_, Kb6.out.trans (grown_mono hg' Kh6.out (fun b hb => (Kr6.out.range b hb).1))⟩
          rw [Ks.out, strs_append]
          exact hr'
    case pos =>
      obtain rfl : n = i := by omega
      have et : gl.take n = gl := List.take_of_length_le (by rw [Kn.out]; exact Nat.le_refl _)
      rw [et, Kgf.out] at hr
      have KRwz : Kept _ := ⟨hr⟩
      have Kbwz : Kept _ := ⟨hbz⟩
      clear hr hbz et

      have bA := (Below.refl wz.heap.size wz).alloc (Nat.le_refl _) (.cells #[.string (strOf PN), .string (strOf QN)] 9)
      have KRa : Kept _ := ⟨KRwz.out.under bA⟩
      have KXa : Kept _ := ⟨new2 PN QN wz⟩
      have KHa : Kept (wB.heap.size ≤ (wz.alloc (.cells #[.string (strOf PN), .string (strOf QN)] 9)).heap.size) := ⟨Nat.le_trans Kbwz.out.size bA.size⟩
      have Kba : Kept _ := ⟨Kbwz.out.trans (bA.mono Kbwz.out.size)⟩
      clear bA KRwz Kbwz 
      go_wp2_with (first | (refine wl_bs2 (by kernel_rfl) (.tmp 86) (.tmp 87) rfl (PN) (QN) (by kernel_rfl) (by kernel_rfl) ?_; simp only [Act.put, List.setIfInBounds_toArray, List.set_cons_succ, List.set_cons_zero]) | ((refine wl_appK (by kernel_rfl) (.tmp 85) (.tmp 88) rfl wB.heap.size gf [PN, QN] _ _ (by kernel_rfl) (by kernel_rfl) KRa.out KXa.out (by simp) (by have := Kgn.out.2; simp; omega) KHa.out ?_); intro vN wN hrN hgN hkN; simp only [Act.put, List.setIfInBounds_toArray, List.set_cons_succ, List.set_cons_zero]))
      have qN : Below wB.heap.size wB wN := Kba.out.trans (grown_mono hgN KHa.out (fun b hb => (KRa.out.range b hb).1))
      have KNw : Kept _ := ⟨NewGA (KTwB.out.under qN) Ku6t.out.1 Ku6t.out.2 (vrow_vals hrN) KgE.out.1 (by have := Kgn.out.2; simp; omega) KI0.out⟩
      have KRn : Kept _ := ⟨hkN⟩
      have Kbn : Kept _ := ⟨qN⟩
      have Krow0 : Kept (∀ k, blkOf u14 = some k → k < wN.heap.size) := ⟨fun k hk => (hkN.range k hk).2⟩
      clear hrN hgN hkN qN KRa KXa KHa Kba 
      refine KNw.out.mono ?_
      rintro e wD ⟨⟨s0, rfl, hS⟩, q⟩
      have KRwD : Kept _ := ⟨KRn.out.under q⟩
      have KbwD : Kept _ := ⟨Kbn.out.trans (q.mono Kbn.out.size)⟩
      have KS0wD : Kept _ := ⟨hS⟩
      clear hS q KNw KRn Kbn 

      have bA := (Below.refl wD.heap.size wD).alloc (Nat.le_refl _) (.cells #[.string (strOf E0), .string (strOf QN)] 9)
      have KRa : Kept _ := ⟨KRwD.out.under bA⟩
      have KXa : Kept _ := ⟨new2 E0 QN wD⟩
      have KHa : Kept (wB.heap.size ≤ (wD.alloc (.cells #[.string (strOf E0), .string (strOf QN)] 9)).heap.size) := ⟨Nat.le_trans KbwD.out.size bA.size⟩
      have Kba : Kept _ := ⟨KbwD.out.trans (bA.mono KbwD.out.size)⟩
      have KS0a : Kept _ := ⟨KS0wD.out.under bA⟩
      clear bA KRwD KbwD KS0wD
      go_wp2_with (first | (refine wl_bs2 (by kernel_rfl) (.tmp 93) (.tmp 94) rfl (E0) (QN) (by kernel_rfl) (by kernel_rfl) ?_; simp only [Act.put, List.setIfInBounds_toArray, List.set_cons_succ, List.set_cons_zero]) | ((refine wl_appK (by kernel_rfl) (.tmp 92) (.tmp 95) rfl wB.heap.size gf [E0, QN] _ _ (by kernel_rfl) (by kernel_rfl) KRa.out KXa.out (by simp) (by have := Kgn.out.2; simp; omega) KHa.out ?_); intro vN wN hrN hgN hkN; simp only [Act.put, List.setIfInBounds_toArray, List.set_cons_succ, List.set_cons_zero]))
      have qN : Below wB.heap.size wB wN := Kba.out.trans (grown_mono hgN KHa.out (fun b hb => (KRa.out.range b hb).1))
      have KS0n : Kept _ := ⟨KS0a.out.grown hgN Krow0.out⟩
      have KNw : Kept _ := ⟨NewGA (KTwB.out.under qN) Ku6t.out.1 Ku6t.out.2 (vrow_vals hrN) KgE.out.2.1 (by have := Kgn.out.2; simp; omega) KI1.out⟩
      have KRn : Kept _ := ⟨hkN⟩
      have Kbn : Kept _ := ⟨qN⟩
      have Krow1 : Kept (∀ k, blkOf u14 = some k → k < wN.heap.size) := ⟨fun k hk => (hkN.range k hk).2⟩
      clear hrN hgN hkN qN KRa KXa KHa Kba KS0a
      refine KNw.out.mono ?_
      rintro e wE ⟨⟨s1, rfl, hS⟩, q⟩
      have KRwE : Kept _ := ⟨KRn.out.under q⟩
      have KbwE : Kept _ := ⟨Kbn.out.trans (q.mono Kbn.out.size)⟩
      have KS1wE : Kept _ := ⟨hS⟩
      have KS0wE : Kept _ := ⟨KS0n.out.under q⟩
      clear hS q KNw KRn Kbn KS0n

      have bA := (Below.refl wE.heap.size wE).alloc (Nat.le_refl _) (.cells #[.string (strOf PN), .string (strOf E1)] 9)
      have KRa : Kept _ := ⟨KRwE.out.under bA⟩
      have KXa : Kept _ := ⟨new2 PN E1 wE⟩
      have KHa : Kept (wB.heap.size ≤ (wE.alloc (.cells #[.string (strOf PN), .string (strOf E1)] 9)).heap.size) := ⟨Nat.le_trans KbwE.out.size bA.size⟩
      have Kba : Kept _ := ⟨KbwE.out.trans (bA.mono KbwE.out.size)⟩
      have KS0a : Kept _ := ⟨KS0wE.out.under bA⟩
      have KS1a : Kept _ := ⟨KS1wE.out.under bA⟩
      clear bA KRwE KbwE KS0wE KS1wE
      go_wp2_with (first | (refine wl_bs2 (by kernel_rfl) (.tmp 100) (.tmp 101) rfl (PN) (E1) (by kernel_rfl) (by kernel_rfl) ?_; simp only [Act.put, List.setIfInBounds_toArray, List.set_cons_succ, List.set_cons_zero]) | ((refine wl_appK (by kernel_rfl) (.tmp 99) (.tmp 102) rfl wB.heap.size gf [PN, E1] _ _ (by kernel_rfl) (by kernel_rfl) KRa.out KXa.out (by simp) (by have := Kgn.out.2; simp; omega) KHa.out ?_); intro vN wN hrN hgN hkN; simp only [Act.put, List.setIfInBounds_toArray, List.set_cons_succ, List.set_cons_zero]))
      have qN : Below wB.heap.size wB wN := Kba.out.trans (grown_mono hgN KHa.out (fun b hb => (KRa.out.range b hb).1))
      have KS0n : Kept _ := ⟨KS0a.out.grown hgN Krow0.out⟩
      have KS1n : Kept _ := ⟨KS1a.out.grown hgN Krow1.out⟩
      have KNw : Kept _ := ⟨NewGA (KTwB.out.under qN) Ku6t.out.1 Ku6t.out.2 (vrow_vals hrN) KgE.out.2.2 (by have := Kgn.out.2; simp; omega) KI2.out⟩
      have KRn : Kept _ := ⟨hkN⟩
      have Kbn : Kept _ := ⟨qN⟩
      have Krow2 : Kept (∀ k, blkOf u14 = some k → k < wN.heap.size) := ⟨fun k hk => (hkN.range k hk).2⟩
      clear hrN hgN hkN qN KRa KXa KHa Kba KS0a KS1a
      refine KNw.out.mono ?_
      rintro e wF ⟨⟨s2, rfl, hS⟩, q⟩
      have KRwF : Kept _ := ⟨KRn.out.under q⟩
      have KbwF : Kept _ := ⟨Kbn.out.trans (q.mono Kbn.out.size)⟩
      have KS2wF : Kept _ := ⟨hS⟩
      have KS0wF : Kept _ := ⟨KS0n.out.under q⟩
      have KS1wF : Kept _ := ⟨KS1n.out.under q⟩
      clear hS q KNw KRn Kbn KS0n KS1n

      go_wp2_with fail
      refine (HasD KS0wF.out.set Ku6.out KE2.out.1 KE2.out.2.1 F1.out).mono ?_
      rintro e g0 ⟨rfl, q⟩
      have Kbg0 : Kept _ := ⟨KbwF.out.trans (q.mono KbwF.out.size)⟩
      have KS0g0 : Kept _ := ⟨KS0wF.out.under q⟩
      have KS1g0 : Kept _ := ⟨KS1wF.out.under q⟩
      have KS2g0 : Kept _ := ⟨KS2wF.out.under q⟩
      clear q KbwF KS0wF KS1wF KS2wF
      go_wp2_with fail
      refine (HasD KS0g0.out.set Ku6.out KE3.out.1 KE3.out.2.1 F2.out).mono ?_
      rintro e g1 ⟨rfl, q⟩
      have Kbg1 : Kept _ := ⟨Kbg0.out.trans (q.mono Kbg0.out.size)⟩
      have KS0g1 : Kept _ := ⟨KS0g0.out.under q⟩
      have KS1g1 : Kept _ := ⟨KS1g0.out.under q⟩
      have KS2g1 : Kept _ := ⟨KS2g0.out.under q⟩
      clear q Kbg0 KS0g0 KS1g0 KS2g0
      go_wp2_with fail
      refine (HasD KS0g1.out.set Ku6.out KE0.out.1 KE0.out.2.1 F3.out).mono ?_
      rintro e g2 ⟨rfl, q⟩
      have Kbg2 : Kept _ := ⟨Kbg1.out.trans (q.mono Kbg1.out.size)⟩
      have KS0g2 : Kept _ := ⟨KS0g1.out.under q⟩
      have KS1g2 : Kept _ := ⟨KS1g1.out.under q⟩
      have KS2g2 : Kept _ := ⟨KS2g1.out.under q⟩
      clear q Kbg1 KS0g1 KS1g1 KS2g1
      go_wp2_with fail
      refine (HasD KS1g2.out.set Ku6.out KE2.out.1 KE2.out.2.1 F4.out).mono ?_
      rintro e g3 ⟨rfl, q⟩
      have Kbg3 : Kept _ := ⟨Kbg2.out.trans (q.mono Kbg2.out.size)⟩
      have KS0g3 : Kept _ := ⟨KS0g2.out.under q⟩
      have KS1g3 : Kept _ := ⟨KS1g2.out.under q⟩
      have KS2g3 : Kept _ := ⟨KS2g2.out.under q⟩
      clear q Kbg2 KS0g2 KS1g2 KS2g2
      go_wp2_with fail
      refine (HasD KS1g3.out.set Ku6.out KE3.out.1 KE3.out.2.1 F5.out).mono ?_
      rintro e g4 ⟨rfl, q⟩
      have Kbg4 : Kept _ := ⟨Kbg3.out.trans (q.mono Kbg3.out.size)⟩
      have KS0g4 : Kept _ := ⟨KS0g3.out.under q⟩
      have KS1g4 : Kept _ := ⟨KS1g3.out.under q⟩
      have KS2g4 : Kept _ := ⟨KS2g3.out.under q⟩
      clear q Kbg3 KS0g3 KS1g3 KS2g3
      go_wp2_with fail
      refine (HasD KS1g4.out.set Ku6.out KPN.out.1 KPN.out.2.1 F6.out).mono ?_
      rintro e g5 ⟨rfl, q⟩
      have Kbg5 : Kept _ := ⟨Kbg4.out.trans (q.mono Kbg4.out.size)⟩
      have KS0g5 : Kept _ := ⟨KS0g4.out.under q⟩
      have KS1g5 : Kept _ := ⟨KS1g4.out.under q⟩
      have KS2g5 : Kept _ := ⟨KS2g4.out.under q⟩
      clear q Kbg4 KS0g4 KS1g4 KS2g4
      go_wp2_with fail
      refine (HasD KS1g5.out.set Ku6.out KE1.out.1 KE1.out.2.1 F7.out).mono ?_
      rintro e g6 ⟨rfl, q⟩
      have Kbg6 : Kept _ := ⟨Kbg5.out.trans (q.mono Kbg5.out.size)⟩
      have KS0g6 : Kept _ := ⟨KS0g5.out.under q⟩
      have KS1g6 : Kept _ := ⟨KS1g5.out.under q⟩
      have KS2g6 : Kept _ := ⟨KS2g5.out.under q⟩
      clear q Kbg5 KS0g5 KS1g5 KS2g5
      go_wp2_with fail
      refine (HasD KS2g6.out.set Ku6.out KE2.out.1 KE2.out.2.1 F8.out).mono ?_
      rintro e g7 ⟨rfl, q⟩
      have Kbg7 : Kept _ := ⟨Kbg6.out.trans (q.mono Kbg6.out.size)⟩
      have KS0g7 : Kept _ := ⟨KS0g6.out.under q⟩
      have KS1g7 : Kept _ := ⟨KS1g6.out.under q⟩
      have KS2g7 : Kept _ := ⟨KS2g6.out.under q⟩
      clear q Kbg6 KS0g6 KS1g6 KS2g6
      go_wp2_with fail
      refine (HasD KS2g7.out.set Ku6.out KQN.out.1 KQN.out.2.1 F9.out).mono ?_
      rintro e g8 ⟨rfl, q⟩
      have Kbg8 : Kept _ := ⟨Kbg7.out.trans (q.mono Kbg7.out.size)⟩
      have KS0g8 : Kept _ := ⟨KS0g7.out.under q⟩
      have KS1g8 : Kept _ := ⟨KS1g7.out.under q⟩
      have KS2g8 : Kept _ := ⟨KS2g7.out.under q⟩
      clear q Kbg7 KS0g7 KS1g7 KS2g7
      go_wp2_with fail
      go_ret
      exact ⟨rfl, KqwB.out.trans (Kbg8.out.mono KqwB.out.size)⟩
end Go.Proofs.YtniogaimhkcedaaDoor.sh
