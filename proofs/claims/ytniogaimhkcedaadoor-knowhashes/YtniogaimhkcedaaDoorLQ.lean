/-
  KnowHashes.
-/
import Derived.Test.YtniogaimhkcedaaDoorLO
namespace Go.Proofs.YtniogaimhkcedaaDoor.sh
open Go Go.RowKit
set_option linter.unusedVariables false
set_option linter.unusedSimpArgs false

set_option maxRecDepth 100000 in
set_option maxHeartbeats 16000000 in
theorem hashes10 (v : Value) (l : List ActK) (u : Value) (told : List Nat) (w : World) (hv : ActV v w l) (hok : ∀ x ∈ l, ActKOk x) (hZ : l.length * 32 ≤ reachBytes) (hu : BytesV u w told) (hy : Bytes told) (hl : told.length ≤ maxLen) :
    Calls Tryd.prog 8 #[v, u] w fun e w' => e = .returned (.bool true) ∧ Below w.heap.size w w' := by
  have KAl : Kept _ := ⟨alive10 w⟩
  have KV : Kept _ := ⟨hv⟩
  have KO : Kept (∀ x ∈ l, ActKOk x) := ⟨hok⟩
  have KZ : Kept (l.length * 32 ≤ reachBytes) := ⟨hZ⟩
  have KU : Kept _ := ⟨hu⟩
  have Kty : Kept (Bytes told) := ⟨hy⟩
  have Ktl : Kept (told.length ≤ maxLen) := ⟨hl⟩
  clear hv hok hZ hu hy hl
  go_enter Tryd.func8, Tryd.ntmps8
  go_wp2_with fail
  refine KAl.out.mono ?_
  rintro e w1 ⟨rfl, q1⟩
  have Kq1 : Kept _ := ⟨q1⟩
  clear q1 KAl
  go_wp2_with fail
  refine (cleanD (KV.out.under Kq1.out) KO.out KZ.out).mono ?_
  rintro e wc ⟨⟨Vc, rfl, hVc⟩, qc⟩
  obtain ⟨cl, hcl⟩ : ∃ c, c = cleanL l := ⟨_, rfl⟩
  rw [← hcl] at hVc
  have Kcl : Kept (∀ x ∈ cl, ActKOk x ∧ NoTerm x.s) := ⟨fun x hx => by
    rw [hcl] at hx
    exact ⟨KO.out x (cleanL_mem hx).1, (cleanL_mem hx).2⟩⟩
  have KVc : Kept _ := ⟨hVc⟩
  have Kqc : Kept _ := ⟨Kq1.out.trans (qc.mono Kq1.out.size)⟩
  clear hVc hcl qc
  go_wp2_with fail
  refine (madeK KVc.out (fun x hx => (Kcl.out x hx).1)).mono ?_
  rintro e w2 ⟨⟨tb, M, Vm, rfl, hT, hS⟩, q2⟩
  have Kts : Kept (TermsK (actsK [] (cl.take 30)) ∧ (actsK [] (cl.take 30)).length ≤ 30) := ⟨termsK_nil.acts (fun x hx => (Kcl.out x (List.mem_of_mem_take hx)).1.s), by
    have := actsK_len (cl.take 30) []
    rw [List.length_take] at this
    have h0 : ([] : List TermL).length = 0 := rfl
    omega⟩
  have KLo : Kept (LowT (actsK [] (cl.take 30))) := ⟨low_acts low_nil (by have := List.length_take (l := cl) (i := 30); have h0 : ([] : List TermL).length = 0 := rfl; omega) (fun x hx => ⟨(Kcl.out x (List.mem_of_mem_take hx)).1.s, (Kcl.out x (List.mem_of_mem_take hx)).2⟩)⟩
  generalize actsK [] (cl.take 30) = ts at *
  have Kq2 : Kept _ := ⟨Kqc.out.trans (q2.mono Kqc.out.size)⟩
  obtain ⟨N, hN⟩ : ∃ N, N = ts.length := ⟨_, rfl⟩
  obtain ⟨pm, cm, rfl, _⟩ := ts_form hS hN.symm
  have KN : Kept _ := ⟨hN⟩
  have hN30 : N ≤ 30 := by rw [hN]; exact Kts.out.2
  have KsM : Kept (ts.length < 1000000) := ⟨by omega⟩
  have KT : Kept _ := ⟨hT⟩
  have KS : Kept _ := ⟨hS⟩
  clear q2 hT hS hN
  obtain ⟨aa, haa⟩ : ∃ k, k = ownL [111, 110, 101, 32, 112, 97, 114, 116] := ⟨_, rfl⟩
  have Oaa : Kept (OwnS aa) := ⟨by rw [haa]; exact own_ok (by decide) (by decide) (by decide)⟩
  have Caa : Kept (∀ w, Calls Tryd.prog 22 #[.string ⟨#[111, 110, 101, 32, 112, 97, 114, 116]⟩] w fun e w' => e = .returned (.string (strOf aa)) ∧ Below w.heap.size w w') := ⟨fun w => by
    rw [haa]
    exact ownD (by decide) (by kernel_rfl)⟩

  obtain ⟨ba, hba⟩ : ∃ k, k = ownL [97, 110, 111, 116, 104, 101, 114, 32, 112, 97, 114, 116] := ⟨_, rfl⟩
  have Oba : Kept (OwnS ba) := ⟨by rw [hba]; exact own_ok (by decide) (by decide) (by decide)⟩
  have Cba : Kept (∀ w, Calls Tryd.prog 22 #[.string ⟨#[97, 110, 111, 116, 104, 101, 114, 32, 112, 97, 114, 116]⟩] w fun e w' => e = .returned (.string (strOf ba)) ∧ Below w.heap.size w w') := ⟨fun w => by
    rw [hba]
    exact ownD (by decide) (by kernel_rfl)⟩

  obtain ⟨u1, u2, u3, u4, hX⟩ := hashX (mo := [109, 111, 114, 101]) Kts.out.1 KLo.out (by have := Kts.out.2; omega) Oaa.out Oba.out (by rw [hba, haa]; exact ownL_ne (by decide)) (bytes_of_all (by decide)) (by decide)
  clear haa hba
  obtain ⟨E0, hE0⟩ : ∃ e, e = termN (ts.length + 1) := ⟨_, rfl⟩
  have KE0 : Kept (Bytes E0 ∧ E0.length ≤ 40000 ∧ E0.length ≤ maxLen) := ⟨by rw [hE0]; exact ⟨termN_bytes _, by rw [termN_len]; decide, termN_max _⟩⟩

  obtain ⟨E1, hE1⟩ : ∃ e, e = termN (ts.length + 2) := ⟨_, rfl⟩
  have KE1 : Kept (Bytes E1 ∧ E1.length ≤ 40000 ∧ E1.length ≤ maxLen) := ⟨by rw [hE1]; exact ⟨termN_bytes _, by rw [termN_len]; decide, termN_max _⟩⟩

  obtain ⟨E2, hE2⟩ : ∃ e, e = termN (ts.length + 3) := ⟨_, rfl⟩
  have KE2 : Kept (Bytes E2 ∧ E2.length ≤ 40000 ∧ E2.length ≤ maxLen) := ⟨by rw [hE2]; exact ⟨termN_bytes _, by rw [termN_len]; decide, termN_max _⟩⟩

  obtain ⟨E3, hE3⟩ : ∃ e, e = termN (ts.length + 4) := ⟨_, rfl⟩
  have KE3 : Kept (Bytes E3 ∧ E3.length ≤ 40000 ∧ E3.length ≤ maxLen) := ⟨by rw [hE3]; exact ⟨termN_bytes _, by rw [termN_len]; decide, termN_max _⟩⟩

  have P1 : Kept (putL ts (1, [aa]) = (u1, E0)) := ⟨by rw [hE0]; exact hX.p1⟩
  have P2 : Kept (putL u1 (1, [ba]) = (u2, E1)) := ⟨by rw [hE1]; exact hX.p2⟩
  have P3 : Kept (putL u2 (4, [E0, E1]) = (u3, E2)) := ⟨by rw [hE0, hE1, hE2]; exact hX.p3⟩
  have P4 : Kept (putL u3 (4, [E2, [109, 111, 114, 101]]) = (u4, E3)) := ⟨by rw [hE2, hE3]; exact hX.p4⟩
  have KlN : Kept (ts.length ≤ 30 ∧ u1.length = ts.length + 1 ∧ u2.length = ts.length + 2 ∧ u3.length = ts.length + 3 ∧ u4.length = ts.length + 4) := ⟨⟨Kts.out.2, hX.l1, hX.l2, hX.l3, hX.l4⟩⟩
  have Ku1 : Kept (u1.length < 1000000) := ⟨by have := KlN.out; omega⟩
  have Ku2 : Kept (u2.length < 1000000) := ⟨by have := KlN.out; omega⟩
  have Ku3 : Kept (u3.length < 1000000) := ⟨by have := KlN.out; omega⟩
  have Ku4 : Kept (u4.length < 1000000) := ⟨by have := KlN.out; omega⟩
  have Ku4t : Kept (TermsB u4 ∧ u4.length ≤ 1000) := ⟨⟨hX.terms, by have := KlN.out; omega⟩⟩
  obtain ⟨gl, hgl⟩ : ∃ g, g = givenK u4.length told := ⟨_, rfl⟩
  obtain ⟨gf, hgf⟩ : ∃ g, g = fltL [E0, E1, E2, E3] gl := ⟨_, rfl⟩
  have Kgl : Kept (NameT gl ∧ gl.length ≤ 30) := ⟨by rw [hgl]; exact ⟨(givenK_elder _ _).names, givenK_len _ _⟩⟩
  have Kgf : Kept (fltL [E0, E1, E2, E3] gl = gf) := ⟨hgf.symm⟩
  have hel : Elder ts.length gf := by
    rw [hgf]
    refine elder_flt (by rw [hgl, KlN.out.2.2.2.2]; exact givenK_elder _ _) (fun j hj => ?_)
    rw [hE0, hE1, hE2, hE3]
    match j, hj with
    | 0, _ => simp
    | 1, _ => simp
    | 2, _ => simp
    | 3, _ => simp
  have Kgn : Kept (NameT gf ∧ gf.length ≤ 30) := ⟨⟨hel.names, by rw [hgf]; exact Nat.le_trans (fltL_len _ _) Kgl.out.2⟩⟩
  have KgE : Kept (NameT (gf ++ [E0]) ∧ NameT (gf ++ [E0, E1]) ∧ NameT (gf ++ [E2])) := ⟨by
    rw [hE0, hE1, hE2]
    exact ⟨Kgn.out.1.append nameT_nil.cons, Kgn.out.1.append nameT_nil.cons.cons, Kgn.out.1.append nameT_nil.cons⟩⟩
  obtain ⟨b0, hb0⟩ := isK_ex u4 (gf ++ [E0])
  obtain ⟨b1, hb1⟩ := isK_ex u4 (gf ++ [E0, E1])
  obtain ⟨b2, hb2⟩ := isK_ex u4 (gf ++ [E2])
  have KI0 : Kept _ := ⟨hb0⟩
  have KI1 : Kept _ := ⟨hb1⟩
  have KI2 : Kept _ := ⟨hb2⟩
  rw [hE0] at hb0 hb1
  rw [hE1] at hb1
  rw [hE2] at hb2
  have hu4 := Ku4.out
  have hl4 := KlN.out.2.2.2.2
  have hA := hX.added
  have hM : Mute [109, 111, 114, 101] := mute_lit (by decide) (by decide)
  have F1 : Kept (Tells false (KnownS u4 (hadP b0) E2)) := ⟨by rw [hE2]; exact at_false (n := ts.length + 2) hb0 hu4 (by omega) (fun h => by have := hash_one hA hel _ h; omega)⟩
  have F2 : Kept (Tells false (KnownS u4 (hadP b0) E3)) := ⟨by rw [hE3]; exact at_false (n := ts.length + 3) hb0 hu4 (by omega) (fun h => by have := hash_one hA hel _ h; omega)⟩
  have hbo := hash_both hA hM (given := gf)
  have F3 : Kept (Tells true (KnownS u4 (hadP b1) E2)) := ⟨by rw [hE2]; exact at_true (n := ts.length + 2) hb1 hu4 hbo.1⟩
  have F4 : Kept (Tells true (KnownS u4 (hadP b1) E3)) := ⟨by rw [hE3]; exact at_true (n := ts.length + 3) hb1 hu4 hbo.2⟩
  have F5 : Kept (Tells true (KnownS u4 (hadP b2) E3)) := ⟨by rw [hE3]; exact at_true (n := ts.length + 3) hb2 hu4 (hash_hash hA hM)⟩
  have F6 : Kept (Tells false (KnownS u4 (hadP b2) E0)) := ⟨by rw [hE0]; exact at_false (n := ts.length) hb2 hu4 (by omega) (fun h => by have := hash_hash_not hA hel _ h; omega)⟩
  have F7 : Kept (Tells false (KnownS u4 (hadP b2) E1)) := ⟨by rw [hE1]; exact at_false (n := ts.length + 1) hb2 hu4 (by omega) (fun h => by have := hash_hash_not hA hel _ h; omega)⟩
  have KNm : Kept (∀ (M : Nat → Prop) (w3 : World), Tab tb wc.heap.size u4 M w3 → Below w.heap.size w w3 → Calls Tryd.prog 11 #[.pointer (some ⟨tb, 0, none⟩), u] w3 fun e w' => (∃ V, e = .returned V ∧ VRow w3.heap.size 9 (strs gl) V w') ∧ Below w3.heap.size w3 w') := ⟨fun M w3 hT q => by
    rw [hgl]
    exact namesD hT Ku4.out (IntsV.under KU.out q) Kty.out Ktl.out⟩
  obtain ⟨n, hn⟩ : ∃ n, n = gl.length := ⟨_, rfl⟩
  have Kn : Kept _ := ⟨hn⟩
  have hn30 : n ≤ 30 := by rw [hn]; exact Kgl.out.2
  have KTw2 : Kept _ := ⟨KT.out⟩
  have Kqw2 : Kept _ := ⟨Kq2.out⟩
  have KMy : Kept (Bytes [109, 111, 114, 101]) := ⟨bytes_of_all (by decide)⟩
  clear hX hgl hgf hel hb0 hb1 hb2 hu4 hl4 hA hbo hM hn hE0 hE1 hE2 hE3 KT Kq2
  go_wp2_with fail
  refine (Caa.out _).mono ?_
  rintro e w3 ⟨rfl, q⟩
  have KTw3 : Kept _ := ⟨KTw2.out.under q⟩
  have Kqw3 : Kept _ := ⟨Kqw2.out.trans (q.mono Kqw2.out.size)⟩
  clear q KTw2 Kqw2
  go_wp2_with fail

  refine (AtomE KTw3.out Oaa.out.bytes Oaa.out.max KsM.out P1.out rfl).mono ?_
  rintro e w4 ⟨rfl, hPu⟩
  obtain ⟨Mw4, hT, tu⟩ := hPu
  have KTw4 : Kept _ := ⟨hT⟩
  have Kqw4 : Kept _ := ⟨Kqw3.out.trans ((KTw3.out.below tu).mono Kqc.out.size)⟩
  clear hT tu KTw3 Kqw3
  go_wp2_with fail

  refine (Cba.out _).mono ?_
  rintro e w5 ⟨rfl, q⟩
  have KTw5 : Kept _ := ⟨KTw4.out.under q⟩
  have Kqw5 : Kept _ := ⟨Kqw4.out.trans (q.mono Kqw4.out.size)⟩
  clear q KTw4 Kqw4
  go_wp2_with fail

  refine (AtomE KTw5.out Oba.out.bytes Oba.out.max Ku1.out P2.out rfl).mono ?_
  rintro e w6 ⟨rfl, hPu⟩
  obtain ⟨Mw6, hT, tu⟩ := hPu
  have KTw6 : Kept _ := ⟨hT⟩
  have Kqw6 : Kept _ := ⟨Kqw5.out.trans ((KTw5.out.below tu).mono Kqc.out.size)⟩
  clear hT tu KTw5 Kqw5

  have bA := (Below.refl w6.heap.size w6).alloc (Nat.le_refl _) (.cells #[.string (strOf E0), .string (strOf E1)] 9)
  have KbA : Kept _ := ⟨bA⟩
  have KCA : Kept _ := ⟨HashE (KTw6.out.under bA) (fun l h => by simp only [List.mem_cons, List.not_mem_nil, or_false] at h; rcases h with rfl | rfl <;> first | exact KE0.out.1 | exact KE1.out.1) (new2 E0 E1 w6) (fun l h => by simp only [List.mem_cons, List.not_mem_nil, or_false] at h; rcases h with rfl | rfl <;> first | exact KE0.out.2.2 | exact KE1.out.2.2) Ku2.out P3.out⟩
  clear bA
  go_wp2_with (first | (refine wl_bs2 (by kernel_rfl) (.tmp 35) (.tmp 36) rfl (E0) (E1) (by kernel_rfl) (by kernel_rfl) ?_; simp only [Act.put, List.setIfInBounds_toArray, List.set_cons_succ, List.set_cons_zero]))
  refine KCA.out.mono ?_
  rintro e w7 ⟨rfl, hPu⟩
  obtain ⟨Mw7, hT, tu⟩ := hPu.from KbA.out
  have KTw7 : Kept _ := ⟨hT⟩
  have Kqw7 : Kept _ := ⟨Kqw6.out.trans ((KTw6.out.below tu).mono Kqc.out.size)⟩
  clear hPu hT tu KTw6 Kqw6 KbA KCA

  have bA := (Below.refl w7.heap.size w7).alloc (Nat.le_refl _) (.cells #[.string (strOf E2), .string (strOf [109, 111, 114, 101])] 9)
  have KbA : Kept _ := ⟨bA⟩
  have KCA : Kept _ := ⟨HashE (KTw7.out.under bA) (fun l h => by simp only [List.mem_cons, List.not_mem_nil, or_false] at h; rcases h with rfl | rfl <;> first | exact KE2.out.1 | exact KMy.out) (new2 E2 [109, 111, 114, 101] w7) (fun l h => by simp only [List.mem_cons, List.not_mem_nil, or_false] at h; rcases h with rfl | rfl <;> first | exact KE2.out.2.2 | decide) Ku3.out P4.out⟩
  clear bA
  go_wp2_with (first | (refine wl_bs2 (by kernel_rfl) (.tmp 40) (.const (.string ⟨#[109, 111, 114, 101]⟩)) rfl (E2) ([109, 111, 114, 101]) (by kernel_rfl) (by kernel_rfl) ?_; simp only [Act.put, List.setIfInBounds_toArray, List.set_cons_succ, List.set_cons_zero]))
  refine KCA.out.mono ?_
  rintro e wA ⟨rfl, hPu⟩
  obtain ⟨MwA, hT, tu⟩ := hPu.from KbA.out
  have KTwA : Kept _ := ⟨hT⟩
  have KqwA : Kept _ := ⟨Kqw7.out.trans ((KTw7.out.below tu).mono Kqc.out.size)⟩
  clear hPu hT tu KTw7 Kqw7 KbA KCA
  go_wp2_with fail

  refine (KNm.out _ _ KTwA.out KqwA.out).mono ?_
  rintro e wB ⟨⟨Vn, rfl, hVn⟩, q⟩
  have KVn' : Kept _ := ⟨vrow_vals hVn⟩
  have KTwB : Kept _ := ⟨KTwA.out.under q⟩
  have KqwB : Kept _ := ⟨KqwA.out.trans (q.mono KqwA.out.size)⟩
  obtain ⟨pn, cn, rfl, _⟩ := vals_form KVn'.out (show (strs gl).length = n by rw [strs_len, Kn.out])
  have KVn : Kept _ := ⟨KVn'.out⟩
  clear hVn q KTwA KqwA KVn' KNm
  go_wp2_with fail
  go_loopg [12, 48] n (fun g s12 s48 wr => ∃ i : Nat, i + g = n ∧ s48 = .int .i64 (i : Int) ∧ VRow wB.heap.size 9 (strs (fltL [E0, E1, E2, E3] (gl.take i))) s12 wr ∧ Below wB.heap.size wB wr)
  case atStart => exact ⟨0, by omega, rfl, vrow_nil _ _ _, Below.refl _ _⟩
  case round =>
    rename World => wz
    obtain ⟨i, hik, rfl, hr, hbz⟩ := hrel
    by_cases hk0 : gk = 0
    case neg =>
      have hin : i < n := by omega
      have hin' : (i : Int) < (n : Int) := by omega
      have hi1 : (i : Int) + 1 ≤ 9223372036854775807 := by omega
      obtain ⟨T, hT⟩ : ∃ T, gl[i]? = some T := ⟨_, List.getElem?_eq_getElem (by rw [← Kn.out]; exact hin)⟩
      obtain ⟨A, rfl, hA, hcell⟩ := vals_at (KVn.out.under hbz) (strs_get hT)
      have KC : Kept _ := ⟨hcell⟩
      have KTy : Kept (Bytes T) := ⟨Kgl.out.1.bytes T (List.mem_of_getElem? hT)⟩
      have Kst := fltL_snoc (es := [E0, E1, E2, E3]) hT
      have Kr : Kept _ := ⟨hr⟩
      have Kbz : Kept _ := ⟨hbz⟩
      have hd : T = E0 ∨ (T ≠ E0 ∧ T = E1) ∨ (T ≠ E0 ∧ T ≠ E1 ∧ T = E2) ∨ (T ≠ E0 ∧ T ≠ E1 ∧ T ≠ E2 ∧ T = E3) ∨ (T ≠ E0 ∧ T ≠ E1 ∧ T ≠ E2 ∧ T ≠ E3) := by
        by_cases d0 : T = E0
        · exact .inl d0
        by_cases d1 : T = E1
        · exact .inr (.inl ⟨d0, d1⟩)
        by_cases d2 : T = E2
        · exact .inr (.inr (.inl ⟨d0, d1, d2⟩))
        by_cases d3 : T = E3
        · exact .inr (.inr (.inr (.inl ⟨d0, d1, d2, d3⟩)))
        · exact .inr (.inr (.inr (.inr ⟨d0, d1, d2, d3⟩)))
      clear hcell hT hr hbz
      rcases hd with d | ⟨d0, d⟩ | ⟨d0, d1, d⟩ | ⟨d0, d1, d2, d⟩ | ⟨d0, d1, d2, d3⟩
      · have B0 : Kept (false = !decide (T = E0)) := ⟨by rw [decide_eq_true d]; rfl⟩
        have Ks : Kept (fltL [E0, E1, E2, E3] (gl.take (i + 1)) = fltL [E0, E1, E2, E3] (gl.take i)) := ⟨by rw [Kst, keepF_false (e := E0) (by simp) d]; simp⟩
        clear  d Kst
        go_wp2_with (first | ((with_reducible refine wv_val (d := 50) ?hd ?hw (.pointer (some (A.add i))) ?hr ?_); (case hd => rfl); (case hw => kernel_rfl); (case hr => intro w; exact run_idxS (c := cn) rfl (by kernel_rfl) (by kernel_rfl) Tryd.underlying29 hin Tryd.sizeOf9 w); simp only [Act.put, List.setIfInBounds_toArray, List.set_cons_succ, List.set_cons_zero]) | ((with_reducible refine wv_elem (d := 51) ?hd ?hw 9 ag_str (.tmp 50) ?ho (A.add i) ?hx (.string (strOf T)) ?hc ?_); (case hd => rfl); (case hw => kernel_rfl); (case ho => rfl); (case hx => kernel_rfl); (case hc => exact KC.out); simp only [Act.put, List.setIfInBounds_toArray, List.set_cons_succ, List.set_cons_zero]) | ((with_reducible refine wv_val (d := 54) ?hd ?hw (.bool false) ?hr ?_); (case hd => rfl); (case hw => kernel_rfl); (case hr => intro w; exact run_sneq rfl (by kernel_rfl) (by kernel_rfl) KTy.out KE0.out.1 B0.out w); simp only [Act.put, List.setIfInBounds_toArray, List.set_cons_succ, List.set_cons_zero]))
        go_roundg (gk - 1)
        case measure => omega
        case rel => exact ⟨i + 1, by omega, by simp, by rw [Ks.out]; exact Kr.out, Kbz.out⟩
      · have B0 : Kept (true = !decide (T = E0)) := ⟨by rw [decide_eq_false d0]; rfl⟩
        have B1 : Kept (false = !decide (T = E1)) := ⟨by rw [decide_eq_true d]; rfl⟩
        have Ks : Kept (fltL [E0, E1, E2, E3] (gl.take (i + 1)) = fltL [E0, E1, E2, E3] (gl.take i)) := ⟨by rw [Kst, keepF_false (e := E1) (by simp) d]; simp⟩
        clear d0 d Kst
        go_wp2_with (first | ((with_reducible refine wv_val (d := 50) ?hd ?hw (.pointer (some (A.add i))) ?hr ?_); (case hd => rfl); (case hw => kernel_rfl); (case hr => intro w; exact run_idxS (c := cn) rfl (by kernel_rfl) (by kernel_rfl) Tryd.underlying29 hin Tryd.sizeOf9 w); simp only [Act.put, List.setIfInBounds_toArray, List.set_cons_succ, List.set_cons_zero]) | ((with_reducible refine wv_elem (d := 51) ?hd ?hw 9 ag_str (.tmp 50) ?ho (A.add i) ?hx (.string (strOf T)) ?hc ?_); (case hd => rfl); (case hw => kernel_rfl); (case ho => rfl); (case hx => kernel_rfl); (case hc => exact KC.out); simp only [Act.put, List.setIfInBounds_toArray, List.set_cons_succ, List.set_cons_zero]) | ((with_reducible refine wv_val (d := 54) ?hd ?hw (.bool true) ?hr ?_); (case hd => rfl); (case hw => kernel_rfl); (case hr => intro w; exact run_sneq rfl (by kernel_rfl) (by kernel_rfl) KTy.out KE0.out.1 B0.out w); simp only [Act.put, List.setIfInBounds_toArray, List.set_cons_succ, List.set_cons_zero]) | ((with_reducible refine wv_val (d := 58) ?hd ?hw (.bool false) ?hr ?_); (case hd => rfl); (case hw => kernel_rfl); (case hr => intro w; exact run_sneq rfl (by kernel_rfl) (by kernel_rfl) KTy.out KE1.out.1 B1.out w); simp only [Act.put, List.setIfInBounds_toArray, List.set_cons_succ, List.set_cons_zero]))
        go_roundg (gk - 1)
        case measure => omega
        case rel => exact ⟨i + 1, by omega, by simp, by rw [Ks.out]; exact Kr.out, Kbz.out⟩
      · have B0 : Kept (true = !decide (T = E0)) := ⟨by rw [decide_eq_false d0]; rfl⟩
        have B1 : Kept (true = !decide (T = E1)) := ⟨by rw [decide_eq_false d1]; rfl⟩
        have B2 : Kept (false = !decide (T = E2)) := ⟨by rw [decide_eq_true d]; rfl⟩
        have Ks : Kept (fltL [E0, E1, E2, E3] (gl.take (i + 1)) = fltL [E0, E1, E2, E3] (gl.take i)) := ⟨by rw [Kst, keepF_false (e := E2) (by simp) d]; simp⟩
        clear d0 d1 d Kst
        go_wp2_with (first | ((with_reducible refine wv_val (d := 50) ?hd ?hw (.pointer (some (A.add i))) ?hr ?_); (case hd => rfl); (case hw => kernel_rfl); (case hr => intro w; exact run_idxS (c := cn) rfl (by kernel_rfl) (by kernel_rfl) Tryd.underlying29 hin Tryd.sizeOf9 w); simp only [Act.put, List.setIfInBounds_toArray, List.set_cons_succ, List.set_cons_zero]) | ((with_reducible refine wv_elem (d := 51) ?hd ?hw 9 ag_str (.tmp 50) ?ho (A.add i) ?hx (.string (strOf T)) ?hc ?_); (case hd => rfl); (case hw => kernel_rfl); (case ho => rfl); (case hx => kernel_rfl); (case hc => exact KC.out); simp only [Act.put, List.setIfInBounds_toArray, List.set_cons_succ, List.set_cons_zero]) | ((with_reducible refine wv_val (d := 54) ?hd ?hw (.bool true) ?hr ?_); (case hd => rfl); (case hw => kernel_rfl); (case hr => intro w; exact run_sneq rfl (by kernel_rfl) (by kernel_rfl) KTy.out KE0.out.1 B0.out w); simp only [Act.put, List.setIfInBounds_toArray, List.set_cons_succ, List.set_cons_zero]) | ((with_reducible refine wv_val (d := 58) ?hd ?hw (.bool true) ?hr ?_); (case hd => rfl); (case hw => kernel_rfl); (case hr => intro w; exact run_sneq rfl (by kernel_rfl) (by kernel_rfl) KTy.out KE1.out.1 B1.out w); simp only [Act.put, List.setIfInBounds_toArray, List.set_cons_succ, List.set_cons_zero]) | ((with_reducible refine wv_val (d := 63) ?hd ?hw (.bool false) ?hr ?_); (case hd => rfl); (case hw => kernel_rfl); (case hr => intro w; exact run_sneq rfl (by kernel_rfl) (by kernel_rfl) KTy.out KE2.out.1 B2.out w); simp only [Act.put, List.setIfInBounds_toArray, List.set_cons_succ, List.set_cons_zero]))
        go_roundg (gk - 1)
        case measure => omega
        case rel => exact ⟨i + 1, by omega, by simp, by rw [Ks.out]; exact Kr.out, Kbz.out⟩
      · have B0 : Kept (true = !decide (T = E0)) := ⟨by rw [decide_eq_false d0]; rfl⟩
        have B1 : Kept (true = !decide (T = E1)) := ⟨by rw [decide_eq_false d1]; rfl⟩
        have B2 : Kept (true = !decide (T = E2)) := ⟨by rw [decide_eq_false d2]; rfl⟩
        have B3 : Kept (false = !decide (T = E3)) := ⟨by rw [decide_eq_true d]; rfl⟩
        have Ks : Kept (fltL [E0, E1, E2, E3] (gl.take (i + 1)) = fltL [E0, E1, E2, E3] (gl.take i)) := ⟨by rw [Kst, keepF_false (e := E3) (by simp) d]; simp⟩
        clear d0 d1 d2 d Kst
        go_wp2_with (first | ((with_reducible refine wv_val (d := 50) ?hd ?hw (.pointer (some (A.add i))) ?hr ?_); (case hd => rfl); (case hw => kernel_rfl); (case hr => intro w; exact run_idxS (c := cn) rfl (by kernel_rfl) (by kernel_rfl) Tryd.underlying29 hin Tryd.sizeOf9 w); simp only [Act.put, List.setIfInBounds_toArray, List.set_cons_succ, List.set_cons_zero]) | ((with_reducible refine wv_elem (d := 51) ?hd ?hw 9 ag_str (.tmp 50) ?ho (A.add i) ?hx (.string (strOf T)) ?hc ?_); (case hd => rfl); (case hw => kernel_rfl); (case ho => rfl); (case hx => kernel_rfl); (case hc => exact KC.out); simp only [Act.put, List.setIfInBounds_toArray, List.set_cons_succ, List.set_cons_zero]) | ((with_reducible refine wv_val (d := 54) ?hd ?hw (.bool true) ?hr ?_); (case hd => rfl); (case hw => kernel_rfl); (case hr => intro w; exact run_sneq rfl (by kernel_rfl) (by kernel_rfl) KTy.out KE0.out.1 B0.out w); simp only [Act.put, List.setIfInBounds_toArray, List.set_cons_succ, List.set_cons_zero]) | ((with_reducible refine wv_val (d := 58) ?hd ?hw (.bool true) ?hr ?_); (case hd => rfl); (case hw => kernel_rfl); (case hr => intro w; exact run_sneq rfl (by kernel_rfl) (by kernel_rfl) KTy.out KE1.out.1 B1.out w); simp only [Act.put, List.setIfInBounds_toArray, List.set_cons_succ, List.set_cons_zero]) | ((with_reducible refine wv_val (d := 63) ?hd ?hw (.bool true) ?hr ?_); (case hd => rfl); (case hw => kernel_rfl); (case hr => intro w; exact run_sneq rfl (by kernel_rfl) (by kernel_rfl) KTy.out KE2.out.1 B2.out w); simp only [Act.put, List.setIfInBounds_toArray, List.set_cons_succ, List.set_cons_zero]) | ((with_reducible refine wv_val (d := 68) ?hd ?hw (.bool false) ?hr ?_); (case hd => rfl); (case hw => kernel_rfl); (case hr => intro w; exact run_sneq rfl (by kernel_rfl) (by kernel_rfl) KTy.out KE3.out.1 B3.out w); simp only [Act.put, List.setIfInBounds_toArray, List.set_cons_succ, List.set_cons_zero]))
        go_roundg (gk - 1)
        case measure => omega
        case rel => exact ⟨i + 1, by omega, by simp, by rw [Ks.out]; exact Kr.out, Kbz.out⟩
      · have B0 : Kept (true = !decide (T = E0)) := ⟨by rw [decide_eq_false d0]; rfl⟩
        have B1 : Kept (true = !decide (T = E1)) := ⟨by rw [decide_eq_false d1]; rfl⟩
        have B2 : Kept (true = !decide (T = E2)) := ⟨by rw [decide_eq_false d2]; rfl⟩
        have B3 : Kept (true = !decide (T = E3)) := ⟨by rw [decide_eq_false d3]; rfl⟩
        have Ks : Kept (fltL [E0, E1, E2, E3] (gl.take (i + 1)) = fltL [E0, E1, E2, E3] (gl.take i) ++ [T]) := ⟨by
          rw [Kst, keepF_true (fun e he => by
            simp only [List.mem_cons, List.not_mem_nil, or_false] at he
            rcases he with rfl | rfl | rfl | rfl
            · exact d0
            · exact d1
            · exact d2
            · exact d3)]
          simp⟩
        have b6 := (Below.refl wz.heap.size wz).alloc (Nat.le_refl _) (.cells #[.string (strOf T)] 9)
        have Kr6 : Kept _ := ⟨Kr.out.under b6⟩
        have K1 : Kept _ := ⟨one_new T wz⟩
        have Kh6 : Kept (wB.heap.size ≤ (wz.alloc (.cells #[.string (strOf T)] 9)).heap.size) := ⟨Nat.le_trans Kbz.out.size b6.size⟩
        have Kb6 : Kept _ := ⟨Kbz.out.trans (b6.mono Kbz.out.size)⟩
        have K1c : Kept (∀ x ∈ ([Value.string (strOf T)] : List Value), x.oneCell' = true) := ⟨fun x hx => by simp at hx; subst hx; rfl⟩
        have Kap : Kept ((strs (fltL [E0, E1, E2, E3] (gl.take i))).length + ([Value.string (strOf T)] : List Value).length ≤ 1099511627776) := ⟨by
          rw [strs_len]
          have := fltL_len [E0, E1, E2, E3] (gl.take i)
          rw [List.length_take] at this
          simp
          omega⟩
        clear b6
        clear d0 d1 d2 d3 Kst
        go_wp2_with (first | ((with_reducible refine wv_val (d := 50) ?hd ?hw (.pointer (some (A.add i))) ?hr ?_); (case hd => rfl); (case hw => kernel_rfl); (case hr => intro w; exact run_idxS (c := cn) rfl (by kernel_rfl) (by kernel_rfl) Tryd.underlying29 hin Tryd.sizeOf9 w); simp only [Act.put, List.setIfInBounds_toArray, List.set_cons_succ, List.set_cons_zero]) | ((with_reducible refine wv_elem (d := 51) ?hd ?hw 9 ag_str (.tmp 50) ?ho (A.add i) ?hx (.string (strOf T)) ?hc ?_); (case hd => rfl); (case hw => kernel_rfl); (case ho => rfl); (case hx => kernel_rfl); (case hc => exact KC.out); simp only [Act.put, List.setIfInBounds_toArray, List.set_cons_succ, List.set_cons_zero]) | ((with_reducible refine wv_val (d := 54) ?hd ?hw (.bool true) ?hr ?_); (case hd => rfl); (case hw => kernel_rfl); (case hr => intro w; exact run_sneq rfl (by kernel_rfl) (by kernel_rfl) KTy.out KE0.out.1 B0.out w); simp only [Act.put, List.setIfInBounds_toArray, List.set_cons_succ, List.set_cons_zero]) | ((with_reducible refine wv_val (d := 58) ?hd ?hw (.bool true) ?hr ?_); (case hd => rfl); (case hw => kernel_rfl); (case hr => intro w; exact run_sneq rfl (by kernel_rfl) (by kernel_rfl) KTy.out KE1.out.1 B1.out w); simp only [Act.put, List.setIfInBounds_toArray, List.set_cons_succ, List.set_cons_zero]) | ((with_reducible refine wv_val (d := 63) ?hd ?hw (.bool true) ?hr ?_); (case hd => rfl); (case hw => kernel_rfl); (case hr => intro w; exact run_sneq rfl (by kernel_rfl) (by kernel_rfl) KTy.out KE2.out.1 B2.out w); simp only [Act.put, List.setIfInBounds_toArray, List.set_cons_succ, List.set_cons_zero]) | ((with_reducible refine wv_val (d := 68) ?hd ?hw (.bool true) ?hr ?_); (case hd => rfl); (case hw => kernel_rfl); (case hr => intro w; exact run_sneq rfl (by kernel_rfl) (by kernel_rfl) KTy.out KE3.out.1 B3.out w); simp only [Act.put, List.setIfInBounds_toArray, List.set_cons_succ, List.set_cons_zero]) | (refine wl_build1S rfl (.tmp 71) rfl T (by kernel_rfl) ?_; simp only [Act.put, List.setIfInBounds_toArray, List.set_cons_succ, List.set_cons_zero]) | ((refine wl_appV (by kernel_rfl) (.tmp 70) (.tmp 72) 29 9 (.string .empty) 16 rfl Tryd.underlying29 inf_str rfl (by decide) wB.heap.size _ [.string (strOf T)] _ _ (by kernel_rfl) (by kernel_rfl) Kr6.out K1.out K1c.out Kap.out Kh6.out ?_); intro v' w7 hr' hg' hne'; simp only [Act.put, List.setIfInBounds_toArray, List.set_cons_succ, List.set_cons_zero]))
        go_roundg (gk - 1)
        case measure => omega
        case rel =>
          refine ⟨i + 1, by omega, by simp, ?_, Kb6.out.trans (grown_mono hg' Kh6.out (fun b hb => (Kr6.out.range b hb).1))⟩
          rw [Ks.out, strs_append]
          exact hr'
    case pos =>
      obtain rfl : n = i := by omega
      have et : gl.take n = gl := List.take_of_length_le (by rw [Kn.out]; exact Nat.le_refl _)
      rw [et, Kgf.out] at hr
      have KRwz : Kept _ := ⟨hr⟩
      have Kbwz : Kept _ := ⟨hbz⟩
      clear hr hbz et

      have bA := (Below.refl wz.heap.size wz).alloc (Nat.le_refl _) (.cells #[.string (strOf E0)] 9)
      have KRa : Kept _ := ⟨KRwz.out.under bA⟩
      have KXa : Kept _ := ⟨new1 E0 wz⟩
      have KHa : Kept (wB.heap.size ≤ (wz.alloc (.cells #[.string (strOf E0)] 9)).heap.size) := ⟨Nat.le_trans Kbwz.out.size bA.size⟩
      have Kba : Kept _ := ⟨Kbwz.out.trans (bA.mono Kbwz.out.size)⟩
      clear bA KRwz Kbwz 
      go_wp2_with (first | (refine wl_bs1 (by kernel_rfl) (.tmp 77) rfl (E0) (by kernel_rfl) ?_; simp only [Act.put, List.setIfInBounds_toArray, List.set_cons_succ, List.set_cons_zero]) | ((refine wl_appK (by kernel_rfl) (.tmp 76) (.tmp 78) rfl wB.heap.size gf [E0] _ _ (by kernel_rfl) (by kernel_rfl) KRa.out KXa.out (by simp) (by have := Kgn.out.2; simp; omega) KHa.out ?_); intro vN wN hrN hgN hkN; simp only [Act.put, List.setIfInBounds_toArray, List.set_cons_succ, List.set_cons_zero]))
      have qN : Below wB.heap.size wB wN := Kba.out.trans (grown_mono hgN KHa.out (fun b hb => (KRa.out.range b hb).1))
      have KNw : Kept _ := ⟨NewGA (KTwB.out.under qN) Ku4t.out.1 Ku4t.out.2 (vrow_vals hrN) KgE.out.1 (by have := Kgn.out.2; simp; omega) KI0.out⟩
      have KRn : Kept _ := ⟨hkN⟩
      have Kbn : Kept _ := ⟨qN⟩
      have Krow0 : Kept (∀ k, blkOf u12 = some k → k < wN.heap.size) := ⟨fun k hk => (hkN.range k hk).2⟩
      clear hrN hgN hkN qN KRa KXa KHa Kba 
      refine KNw.out.mono ?_
      rintro e wD ⟨⟨s0, rfl, hS⟩, q⟩
      have KRwD : Kept _ := ⟨KRn.out.under q⟩
      have KbwD : Kept _ := ⟨Kbn.out.trans (q.mono Kbn.out.size)⟩
      have KS0wD : Kept _ := ⟨hS⟩
      clear hS q KNw KRn Kbn 

      have bA := (Below.refl wD.heap.size wD).alloc (Nat.le_refl _) (.cells #[.string (strOf E0), .string (strOf E1)] 9)
      have KRa : Kept _ := ⟨KRwD.out.under bA⟩
      have KXa : Kept _ := ⟨new2 E0 E1 wD⟩
      have KHa : Kept (wB.heap.size ≤ (wD.alloc (.cells #[.string (strOf E0), .string (strOf E1)] 9)).heap.size) := ⟨Nat.le_trans KbwD.out.size bA.size⟩
      have Kba : Kept _ := ⟨KbwD.out.trans (bA.mono KbwD.out.size)⟩
      have KS0a : Kept _ := ⟨KS0wD.out.under bA⟩
      clear bA KRwD KbwD KS0wD
      go_wp2_with (first | (refine wl_bs2 (by kernel_rfl) (.tmp 83) (.tmp 84) rfl (E0) (E1) (by kernel_rfl) (by kernel_rfl) ?_; simp only [Act.put, List.setIfInBounds_toArray, List.set_cons_succ, List.set_cons_zero]) | ((refine wl_appK (by kernel_rfl) (.tmp 82) (.tmp 85) rfl wB.heap.size gf [E0, E1] _ _ (by kernel_rfl) (by kernel_rfl) KRa.out KXa.out (by simp) (by have := Kgn.out.2; simp; omega) KHa.out ?_); intro vN wN hrN hgN hkN; simp only [Act.put, List.setIfInBounds_toArray, List.set_cons_succ, List.set_cons_zero]))
      have qN : Below wB.heap.size wB wN := Kba.out.trans (grown_mono hgN KHa.out (fun b hb => (KRa.out.range b hb).1))
      have KS0n : Kept _ := ⟨KS0a.out.grown hgN Krow0.out⟩
      have KNw : Kept _ := ⟨NewGA (KTwB.out.under qN) Ku4t.out.1 Ku4t.out.2 (vrow_vals hrN) KgE.out.2.1 (by have := Kgn.out.2; simp; omega) KI1.out⟩
      have KRn : Kept _ := ⟨hkN⟩
      have Kbn : Kept _ := ⟨qN⟩
      have Krow1 : Kept (∀ k, blkOf u12 = some k → k < wN.heap.size) := ⟨fun k hk => (hkN.range k hk).2⟩
      clear hrN hgN hkN qN KRa KXa KHa Kba KS0a
      refine KNw.out.mono ?_
      rintro e wE ⟨⟨s1, rfl, hS⟩, q⟩
      have KRwE : Kept _ := ⟨KRn.out.under q⟩
      have KbwE : Kept _ := ⟨Kbn.out.trans (q.mono Kbn.out.size)⟩
      have KS1wE : Kept _ := ⟨hS⟩
      have KS0wE : Kept _ := ⟨KS0n.out.under q⟩
      clear hS q KNw KRn Kbn KS0n

      have bA := (Below.refl wE.heap.size wE).alloc (Nat.le_refl _) (.cells #[.string (strOf E2)] 9)
      have KRa : Kept _ := ⟨KRwE.out.under bA⟩
      have KXa : Kept _ := ⟨new1 E2 wE⟩
      have KHa : Kept (wB.heap.size ≤ (wE.alloc (.cells #[.string (strOf E2)] 9)).heap.size) := ⟨Nat.le_trans KbwE.out.size bA.size⟩
      have Kba : Kept _ := ⟨KbwE.out.trans (bA.mono KbwE.out.size)⟩
      have KS0a : Kept _ := ⟨KS0wE.out.under bA⟩
      have KS1a : Kept _ := ⟨KS1wE.out.under bA⟩
      clear bA KRwE KbwE KS0wE KS1wE
      go_wp2_with (first | (refine wl_bs1 (by kernel_rfl) (.tmp 90) rfl (E2) (by kernel_rfl) ?_; simp only [Act.put, List.setIfInBounds_toArray, List.set_cons_succ, List.set_cons_zero]) | ((refine wl_appK (by kernel_rfl) (.tmp 89) (.tmp 91) rfl wB.heap.size gf [E2] _ _ (by kernel_rfl) (by kernel_rfl) KRa.out KXa.out (by simp) (by have := Kgn.out.2; simp; omega) KHa.out ?_); intro vN wN hrN hgN hkN; simp only [Act.put, List.setIfInBounds_toArray, List.set_cons_succ, List.set_cons_zero]))
      have qN : Below wB.heap.size wB wN := Kba.out.trans (grown_mono hgN KHa.out (fun b hb => (KRa.out.range b hb).1))
      have KS0n : Kept _ := ⟨KS0a.out.grown hgN Krow0.out⟩
      have KS1n : Kept _ := ⟨KS1a.out.grown hgN Krow1.out⟩
      have KNw : Kept _ := ⟨NewGA (KTwB.out.under qN) Ku4t.out.1 Ku4t.out.2 (vrow_vals hrN) KgE.out.2.2 (by have := Kgn.out.2; simp; omega) KI2.out⟩
      have KRn : Kept _ := ⟨hkN⟩
      have Kbn : Kept _ := ⟨qN⟩
      have Krow2 : Kept (∀ k, blkOf u12 = some k → k < wN.heap.size) := ⟨fun k hk => (hkN.range k hk).2⟩
      clear hrN hgN hkN qN KRa KXa KHa Kba KS0a KS1a
      refine KNw.out.mono ?_
      rintro e wF ⟨⟨s2, rfl, hS⟩, q⟩
      have KRwF : Kept _ := ⟨KRn.out.under q⟩
      have KbwF : Kept _ := ⟨Kbn.out.trans (q.mono Kbn.out.size)⟩
      have KS2wF : Kept _ := ⟨hS⟩
      have KS0wF : Kept _ := ⟨KS0n.out.under q⟩
      have KS1wF : Kept _ := ⟨KS1n.out.under q⟩
      clear hS q KNw KRn Kbn KS0n KS1n

      go_wp2_with fail
      refine (HasD KS0wF.out.set Ku4.out KE2.out.1 KE2.out.2.1 F1.out).mono ?_
      rintro e g0 ⟨rfl, q⟩
      have Kbg0 : Kept _ := ⟨KbwF.out.trans (q.mono KbwF.out.size)⟩
      have KS0g0 : Kept _ := ⟨KS0wF.out.under q⟩
      have KS1g0 : Kept _ := ⟨KS1wF.out.under q⟩
      have KS2g0 : Kept _ := ⟨KS2wF.out.under q⟩
      clear q KbwF KS0wF KS1wF KS2wF
      go_wp2_with fail
      refine (HasD KS0g0.out.set Ku4.out KE3.out.1 KE3.out.2.1 F2.out).mono ?_
      rintro e g1 ⟨rfl, q⟩
      have Kbg1 : Kept _ := ⟨Kbg0.out.trans (q.mono Kbg0.out.size)⟩
      have KS0g1 : Kept _ := ⟨KS0g0.out.under q⟩
      have KS1g1 : Kept _ := ⟨KS1g0.out.under q⟩
      have KS2g1 : Kept _ := ⟨KS2g0.out.under q⟩
      clear q Kbg0 KS0g0 KS1g0 KS2g0
      go_wp2_with fail
      refine (HasD KS1g1.out.set Ku4.out KE2.out.1 KE2.out.2.1 F3.out).mono ?_
      rintro e g2 ⟨rfl, q⟩
      have Kbg2 : Kept _ := ⟨Kbg1.out.trans (q.mono Kbg1.out.size)⟩
      have KS0g2 : Kept _ := ⟨KS0g1.out.under q⟩
      have KS1g2 : Kept _ := ⟨KS1g1.out.under q⟩
      have KS2g2 : Kept _ := ⟨KS2g1.out.under q⟩
      clear q Kbg1 KS0g1 KS1g1 KS2g1
      go_wp2_with fail
      refine (HasD KS1g2.out.set Ku4.out KE3.out.1 KE3.out.2.1 F4.out).mono ?_
      rintro e g3 ⟨rfl, q⟩
      have Kbg3 : Kept _ := ⟨Kbg2.out.trans (q.mono Kbg2.out.size)⟩
      have KS0g3 : Kept _ := ⟨KS0g2.out.under q⟩
      have KS1g3 : Kept _ := ⟨KS1g2.out.under q⟩
      have KS2g3 : Kept _ := ⟨KS2g2.out.under q⟩
      clear q Kbg2 KS0g2 KS1g2 KS2g2
      go_wp2_with fail
      refine (HasD KS2g3.out.set Ku4.out KE3.out.1 KE3.out.2.1 F5.out).mono ?_
      rintro e g4 ⟨rfl, q⟩
      have Kbg4 : Kept _ := ⟨Kbg3.out.trans (q.mono Kbg3.out.size)⟩
      have KS0g4 : Kept _ := ⟨KS0g3.out.under q⟩
      have KS1g4 : Kept _ := ⟨KS1g3.out.under q⟩
      have KS2g4 : Kept _ := ⟨KS2g3.out.under q⟩
      clear q Kbg3 KS0g3 KS1g3 KS2g3
      go_wp2_with fail
      refine (HasD KS2g4.out.set Ku4.out KE0.out.1 KE0.out.2.1 F6.out).mono ?_
      rintro e g5 ⟨rfl, q⟩
      have Kbg5 : Kept _ := ⟨Kbg4.out.trans (q.mono Kbg4.out.size)⟩
      have KS0g5 : Kept _ := ⟨KS0g4.out.under q⟩
      have KS1g5 : Kept _ := ⟨KS1g4.out.under q⟩
      have KS2g5 : Kept _ := ⟨KS2g4.out.under q⟩
      clear q Kbg4 KS0g4 KS1g4 KS2g4
      go_wp2_with fail
      refine (HasD KS2g5.out.set Ku4.out KE1.out.1 KE1.out.2.1 F7.out).mono ?_
      rintro e g6 ⟨rfl, q⟩
      have Kbg6 : Kept _ := ⟨Kbg5.out.trans (q.mono Kbg5.out.size)⟩
      have KS0g6 : Kept _ := ⟨KS0g5.out.under q⟩
      have KS1g6 : Kept _ := ⟨KS1g5.out.under q⟩
      have KS2g6 : Kept _ := ⟨KS2g5.out.under q⟩
      clear q Kbg5 KS0g5 KS1g5 KS2g5
      go_wp2_with fail
      go_ret
      exact ⟨rfl, KqwB.out.trans (Kbg6.out.mono KqwB.out.size)⟩
end Go.Proofs.YtniogaimhkcedaaDoor.sh
