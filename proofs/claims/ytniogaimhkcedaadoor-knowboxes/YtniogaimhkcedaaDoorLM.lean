/-
  KnowNothing.
-/
import Derived.Test.YtniogaimhkcedaaDoorLL
namespace Go.Proofs.YtniogaimhkcedaaDoor.sh
open Go Go.RowKit
set_option linter.unusedVariables false
set_option linter.unusedSimpArgs false

theorem mute_lit {s : List Nat} (h : s.length ≠ 32) (h2 : s[0]? ≠ some 1) : Mute s := mute_of (fun N => find_len h) (split_head h2)
theorem prefix_at {ts us : List TermL} (h : ts <+: us) {i : Nat} {t : TermL} (ht : ts[i]? = some t) : us[i]? = some t := by
  obtain ⟨m, rfl⟩ := h
  rw [List.getElem?_append_left (List.getElem?_eq_some_iff.1 ht).1]
  exact ht
def hashO : TermL := (4, [[111, 102], [116, 101, 120, 116, 115], [97, 108, 111, 110, 101]])
def hashK : TermL := (4, [[107, 101, 121]])
theorem fits_small {ll : List (List Nat)} (h : ll.length ≤ 5) (h2 : ∀ l ∈ ll, l.length ≤ 400) : Fits ll := by
  refine ⟨by omega, fun l hl => by have := h2 l hl; omega, ?_⟩
  rw [itemsL_len]
  have : ∀ m : List (List Nat), (∀ l ∈ m, l.length ≤ 400) → (m.map fun l => l.length + 2).sum ≤ 402 * m.length := fun m => by
    induction m with
    | nil => intro _; simp
    | cons x m ih =>
      intro h
      have h1 := h x List.mem_cons_self
      have h2 := ih (fun l hl => h l (List.mem_cons_of_mem _ hl))
      rw [List.map_cons, List.sum_cons, List.length_cons]
      omega
  have := this ll h2
  omega
theorem all_bytes {ll : List (List Nat)} (h : ll.all (fun l => l.all (fun x => decide (x < 256))) = true) : ∀ l ∈ ll, Bytes l := fun l hl => bytes_of_all fun x hx => by
  have h1 := List.all_eq_true.1 h l hl
  have h2 := List.all_eq_true.1 h1 x hx
  simpa using h2
theorem all_max {ll : List (List Nat)} (h : ll.all (fun l => decide (l.length ≤ 400)) = true) : ∀ l ∈ ll, l.length ≤ maxLen := fun l hl => by
  have h1 := List.all_eq_true.1 h l hl
  have h2 : l.length ≤ 400 := by simpa using h1
  unfold maxLen
  omega
/-- What the statement adds to a table, and that it is known by nobody told anything. -/
structure Texts (ts u1 u2 u3 : List TermL) (N1 N2 N3 : List Nat) : Prop where
  p1 : putL ts hashO = (u1, N1)
  p2 : putL u1 hashK = (u2, N2)
  p3 : putL u2 (5, [N2, numL 1, [], [116, 101, 120, 116]]) = (u3, N3)
  terms : TermsB u3
  len : u3.length ≤ ts.length + 3
  names : NameT [N1, N2, N3]
  l1 : u1.length ≤ ts.length + 1
  l2 : u2.length ≤ ts.length + 2
  known : ∀ b, IsK u3 [] b → KnownS u3 (hadP b) N1 ∧ KnownS u3 (hadP b) N2 ∧ KnownS u3 (hadP b) N3
theorem texts {ts : List TermL} (hK : TermsB ts) (hl : ts.length ≤ 1000) : ∃ u1 u2 u3 N1 N2 N3, Texts ts u1 u2 u3 N1 N2 N3 := by
  have f1 : Fits hashO.2 := fits_small (by decide) (by decide)
  have f2 : Fits hashK.2 := fits_small (by decide) (by decide)
  obtain ⟨j1, e1, g1, i1⟩ := putL_at (ts := ts) f1
  obtain ⟨j2, e2, g2, i2⟩ := putL_at (ts := (putL ts hashO).1) f2
  have f3 : Fits [(putL (putL ts hashO).1 hashK).2, numL 1, [], [116, 101, 120, 116]] := fits_small (by simp) (fun l hl => by
    simp only [List.mem_cons, List.not_mem_nil, or_false] at hl
    rcases hl with rfl | rfl | rfl | rfl
    · rw [e2, termN_len]; decide
    · decide
    · decide
    · decide)
  obtain ⟨j3, e3, g3, i3⟩ := putL_at (ts := (putL (putL ts hashO).1 hashK).1) (t := (5, [(putL (putL ts hashO).1 hashK).2, numL 1, [], [116, 101, 120, 116]])) f3
  have b1 := hK.put (t := hashO) ⟨all_bytes (by decide), .inr (.inr (.inr (.inl rfl)))⟩ (fun e => by cases e)
  have b2 := b1.put (t := hashK) ⟨all_bytes (by decide), .inr (.inr (.inr (.inl rfl)))⟩ (fun e => by cases e)
  have b3 := b2.put (t := (5, [(putL (putL ts hashO).1 hashK).2, numL 1, [], [116, 101, 120, 116]])) ⟨fun p hp => by
    simp only [List.mem_cons, List.not_mem_nil, or_false] at hp
    rcases hp with rfl | rfl | rfl | rfl
    · rw [e2]; exact termN_bytes _
    · exact numL_bytes _
    · exact nil_bytes
    · exact bytes_of_all (by decide), .inr (.inr (.inr (.inr rfl)))⟩ (fun _ => ⟨_, _, _, _, rfl⟩)
  have l1 := putL_len ts hashO
  have l2 := putL_len (putL ts hashO).1 hashK
  have l3 := putL_len (putL (putL ts hashO).1 hashK).1 (5, [(putL (putL ts hashO).1 hashK).2, numL 1, [], [116, 101, 120, 116]])
  have q2 := putL_grows (putL ts hashO).1 hashK
  have q3 := putL_grows (putL (putL ts hashO).1 hashK).1 (5, [(putL (putL ts hashO).1 hashK).2, numL 1, [], [116, 101, 120, 116]])
  have h1 := prefix_at q3 (prefix_at q2 g1)
  have h2 := prefix_at q3 g2
  have e2' := e2
  rw [e2] at f3 e3 g3 i3 b3 l3 q3 h1 h2
  generalize hu3 : putL (putL (putL ts hashO).1 hashK).1 (5, [termN (j2 + 1), numL 1, [], [116, 101, 120, 116]]) = u3 at *
  obtain ⟨us, N3⟩ := u3
  have h9 : us.length < 1000000 := by simp only at l3; omega
  refine ⟨(putL ts hashO).1, (putL (putL ts hashO).1 hashK).1, us, termN (j1 + 1), termN (j2 + 1), N3, ⟨?_, ?_, hu3, b3, by simp only at l3; omega, fun s hs => ?_, l1, by omega, fun b hb => ?_⟩⟩
  · rw [← e1]
  · rw [← e2']
  · simp only [List.mem_cons, List.not_mem_nil, or_false] at hs
    rcases hs with rfl | rfl | rfl
    · exact ⟨_, rfl⟩
    · exact ⟨_, rfl⟩
    · exact ⟨_, e3⟩
  · have m : ∀ {s : List Nat} {H : Nat → Prop}, s.length ≠ 32 → s[0]? ≠ some 1 → KnownS us H s := fun h1 h2 => (mute_lit h1 h2).known h9
    have k1 : KN us [] j1 := (kn_closed us []).made j1 _ h1 (.hash fun p hp => by
      simp only [List.mem_cons, List.not_mem_nil, or_false] at hp
      rcases hp with rfl | rfl | rfl <;> exact m (by decide) (by decide))
    have k2 : KN us [] j2 := (kn_closed us []).made j2 _ h2 (.hash fun p hp => by
      simp only [List.mem_cons, List.not_mem_nil, or_false] at hp
      rcases hp with rfl
      exact m (by decide) (by decide))
    have a1 : j1 < us.length := (List.getElem?_eq_some_iff.1 h1).1
    have a2 : j2 < us.length := (List.getElem?_eq_some_iff.1 h2).1
    have k3 : KN us [] j3 := (kn_closed us []).made j3 _ g3 (.box ((known_at h9 a2).2 k2) (m (by decide) (by decide)) (m (by decide) (by decide)))
    refine ⟨(known_at h9 a1).2 ((hb.2 _).2 k1), (known_at h9 a2).2 ((hb.2 _).2 k2), ?_⟩
    rw [show N3 = termN (j3 + 1) from e3]
    exact (known_at h9 i3).2 ((hb.2 _).2 k3)
set_option maxRecDepth 100000 in
set_option maxHeartbeats 8000000 in
theorem nothing10 (v : Value) (l : List ActK) (w : World) (hv : ActV v w l) (hok : ∀ x ∈ l, ActKOk x) (hZ : l.length * 32 ≤ reachBytes) :
    Calls Tryd.prog 5 #[v] w fun e w' => e = .returned (.bool true) ∧ Below w.heap.size w w' := by
  have KAl : Kept _ := ⟨alive10 w⟩
  have KV : Kept _ := ⟨hv⟩
  have KO : Kept (∀ x ∈ l, ActKOk x) := ⟨hok⟩
  clear hv hok hZ
  go_enter Tryd.func5, Tryd.ntmps5
  go_wp2_with fail
  refine KAl.out.mono ?_
  rintro e w1 ⟨rfl, q1⟩
  have Kq1 : Kept _ := ⟨q1⟩
  clear q1 KAl
  go_wp2_with fail
  refine (madeK (KV.out.under Kq1.out) KO.out).mono ?_
  rintro e w2 ⟨⟨tb, M, Vm, rfl, hT, hS⟩, q2⟩
  have Kts : Kept (TermsK (actsK [] (l.take 30)) ∧ (actsK [] (l.take 30)).length ≤ 30) := ⟨termsK_nil.acts (fun x hx => (KO.out x (List.mem_of_mem_take hx)).s), by
    have := actsK_len (l.take 30) []
    rw [List.length_take] at this
    have h0 : ([] : List TermL).length = 0 := rfl
    omega⟩
  generalize actsK [] (l.take 30) = ts at *
  have Kq2 : Kept _ := ⟨Kq1.out.trans (q2.mono Kq1.out.size)⟩
  obtain ⟨N, hN⟩ : ∃ N, N = ts.length := ⟨_, rfl⟩
  obtain ⟨pm, cm, rfl, _⟩ := ts_form hS hN.symm
  have KN : Kept _ := ⟨hN⟩
  have hN30 : N ≤ 30 := by rw [hN]; exact Kts.out.2
  have KsM : Kept (ts.length < 1000000) := ⟨by omega⟩
  have KT : Kept _ := ⟨hT⟩
  have KS : Kept _ := ⟨hS⟩
  clear q2 hT hS hN
  have KtN : Kept (ts.length ≤ 1000) := ⟨by have := Kts.out.2; omega⟩
  obtain ⟨b, hb⟩ := isK_ex ts []
  have Kb : Kept _ := ⟨hb⟩
  have KNe : Kept _ := ⟨NewG KT.out Kts.out.1.toB KtN.out (vals_nil w2) nameT_nil (by decide) hb⟩
  clear hb
  go_wp2_with fail
  refine KNe.out.mono ?_
  rintro e w3 ⟨⟨sb, rfl, hSb⟩, q3⟩
  have KSb : Kept _ := ⟨hSb⟩
  have KT3 : Kept _ := ⟨KT.out.under q3⟩
  have KS3 : Kept _ := ⟨KS.out.under q3⟩
  have Kq3 : Kept _ := ⟨Kq2.out.trans (q3.mono Kq2.out.size)⟩
  clear hSb q3 KNe KT KS Kq2
  go_wp2_with fail
  refine (AllD KT3.out KsM.out).mono ?_
  rintro e w4 ⟨⟨Va, rfl, hVa⟩, q4⟩
  obtain ⟨pa, ca, rfl, _⟩ := vals_form (vrow_vals hVa) (show (strs (namesL ts.length)).length = N by rw [strs_len, namesL_len, KN.out])
  have KVa : Kept _ := ⟨vrow_vals hVa⟩
  have KSb4 : Kept _ := ⟨KSb.out.under q4⟩
  have KT4 : Kept _ := ⟨KT3.out.under q4⟩
  have KS4 : Kept _ := ⟨KS3.out.under q4⟩
  have Kq4 : Kept _ := ⟨Kq3.out.trans (q4.mono Kq3.out.size)⟩
  clear hVa q4 KSb KT3 KS3 Kq3
  go_wp2_with fail
  go_loopg [28] N (fun g s28 wr => ∃ i : Nat, i + g = N ∧ s28 = .int .i64 (i : Int) ∧ Below w4.heap.size w4 wr)
  case atStart => exact ⟨0, by omega, rfl, Below.refl _ _⟩
  case round =>
    rename World => wz
    obtain ⟨i, hik, rfl, hbz⟩ := hrel
    by_cases hk0 : gk = 0
    case neg =>
      have hin : i < N := by omega
      have hin' : (i : Int) < (N : Int) := by omega
      have hi1 : (i : Int) + 1 ≤ 9223372036854775807 := by omega
      obtain ⟨A, rfl, hA, hcell⟩ := vals_at (KVa.out.under hbz) (strs_get (namesL_get (i := i) (by rw [← KN.out]; exact hin)))
      obtain ⟨t, ht⟩ : ∃ t, ts[i]? = some t := ⟨_, List.getElem?_eq_getElem (by rw [← KN.out]; exact hin)⟩
      obtain ⟨k, ll⟩ := t
      obtain ⟨A3, U2, rfl, hA3, hc0, _, _⟩ := ts_at (KS4.out.under hbz) ht
      obtain ⟨bx, hbx⟩ : ∃ bx, b[i]? = some bx := ⟨_, List.getElem?_eq_getElem (by rw [Kb.out.1, ← KN.out]; exact hin)⟩
      have hf := has_name KsM.out (by rw [← KN.out]; exact hin) hbx
      obtain ⟨T, hT⟩ : ∃ T, T = termN (i + 1) := ⟨_, rfl⟩
      rw [← hT] at hcell hf
      have KHa : Kept (∀ w1, Below wz.heap.size wz w1 → _) := ⟨fun w1 q => HasD (s := T) ((KSb4.out.under hbz).under q) KsM.out (by rw [hT]; exact termN_bytes _) (by rw [hT, termN_len]; decide) hf⟩
      have Kno : Kept (k = 1 → bx = false) := ⟨fun hk => by
        subst hk
        have := Kb.out.none ht
        cases bx with
        | false => rfl
        | true => exact absurd hbx this⟩
      have KC : Kept _ := ⟨hcell⟩
      have K0 : Kept _ := ⟨hc0⟩
      have Kbz : Kept _ := ⟨hbz⟩
      clear hcell hbx hc0 hf hT hbz ht
      by_cases hk1 : k = 1
      case pos =>
        have B1 : Kept (true = decide (k = 1)) := ⟨(decide_eq_true hk1).symm⟩
        have hbx := Kno.out hk1
        subst hbx
        clear hk1 Kno
        go_wp2_with (first | ((with_reducible refine wv_val (d := 31) ?hd ?hw (.pointer (some (A.add i))) ?hr ?_); (case hd => rfl); (case hw => kernel_rfl); (case hr => intro w; exact run_idxS (c := ca) rfl (by kernel_rfl) (by kernel_rfl) Tryd.underlying29 hin Tryd.sizeOf9 w); simp only [Act.put, List.setIfInBounds_toArray, List.set_cons_succ, List.set_cons_zero]) | ((with_reducible refine wv_elem (d := 32) ?hd ?hw 9 ag_str (.tmp 31) ?ho (A.add i) ?hx (.string (strOf T)) ?hc ?_); (case hd => rfl); (case hw => kernel_rfl); (case ho => rfl); (case hx => kernel_rfl); (case hc => exact KC.out); simp only [Act.put, List.setIfInBounds_toArray, List.set_cons_succ, List.set_cons_zero]) | ((with_reducible refine wv_val (d := 35) ?hd ?hw (.pointer (some (A3.add (i * 2)))) ?hr ?_); (case hd => rfl); (case hw => kernel_rfl); (case hr => intro w; exact run_idxT (c := cm) rfl (by kernel_rfl) (by kernel_rfl) hin w); simp only [Act.put, List.setIfInBounds_toArray, List.set_cons_succ, List.set_cons_zero]) | ((with_reducible refine wv_val (d := 36) ?hd ?hw (.pointer (some (A3.add (i * 2)))) ?hr ?_); (case hd => rfl); (case hw => kernel_rfl); (case hr => intro w; exact run_fldT0 rfl (by kernel_rfl) w); simp only [Act.put, List.setIfInBounds_toArray, List.set_cons_succ, List.set_cons_zero]) | ((with_reducible refine wv_elem (d := 37) ?hd ?hw 5 Tryd.isAgg5 (.tmp 36) ?ho (A3.add (i * 2)) ?hx (.int .u8 (k : Int)) ?hc ?_); (case hd => rfl); (case hw => kernel_rfl); (case ho => rfl); (case hx => kernel_rfl); (case hc => exact K0.out); simp only [Act.put, List.setIfInBounds_toArray, List.set_cons_succ, List.set_cons_zero]) | ((with_reducible refine wv_val (d := 38) ?hd ?hw (.bool true) ?hr ?_); (case hd => rfl); (case hw => kernel_rfl); (case hr => intro w; exact run_eqU8 1 rfl (by kernel_rfl) B1.out w); simp only [Act.put, List.setIfInBounds_toArray, List.set_cons_succ, List.set_cons_zero]))
        refine (KHa.out _ (Below.refl _ _)).mono ?_
        rintro e wa ⟨rfl, qa⟩
        have Kqa : Kept _ := ⟨Kbz.out.trans (qa.mono Kbz.out.size)⟩
        clear qa
        go_wp2_with fail
        go_roundg (gk - 1)
        case measure => omega
        case rel => exact ⟨i + 1, by omega, by simp, Kqa.out⟩
      case neg =>
        have B1 : Kept (false = decide (k = 1)) := ⟨(decide_eq_false hk1).symm⟩
        clear hk1 Kno
        go_wp2_with (first | ((with_reducible refine wv_val (d := 31) ?hd ?hw (.pointer (some (A.add i))) ?hr ?_); (case hd => rfl); (case hw => kernel_rfl); (case hr => intro w; exact run_idxS (c := ca) rfl (by kernel_rfl) (by kernel_rfl) Tryd.underlying29 hin Tryd.sizeOf9 w); simp only [Act.put, List.setIfInBounds_toArray, List.set_cons_succ, List.set_cons_zero]) | ((with_reducible refine wv_elem (d := 32) ?hd ?hw 9 ag_str (.tmp 31) ?ho (A.add i) ?hx (.string (strOf T)) ?hc ?_); (case hd => rfl); (case hw => kernel_rfl); (case ho => rfl); (case hx => kernel_rfl); (case hc => exact KC.out); simp only [Act.put, List.setIfInBounds_toArray, List.set_cons_succ, List.set_cons_zero]) | ((with_reducible refine wv_val (d := 35) ?hd ?hw (.pointer (some (A3.add (i * 2)))) ?hr ?_); (case hd => rfl); (case hw => kernel_rfl); (case hr => intro w; exact run_idxT (c := cm) rfl (by kernel_rfl) (by kernel_rfl) hin w); simp only [Act.put, List.setIfInBounds_toArray, List.set_cons_succ, List.set_cons_zero]) | ((with_reducible refine wv_val (d := 36) ?hd ?hw (.pointer (some (A3.add (i * 2)))) ?hr ?_); (case hd => rfl); (case hw => kernel_rfl); (case hr => intro w; exact run_fldT0 rfl (by kernel_rfl) w); simp only [Act.put, List.setIfInBounds_toArray, List.set_cons_succ, List.set_cons_zero]) | ((with_reducible refine wv_elem (d := 37) ?hd ?hw 5 Tryd.isAgg5 (.tmp 36) ?ho (A3.add (i * 2)) ?hx (.int .u8 (k : Int)) ?hc ?_); (case hd => rfl); (case hw => kernel_rfl); (case ho => rfl); (case hx => kernel_rfl); (case hc => exact K0.out); simp only [Act.put, List.setIfInBounds_toArray, List.set_cons_succ, List.set_cons_zero]) | ((with_reducible refine wv_val (d := 38) ?hd ?hw (.bool false) ?hr ?_); (case hd => rfl); (case hw => kernel_rfl); (case hr => intro w; exact run_eqU8 1 rfl (by kernel_rfl) B1.out w); simp only [Act.put, List.setIfInBounds_toArray, List.set_cons_succ, List.set_cons_zero]))
        go_roundg (gk - 1)
        case measure => omega
        case rel => exact ⟨i + 1, by omega, by simp, Kbz.out⟩
    case pos =>
      obtain rfl : N = i := by omega
      obtain ⟨u1, u2, u3, N1, N2, N3, hX⟩ := texts Kts.out.1.toB KtN.out
      obtain ⟨bu, hbu⟩ := isK_ex u3 []
      have KX : Kept _ := ⟨hX⟩
      have Kbu : Kept _ := ⟨hbu⟩
      have hkn := hX.known bu hbu
      have Kk1 : Kept (Tells true (KnownS u3 (hadP bu) N1)) := ⟨⟨fun _ => hkn.1, fun _ => rfl⟩⟩
      have Kk2 : Kept (Tells true (KnownS u3 (hadP bu) N2)) := ⟨⟨fun _ => hkn.2.1, fun _ => rfl⟩⟩
      have Kk3 : Kept (Tells true (KnownS u3 (hadP bu) N3)) := ⟨⟨fun _ => hkn.2.2, fun _ => rfl⟩⟩
      have Kl1 : Kept (u1.length < 1000000) := ⟨by have := hX.l1; have := KtN.out; omega⟩
      have Kl2 : Kept (u2.length < 1000000) := ⟨by have := hX.l2; have := KtN.out; omega⟩
      have Kl3 : Kept (u3.length < 1000000 ∧ u3.length ≤ 200000) := ⟨by have := hX.len; have := KtN.out; omega⟩
      have KN1 : Kept (Bytes N1 ∧ N1.length ≤ 40000) := ⟨hX.names.small N1 (by simp)⟩
      have KN2 : Kept (Bytes N2 ∧ N2.length ≤ 40000) := ⟨hX.names.small N2 (by simp)⟩
      have KN3 : Kept (Bytes N3 ∧ N3.length ≤ 40000) := ⟨hX.names.small N3 (by simp)⟩
      have KN2m : Kept (N2.length ≤ maxLen) := ⟨Nat.le_trans KN2.out.2 (by decide)⟩
      have KTz : Kept _ := ⟨KT4.out.under hbz⟩
      have Kqz : Kept _ := ⟨Kq4.out.trans (hbz.mono Kq4.out.size)⟩
      have b5 := (Below.refl wz.heap.size wz).alloc (Nat.le_refl _) (.cells #[.string (strOf [111, 102]), .string (strOf [116, 101, 120, 116, 115]), .string (strOf [97, 108, 111, 110, 101])] 9)
      have KH1 : Kept _ := ⟨HashE (KTz.out.under b5) (all_bytes (by decide)) (new3 [111, 102] [116, 101, 120, 116, 115] [97, 108, 111, 110, 101] wz) (all_max (by decide)) KsM.out hX.p1⟩
      have Kb5 : Kept _ := ⟨b5⟩
      clear hX hbu hkn hbz b5 KSb4 KS4 KVa KT4
      go_wp2_with (first | (refine wl_bs3 (by kernel_rfl) (.const (.string ⟨#[111, 102]⟩)) (.const (.string ⟨#[116, 101, 120, 116, 115]⟩)) (.const (.string ⟨#[97, 108, 111, 110, 101]⟩)) rfl ([111, 102]) ([116, 101, 120, 116, 115]) ([97, 108, 111, 110, 101]) (by kernel_rfl) (by kernel_rfl) (by kernel_rfl) ?_; simp only [Act.put, List.setIfInBounds_toArray, List.set_cons_succ, List.set_cons_zero]))
      refine KH1.out.mono ?_
      rintro e w5 ⟨rfl, hPu⟩
      obtain ⟨M1, hT5, tu5⟩ := hPu.from Kb5.out
      have q5 := Kqz.out.trans ((KTz.out.below tu5).mono Kq1.out.size)
      have b6 := (Below.refl w5.heap.size w5).alloc (Nat.le_refl _) (.cells #[.string (strOf [107, 101, 121])] 9)
      have KH2 : Kept _ := ⟨HashE (hT5.under b6) (all_bytes (by decide)) (new1 [107, 101, 121] w5) (all_max (by decide)) Kl1.out KX.out.p2⟩
      have KT5 : Kept _ := ⟨hT5⟩
      have Kq5 : Kept _ := ⟨q5⟩
      have Kb6 : Kept _ := ⟨b6⟩
      clear hPu hT5 tu5 q5 b6 KH1 KTz Kqz Kb5
      go_wp2_with (first | (refine wl_bs1 (by kernel_rfl) (.const (.string ⟨#[107, 101, 121]⟩)) rfl ([107, 101, 121]) (by kernel_rfl) ?_; simp only [Act.put, List.setIfInBounds_toArray, List.set_cons_succ, List.set_cons_zero]))
      refine KH2.out.mono ?_
      rintro e w6 ⟨rfl, hPu⟩
      obtain ⟨M2, hT6, tu6⟩ := hPu.from Kb6.out
      have q6 := Kq5.out.trans ((KT5.out.below tu6).mono Kq1.out.size)
      have KH3 : Kept _ := ⟨SealF (n := 1) (A := ⟨#[]⟩) (T := ⟨#[116, 101, 120, 116]⟩) hT6 (by decide) KN2.out.1 nil_bytes (all_bytes (ll := [[116, 101, 120, 116]]) (by decide) _ (by simp)) KN2m.out (by decide) (by decide) Kl2.out KX.out.p3 rfl (by kernel_rfl) (by kernel_rfl)⟩
      have KT6 : Kept _ := ⟨hT6⟩
      have Kq6 : Kept _ := ⟨q6⟩
      clear hPu hT6 tu6 q6 KH2 KT5 Kq5 Kb6
      go_wp2_with fail
      refine KH3.out.mono ?_
      rintro e w7 ⟨rfl, M3, hT7, tu7⟩
      have q7 := Kq6.out.trans ((KT6.out.below tu7).mono Kq1.out.size)
      have KNu : Kept _ := ⟨NewK hT7 KX.out.terms Kl3.out.2 (vals_nil w7) (fun l h => by cases h) (by decide) Kbu.out⟩
      have Kq7 : Kept _ := ⟨q7⟩
      clear hT7 tu7 q7 KH3 KT6 Kq6
      go_wp2_with fail
      refine KNu.out.mono ?_
      rintro e w8 ⟨⟨su, rfl, hSu⟩, q8⟩
      have KSu : Kept _ := ⟨hSu⟩
      have Kq8 : Kept _ := ⟨Kq7.out.trans (q8.mono Kq7.out.size)⟩
      have KH4 : Kept _ := ⟨HasD hSu Kl3.out.1 KN1.out.1 KN1.out.2 Kk1.out⟩
      clear hSu q8 KNu Kq7
      go_wp2_with fail
      refine KH4.out.mono ?_
      rintro e w9 ⟨rfl, q9⟩
      have KSu9 : Kept _ := ⟨KSu.out.under q9⟩
      have Kq9 : Kept _ := ⟨Kq8.out.trans (q9.mono Kq8.out.size)⟩
      have KH5 : Kept _ := ⟨HasD (KSu.out.under q9) Kl3.out.1 KN3.out.1 KN3.out.2 Kk3.out⟩
      clear q9 KH4 KSu Kq8
      go_wp2_with fail
      refine KH5.out.mono ?_
      rintro e wa ⟨rfl, qa⟩
      have Kqa : Kept _ := ⟨Kq9.out.trans (qa.mono Kq9.out.size)⟩
      have KH6 : Kept _ := ⟨HasD (KSu9.out.under qa) Kl3.out.1 KN2.out.1 KN2.out.2 Kk2.out⟩
      clear qa KH5 KSu9 Kq9
      go_wp2_with fail
      refine KH6.out.mono ?_
      rintro e wb ⟨rfl, qb⟩
      have Kqb : Kept _ := ⟨Kqa.out.trans (qb.mono Kqa.out.size)⟩
      clear qb KH6 Kqa
      go_wp2_with fail
      go_ret
      exact ⟨rfl, Kqb.out⟩
end Go.Proofs.YtniogaimhkcedaaDoor.sh
