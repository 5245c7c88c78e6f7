/-
  What the document fixes of what is known: alive of law 10.
-/
import Derived.Test.YtniogaimhkcedaaDoorLH
namespace Go.Proofs.YtniogaimhkcedaaDoor.sh
open Go Go.RowKit
set_option linter.unusedVariables false
set_option linter.unusedSimpArgs false

/-- A set that nobody made: of no table. -/
theorem NewN {w : World} : Calls Tryd.prog 12 #[.pointer none, .slice none 0 0] w fun e w' => e = .returned (.pointer none) ∧ Below w.heap.size w w' := by
  go_enter Tryd.func12, Tryd.ntmps12
  go_wp2_with fail
  go_ret
  exact ⟨rfl, Below.refl _ _⟩
theorem has_name {ts : List TermL} {b : List Bool} {i : Nat} {f : Bool} (hl : ts.length < 1000000) (hi : i < ts.length) (h : b[i]? = some f) : f = true ↔ KnownS ts (hadP b) (termN (i + 1)) := by
  rw [known_at hl hi]
  unfold hadP
  rw [h]
  simp
def U1 : List TermL := [(1, [[107]])]
def U2 : List TermL := [(1, [[107]]), (1, [[120]])]
def U3 : List TermL := [(1, [[107]]), (1, [[120]]), (5, [termN 1, numL 0, [], termN 2])]
theorem gx1 : putL [] (1, [[107]]) = (U1, termN 1) := by kernel_rfl
theorem gx2 : putL U1 (1, [[120]]) = (U2, termN 2) := by kernel_rfl
theorem gx3 : putL U2 (5, [termN 1, numL 0, [], termN 2]) = (U3, termN 3) := by kernel_rfl
theorem u3_len : U3.length = 3 := rfl
theorem u3_small : U3.length < 1000000 := by rw [u3_len]; decide
theorem known_a : IsK U3 [termN 3] [false, false, true] := by
  have h2 : ∀ n, hadP [false, false, true] n ↔ n = 2 := fun n => by
    match n with
    | 0 => simp [hadP]
    | 1 => simp [hadP]
    | 2 => simp [hadP]
    | n + 3 => simp [hadP]
  refine ⟨rfl, fun n => ?_⟩
  rw [h2]
  constructor
  · rintro rfl
    exact kn_told (List.mem_singleton.2 rfl) ((leaf_at u3_small (by rw [u3_len]; decide)).2 rfl)
  · refine kn_least (P := fun n => n = 2) (fun s hs j hj => ?_) ⟨fun i t ht hm => ?_, fun i k n a x ht hi hk j hj => ?_⟩ n
    · rw [List.mem_singleton.1 hs] at hj
      exact (leaf_at u3_small (by rw [u3_len]; decide)).1 hj
    · match i, ht with
      | 0, ht => cases ht; exact absurd hm makes_atom
      | 1, ht => cases ht; exact absurd hm makes_atom
      | 2, _ => rfl
    · subst hi
      cases ht
      have := (known_at (i := 0) u3_small (by rw [u3_len]; decide)).1 hk
      cases this
theorem known_b : IsK U3 [termN 3, termN 1] [true, true, true] := by
  have k2 : KN U3 [termN 3, termN 1] 2 := kn_told (s := termN 3) List.mem_cons_self ((leaf_at u3_small (by rw [u3_len]; decide)).2 rfl)
  have k0 : KN U3 [termN 3, termN 1] 0 := kn_told (s := termN 1) (List.mem_cons_of_mem _ List.mem_cons_self) ((leaf_at u3_small (by rw [u3_len]; decide)).2 rfl)
  have k1 : KN U3 [termN 3, termN 1] 1 := (kn_closed U3 _).told 2 (termN 1) (numL 0) [] (termN 2) rfl k2 ((known_at (i := 0) u3_small (by rw [u3_len]; decide)).2 k0) 1 ((leaf_at u3_small (by rw [u3_len]; decide)).2 rfl)
  refine ⟨rfl, fun n => ?_⟩
  match n with
  | 0 => exact ⟨fun _ => k0, fun _ => rfl⟩
  | 1 => exact ⟨fun _ => k1, fun _ => rfl⟩
  | 2 => exact ⟨fun _ => k2, fun _ => rfl⟩
  | n + 3 => exact ⟨fun h => (by simp [hadP] at h), fun h => absurd (kn_lt h) (by rw [u3_len]; omega)⟩
def ANY : List Nat := [97, 110, 121, 116, 104, 105, 110, 103]
theorem any_known {b : List Bool} : true = true ↔ KnownS U3 (hadP b) ANY := ⟨fun _ => (mute_head (by decide) (by decide)).known u3_small, fun _ => rfl⟩
set_option maxRecDepth 100000 in
set_option maxHeartbeats 8000000 in
theorem alive10 (w : World) : Calls Tryd.prog 9 #[] w fun e w' => e = .returned (.bool true) ∧ Below w.heap.size w w' := by
  have l1 : U1.length < 1000000 := by decide
  have l2 : U2.length < 1000000 := by decide
  have KK3 : Kept (TermsK U3) := ⟨by
    have h0 := termsK_nil
    have h1 : TermsK U1 := by
      have := h0.put (t := (1, [[107]])) ⟨fun p hp => by rw [List.mem_singleton.1 hp]; exact bytes_of_all (by decide), .inl ⟨rfl, _, rfl⟩⟩ (fun e => by cases e) (fun _ s e => by cases e; decide)
      rwa [gx1] at this
    have h2 : TermsK U2 := by
      have := h1.put (t := (1, [[120]])) ⟨fun p hp => by rw [List.mem_singleton.1 hp]; exact bytes_of_all (by decide), .inl ⟨rfl, _, rfl⟩⟩ (fun e => by cases e) (fun _ s e => by cases e; decide)
      rwa [gx2] at this
    have := h2.put (t := (5, [termN 1, numL 0, [], termN 2])) ⟨fun p hp => by
        simp only [List.mem_cons, List.not_mem_nil, or_false] at hp
        rcases hp with rfl | rfl | rfl | rfl
        · exact termN_bytes _
        · exact numL_bytes _
        · exact nil_bytes
        · exact termN_bytes _, .inr (.inr (.inr (.inr rfl)))⟩ (fun _ => ⟨_, _, _, _, rfl⟩) (fun e => by cases e)
    rwa [gx3] at this⟩
  have y1 := termN_bytes 1; have y2 := termN_bytes 2; have y3 := termN_bytes 3
  have m1 := termN_max 1; have m2 := termN_max 2; have m3 := termN_max 3
  have e1 := termN_len 1; have e2 := termN_len 2; have e3 := termN_len 3
  have ka := known_a; have kb := known_b
  have f1 := has_name (b := [false, false, true]) (i := 1) (f := false) u3_small (by rw [u3_len]; decide) rfl
  have f2 := has_name (b := [false, false, true]) (i := 2) (f := true) u3_small (by rw [u3_len]; decide) rfl
  have f3 := has_name (b := [true, true, true]) (i := 1) (f := true) u3_small (by rw [u3_len]; decide) rfl
  have f4 := any_known (b := [false, false, true])
  have na : (namesB [false, false, true]).length = 1 := by rw [names_len]; rfl
  have nb : (namesB [true, true, true]).length = 3 := by rw [names_len]; rfl
  have g1 := gx1; have g2 := gx2; have g3 := gx3; have l3 := u3_small; have l33 := u3_len
  have ya : Kept (Bytes [107]) := ⟨bytes_of_all (fun x hx => by simp at hx; omega)⟩
  have yb : Kept (Bytes [120]) := ⟨bytes_of_all (fun x hx => by simp at hx; omega)⟩
  have yc : Kept (Bytes ANY) := ⟨bytes_of_all (by decide)⟩
  have lc : Kept (ANY.length ≤ 40000) := ⟨by decide⟩
  have wa : weight [termN 3] ≤ 1000000 := weight_one (by rw [e3]; decide)
  have wb : weight [termN 3, termN 1] ≤ 1000000 := by rw [weight_cons, weight_cons, weight_nil, e3, e1]; decide
  have eAny : Kept (strOf ANY = ⟨#[97, 110, 121, 116, 104, 105, 110, 103]⟩) := ⟨by kernel_rfl⟩
  generalize termN 1 = n1 at *
  generalize termN 2 = n2 at *
  generalize termN 3 = n3 at *
  generalize U1 = t1 at *
  generalize U2 = t2 at *
  generalize U3 = t3 at *
  generalize [false, false, true] = ba at *
  generalize [true, true, true] = bb at *
  generalize ANY = AN at *
  have G1 : Kept _ := ⟨g1⟩; have G2 : Kept _ := ⟨g2⟩; have G3 : Kept _ := ⟨g3⟩
  have Y1 : Kept _ := ⟨y1⟩; have Y2 : Kept _ := ⟨y2⟩; have Y3 : Kept _ := ⟨y3⟩
  have M1 : Kept _ := ⟨m1⟩; have M2 : Kept _ := ⟨m2⟩; have M3 : Kept _ := ⟨m3⟩
  have E1 : Kept (n1.length = 32) := ⟨e1⟩; have E2 : Kept (n2.length = 32) := ⟨e2⟩; have E3 : Kept (n3.length = 32) := ⟨e3⟩
  have KA : Kept _ := ⟨ka⟩; have KB : Kept _ := ⟨kb⟩
  have F1 : Kept (Tells false (KnownS t3 (hadP ba) n2)) := ⟨f1⟩
  have F2 : Kept (Tells true (KnownS t3 (hadP ba) n3)) := ⟨f2⟩
  have F3 : Kept (Tells true (KnownS t3 (hadP bb) n2)) := ⟨f3⟩
  have F4 : Kept (Tells true (KnownS t3 (hadP ba) AN)) := ⟨f4⟩
  have NA : Kept _ := ⟨na⟩; have NB : Kept _ := ⟨nb⟩
  have L1 : Kept _ := ⟨l1⟩; have L2 : Kept _ := ⟨l2⟩; have L3 : Kept _ := ⟨l3⟩; have L33 : Kept _ := ⟨l33⟩
  have WA : Kept _ := ⟨wa⟩; have WB : Kept _ := ⟨wb⟩
  clear g1 g2 g3 y1 y2 y3 m1 m2 m3 e1 e2 e3 ka kb f1 f2 f3 f4 na nb l1 l2 l3 l33 wa wb
  go_enter Tryd.func9, Tryd.ntmps9
  go_wp2_with fail
  refine NewD.mono ?_
  rintro e w1 ⟨⟨tb, Ma, rfl, hT1⟩, q1⟩
  go_wp2_with fail
  refine (AtomE hT1 ya.out (by decide) (by decide) G1.out (by kernel_rfl)).mono ?_
  rintro e w2 ⟨rfl, Mb, hT2, tu2⟩
  have q2 := q1.trans (hT1.below tu2)
  clear hT1 q1 tu2
  go_wp2_with fail
  refine (AtomE hT2 yb.out (by decide) L1.out G2.out (by kernel_rfl)).mono ?_
  rintro e w3 ⟨rfl, Mc, hT3, tu3⟩
  have q3 := q2.trans (hT2.below tu3)
  clear hT2 q2 tu3
  go_wp2_with fail
  refine (SealF (n := 0) hT3 (by decide) Y1.out nil_bytes Y2.out M1.out (by decide) M2.out L2.out G3.out rfl (by kernel_rfl) rfl).mono ?_
  rintro e w4 ⟨rfl, Md, hT4, tu4⟩
  have q4 := q3.trans (hT3.below tu4)
  have KT4 : Kept _ := ⟨hT4⟩
  have Kq4 : Kept _ := ⟨q4⟩
  have b5 := (Below.refl w4.heap.size w4).alloc (Nat.le_refl _) (.cells #[.string (strOf n3)] 9)
  have KN1 : Kept _ := ⟨NewK (hT4.under b5) KK3.out.toB (by rw [L33.out]; decide) (new1 n3 w4) (fun l hl => by rw [List.mem_singleton.1 hl]; exact Y3.out) WA.out KA.out⟩
  have Kb5 : Kept _ := ⟨b5⟩
  clear hT3 q3 tu4 hT4 q4 b5
  go_wp2_with (first | (refine wl_bs1 (by kernel_rfl) (.tmp 19) rfl (n3) (by kernel_rfl) ?_; simp only [Act.put, List.setIfInBounds_toArray, List.set_cons_succ, List.set_cons_zero]))
  refine KN1.out.mono ?_
  rintro e w6 ⟨⟨sa, rfl, hSa⟩, q6⟩
  have q46 := Kb5.out.trans (q6.mono Kb5.out.size)
  have b7 := (Below.refl w6.heap.size w6).alloc (Nat.le_refl _) (.cells #[.string (strOf n3), .string (strOf n1)] 9)
  have KN2 : Kept _ := ⟨NewK ((KT4.out.under q46).under b7) KK3.out.toB (by rw [L33.out]; decide) (new2 n3 n1 w6) (fun l hl => by
    simp only [List.mem_cons, List.not_mem_nil, or_false] at hl
    rcases hl with rfl | rfl
    · exact Y3.out
    · exact Y1.out) WB.out KB.out⟩
  have KSa : Kept _ := ⟨hSa⟩
  have Kb7 : Kept _ := ⟨b7⟩
  have Kq6 : Kept _ := ⟨Kq4.out.trans (q46.mono Kq4.out.size)⟩
  clear KN1 hSa q6 q46 b7 KT4 Kq4 Kb5
  go_wp2_with (first | (refine wl_bs2 (by kernel_rfl) (.tmp 23) (.tmp 24) rfl (n3) (n1) (by kernel_rfl) (by kernel_rfl) ?_; simp only [Act.put, List.setIfInBounds_toArray, List.set_cons_succ, List.set_cons_zero]))
  refine KN2.out.mono ?_
  rintro e w8 ⟨⟨sb, rfl, hSb⟩, q8⟩
  have q68 := Kb7.out.trans (q8.mono Kb7.out.size)
  have KSa8 : Kept _ := ⟨KSa.out.under q68⟩
  have KSb8 : Kept _ := ⟨hSb⟩
  have Kq8 : Kept _ := ⟨Kq6.out.trans (q68.mono Kq6.out.size)⟩
  clear KN2 hSb q8 q68 KSa Kb7 Kq6
  go_wp2_with fail
  refine (HasD KSa8.out L3.out Y2.out (by rw [E2.out]; decide) F1.out).mono ?_
  rintro e w9 ⟨rfl, q9⟩
  have KSa9 : Kept _ := ⟨KSa8.out.under q9⟩
  have KSb9 : Kept _ := ⟨KSb8.out.under q9⟩
  have Kq9 : Kept _ := ⟨Kq8.out.trans (q9.mono Kq8.out.size)⟩
  clear q9 KSa8 KSb8 Kq8
  go_wp2_with fail
  refine (HasD KSa9.out L3.out Y3.out (by rw [E3.out]; decide) F2.out).mono ?_
  rintro e wa ⟨rfl, qa⟩
  have KSaa : Kept _ := ⟨KSa9.out.under qa⟩
  have KSba : Kept _ := ⟨KSb9.out.under qa⟩
  have Kqa : Kept _ := ⟨Kq9.out.trans (qa.mono Kq9.out.size)⟩
  clear qa KSa9 KSb9 Kq9
  go_wp2_with fail
  refine (HasD KSba.out L3.out Y2.out (by rw [E2.out]; decide) F3.out).mono ?_
  rintro e wb ⟨rfl, qb⟩
  have KSab : Kept _ := ⟨KSaa.out.under qb⟩
  have KSbb : Kept _ := ⟨KSba.out.under qb⟩
  have Kqb : Kept _ := ⟨Kqa.out.trans (qb.mono Kqa.out.size)⟩
  have KHA : Kept _ := ⟨HasD KSab.out L3.out yc.out lc.out F4.out⟩
  clear qb KSaa KSba Kqa
  rw [eAny.out] at KHA
  go_wp2_with fail
  refine KHA.out.mono ?_
  rintro e wc ⟨rfl, qc⟩
  have KSac : Kept _ := ⟨KSab.out.under qc⟩
  have KSbc : Kept _ := ⟨KSbb.out.under qc⟩
  have Kqc : Kept _ := ⟨Kqb.out.trans (qc.mono Kqb.out.size)⟩
  clear qc KSab KSbb Kqb KHA
  go_wp2_with fail
  refine (TermsD KSac.out L3.out).mono ?_
  rintro e wd ⟨⟨V1, rfl, hV1⟩, qd⟩
  obtain ⟨p1, c1, rfl, _⟩ := vals_form (vrow_vals hV1) (show (strs (namesB ba)).length = 1 by rw [strs_len, NA.out])
  have KSbd : Kept _ := ⟨KSbc.out.under qd⟩
  have Kqd : Kept _ := ⟨Kqc.out.trans (qd.mono Kqc.out.size)⟩
  clear qd KSac KSbc Kqc hV1
  go_wp2_with fail
  refine (TermsD KSbd.out L3.out).mono ?_
  rintro e we ⟨⟨V2, rfl, hV2⟩, qe⟩
  obtain ⟨p2, c2, rfl, _⟩ := vals_form (vrow_vals hV2) (show (strs (namesB bb)).length = 3 by rw [strs_len, NB.out])
  have Kqe : Kept _ := ⟨Kqd.out.trans (qe.mono Kqd.out.size)⟩
  clear qe KSbd Kqd hV2
  go_wp2_with fail
  refine NewN.mono ?_
  rintro e wf ⟨rfl, qf⟩
  have Kqf : Kept _ := ⟨Kqe.out.trans (qf.mono Kqe.out.size)⟩
  clear qf Kqe
  go_wp2_with fail
  go_ret
  exact ⟨rfl, Kqf.out⟩
end Go.Proofs.YtniogaimhkcedaaDoor.sh
