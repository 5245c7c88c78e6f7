/-
  General pieces, joined: EN EO.
-/
import Derived.Test.YtkibojjbghopkaaDoorG15
/-
  Two secrets on a point come to the same in either order. Plain arithmetic.
-/
namespace Go.Proofs.YtkibojjbghopkaaDoor
open Go Go.RowKit
set_option linter.unusedVariables false
set_option linter.unusedSimpArgs false

theorem opp_m : (1 : FP) - -1 = 2 := by decide +kernel
theorem opp_p : (1 : FP) + -1 = 0 := by decide +kernel
theorem one_one : (1 : FP) * 1 = 1 := by decide +kernel
theorem phi_nil {v : Nat} (hv : v < 57896044618658097711785492504343953926634992332820282019728792003956564819949) (h : phi v = 0) : v = 0 := phi_inj hv (by decide) (h.trans phi_0.symm)
theorem nil_of {s y : FP} {v : Nat} (hv : v < 57896044618658097711785492504343953926634992332820282019728792003956564819949) (h : Lies1 s y v) (hy : y * y = 1) : v = 0 := by
  rcases h with ⟨_, h⟩ | ⟨h1, h2⟩
  · exact h
  · rcases root_one hy with rfl | rfl
    · exact absurd zero_is.symm h1
    · rw [opp_m, opp_p, Fin.mul_zero] at h2
      rcases fld.dom _ _ h2 with h3 | h3
      · exact phi_nil hv h3
      · exact absurd h3 two_ne
theorem step_lies {e s : FP} (ns : NonSq e) (s1 : s * s = 1) (hk : e * (2 * phi 121665 + 1 + s) = 2 * phi 121665 + 1 - s) (Q : Pt e) (k v : Nat) (hv : v < 57896044618658097711785492504343953926634992332820282019728792003956564819949) (h : Lies1 s Q.y v) : Lies1 s (Pt.mul ns (clampN k) Q).y (XN k v) := by
  by_cases hy : Q.y * Q.y = 1
  · rw [nil_of hv h hy, small_nil]
    obtain ⟨m, hm⟩ := clamp_even k
    rw [hm, Pt.even ns Q hy]
    exact .inl ⟨rfl, rfl⟩
  · rcases h with ⟨h1, _⟩ | ⟨h1, h2⟩
    · exact absurd (by rw [h1]; exact one_one) hy
    · have h0 : 1 + Q.y ≠ 0 := fun h => hy (by
        have h3 : Q.y = -1 := add_opp ((sum_turn _ _).trans h)
        rw [h3]
        exact opp_opp)
      exact XN_lies ns s1 hk Q k v h1 h0 (by rw [low_same v hv]; exact h2)
theorem comm_on {e s : FP} (ns : NonSq e) (s1 : s * s = 1) (hk : e * (2 * phi 121665 + 1 + s) = 2 * phi 121665 + 1 - s) (P : Pt e) (a b u : Nat) (h1 : 1 - P.y ≠ 0) (h0 : 1 + P.y ≠ 0)
    (hu : phi (lowN u % 57896044618658097711785492504343953926634992332820282019728792003956564819949) * (1 - P.y) = s * (1 + P.y)) : XN a (XN b u) = XN b (XN a u) := by
  have A := step_lies ns s1 hk (Pt.mul ns (clampN b) P) a (XN b u) (XN_ltp b u) (XN_lies ns s1 hk P b u h1 h0 hu)
  have B := step_lies ns s1 hk (Pt.mul ns (clampN a) P) b (XN a u) (XN_ltp a u) (XN_lies ns s1 hk P a u h1 h0 hu)
  rw [Pt.mul_mul] at A B
  rw [Nat.mul_comm] at B
  exact Lies1.uniq (XN_ltp _ _) (XN_ltp _ _) A B
theorem XN_of {u v : Nat} (k : Nat) (h : lowN u % 57896044618658097711785492504343953926634992332820282019728792003956564819949 = lowN v % 57896044618658097711785492504343953926634992332820282019728792003956564819949) : XN k u = XN k v := by rw [XN_eq, XN_eq, h]
theorem sub_one_sq {x : FP} (h : x - 1 = 0) : x * x = 1 := by
  have h2 : x * x = (x - 1) * (x + 1) + 1 := by clear h; grind
  rw [h, Fin.zero_mul, Fin.zero_add] at h2
  exact h2
theorem add_one_sq {x : FP} (h : x + 1 = 0) : x * x = 1 := by
  have h2 : x * x = (x + 1) * (x - 1) + 1 := by clear h; grind
  rw [h, Fin.zero_mul, Fin.zero_add] at h2
  exact h2
theorem XN_comm (a b u : Nat) : XN a (XN b u) = XN b (XN a u) := by
  have hx : lowN u % 57896044618658097711785492504343953926634992332820282019728792003956564819949 < 57896044618658097711785492504343953926634992332820282019728792003956564819949 := Nat.mod_lt _ (by decide)
  have small : (∀ k, XN k u = 0) → XN a (XN b u) = XN b (XN a u) := fun h => by rw [h a, h b, small_nil, small_nil]
  have sq : phi (lowN u % 57896044618658097711785492504343953926634992332820282019728792003956564819949) * phi (lowN u % 57896044618658097711785492504343953926634992332820282019728792003956564819949) = 1 → XN a (XN b u) = XN b (XN a u) := fun h => small fun k => by
    rw [XN_of k (low_same _ hx).symm]
    exact small_one k _ (low_same _ hx) h
  by_cases h0 : phi (lowN u % 57896044618658097711785492504343953926634992332820282019728792003956564819949) = 0
  · refine small fun k => ?_
    have h := phi_nil hx h0
    rw [XN_of (v := 0) k (by rw [h, low_zero'])]
    exact small_nil k
  · by_cases h1 : phi (lowN u % 57896044618658097711785492504343953926634992332820282019728792003956564819949) - 1 = 0
    · exact sq (sub_one_sq h1)
    · by_cases h2 : phi (lowN u % 57896044618658097711785492504343953926634992332820282019728792003956564819949) + 1 = 0
      · exact sq (add_one_sq h2)
      · rcases place _ h0 h1 h2 with ⟨P, p1, p2, p3⟩ | ⟨P, p1, p2, p3⟩
        · exact comm_on ns_curve one_one k_curve P a b u p1 p2 p3
        · exact comm_on ns_twist opp_opp k_twist P a b u p1 p2 p3
end Go.Proofs.YtkibojjbghopkaaDoor
/-
  What two secrets make of the point 9 is not nothing: the point's order is a prime, and no secret is a multiple of it. Plain arithmetic.
-/
namespace Go.Proofs.YtkibojjbghopkaaDoor
open Go Go.RowKit
set_option linter.unusedVariables false
set_option linter.unusedSimpArgs false

theorem pl2551 : IsPrime 2551 := small_prime _ (by decide +kernel) (by decide +kernel)
theorem pl1224481 : IsPrime 1224481 := pock1 1224481 2551 21 pl2551 (by decide +kernel) (by decide +kernel) (by decide +kernel) (by decide +kernel) (by decide +kernel) (by decide +kernel) (by decide +kernel)
theorem pl3797 : IsPrime 3797 := small_prime _ (by decide +kernel) (by decide +kernel)
theorem pl531581 : IsPrime 531581 := pock1 531581 3797 20 pl3797 (by decide +kernel) (by decide +kernel) (by decide +kernel) (by decide +kernel) (by decide +kernel) (by decide +kernel) (by decide +kernel)
theorem pl732178653 : IsPrime 1257559732178653 := pock2 1257559732178653 1224481 531581 51 pl1224481 pl531581 (by decide +kernel) (by decide +kernel) (by decide +kernel) (by decide +kernel) (by decide +kernel) (by decide +kernel) (by decide +kernel) (by decide +kernel) (by decide +kernel) (by decide +kernel) (by decide +kernel)
theorem pl661930479 : IsPrime 4434155615661930479 := pock1 4434155615661930479 1257559732178653 62 pl732178653 (by decide +kernel) (by decide +kernel) (by decide +kernel) (by decide +kernel) (by decide +kernel) (by decide +kernel) (by decide +kernel)
theorem pl258510691 : IsPrime 172054593956031949258510691 := pock1 172054593956031949258510691 4434155615661930479 88 pl661930479 (by decide +kernel) (by decide +kernel) (by decide +kernel) (by decide +kernel) (by decide +kernel) (by decide +kernel) (by decide +kernel)
theorem pl130476339 : IsPrime 19757330305831588566944191468367130476339 := pock1 19757330305831588566944191468367130476339 172054593956031949258510691 134 pl258510691 (by decide +kernel) (by decide +kernel) (by decide +kernel) (by decide +kernel) (by decide +kernel) (by decide +kernel) (by decide +kernel)
theorem pl826668747 : IsPrime 276602624281642239937218680557139826668747 := pock1 276602624281642239937218680557139826668747 19757330305831588566944191468367130476339 138 pl130476339 (by decide +kernel) (by decide +kernel) (by decide +kernel) (by decide +kernel) (by decide +kernel) (by decide +kernel) (by decide +kernel)
theorem pl454250989 : IsPrime 7237005577332262213973186563042994240857116359379907606001950938285454250989 := pock1 7237005577332262213973186563042994240857116359379907606001950938285454250989 276602624281642239937218680557139826668747 253 pl826668747 (by decide +kernel) (by decide +kernel) (by decide +kernel) (by decide +kernel) (by decide +kernel) (by decide +kernel) (by decide +kernel)
theorem prime_l : IsPrime 7237005577332262213973186563042994240857116359379907606001950938285454250989 := pl454250989

theorem run_l : (runL 7237005577332262213973186563042994240857116359379907606001950938285454250989 9 255 [1, 0, 9, 1])[1]? = some 0 := by kernel_rfl
theorem l_small : 7237005577332262213973186563042994240857116359379907606001950938285454250989 % 2 ^ 255 = 7237005577332262213973186563042994240857116359379907606001950938285454250989 := by decide +kernel
theorem Pt.mul_gcd {e : FP} (ns : NonSq e) (P : Pt e) (a b : Nat) : Pt.mul ns a P = Pt.zero e → Pt.mul ns b P = Pt.zero e → Pt.mul ns (Nat.gcd a b) P = Pt.zero e := by
  induction a, b using Nat.gcd.induction with
  | H0 b => intro _ h; rw [Nat.gcd_zero_left]; exact h
  | H1 a b hpos ih =>
    intro ha hb
    rw [Nat.gcd_rec]
    refine ih ?_ ha
    have e1 : Pt.mul ns b P = (Pt.mul ns (b / a * a) P).add ns (Pt.mul ns (b % a) P) := by
      rw [← Pt.mul_add, Nat.mul_comm, Nat.div_add_mod]
    rw [← Pt.mul_mul, ha, Pt.mul_zero, Pt.zero_add] at e1
    rw [← e1]
    exact hb
theorem lies_nil {s y : FP} (s1 : s * s = 1) (h : Lies1 s y 0) : y * y = 1 := by
  rcases h with ⟨h, _⟩ | ⟨_, h⟩
  · rw [h]; exact one_one
  · rw [phi_0, Fin.zero_mul] at h
    rcases fld.dom _ _ h.symm with h1 | h1
    · exact absurd h1 (sign_ne s1)
    · have h3 : y = -1 := add_opp ((sum_turn _ _).trans h1)
      rw [h3]
      exact opp_opp
theorem clamp_eight (k : Nat) : ∃ m, clampN k = 8 * m ∧ 0 < m ∧ m < 7237005577332262213973186563042994240857116359379907606001950938285454250989 := by
  refine ⟨clampN k / 8, ?_, ?_, ?_⟩ <;> (unfold clampN comp; omega)
theorem l_not_le (m : Nat) (h : m < 7237005577332262213973186563042994240857116359379907606001950938285454250989) (h2 : 7237005577332262213973186563042994240857116359379907606001950938285454250989 ≤ m) : False := Nat.not_le_of_lt h h2
theorem clamp_l (k : Nat) : ¬ 7237005577332262213973186563042994240857116359379907606001950938285454250989 ∣ clampN k := fun h => by
  obtain ⟨m, hm, h0, h1⟩ := clamp_eight k
  rw [hm] at h
  rcases prime_l.euclid h with h2 | h2
  · exact l_not_le 8 (by decide +kernel) (Nat.le_of_dvd (by decide +kernel) h2)
  · exact l_not_le m h1 (Nat.le_of_dvd h0 h2)
theorem nil_l {e s : FP} (ns : NonSq e) (s1 : s * s = 1) (hk : e * (2 * phi 121665 + 1 + s) = 2 * phi 121665 + 1 - s) (P : Pt e) (h1 : 1 - P.y ≠ 0) (h0 : 1 + P.y ≠ 0)
    (hu : phi 9 * (1 - P.y) = s * (1 + P.y)) : Pt.mul ns 7237005577332262213973186563042994240857116359379907606001950938285454250989 P = Pt.zero e := by
  have r1 : Rep s (Pt.mul ns 0 P).y (phi 1) (phi 0) := rep_nil e s1
  have r2 : Rep s (Pt.mul ns (0 + 1) P).y (phi 9) (phi 1) := by
    rw [Pt.one_mul]; exact rep_one h1 hu
  obtain ⟨A, B, C, D, he, hr⟩ := run_rep ns s1 hk P 7237005577332262213973186563042994240857116359379907606001950938285454250989 9 hu h0 255 0 1 0 9 1 r1 r2
  rw [Nat.zero_mul, Nat.zero_add, l_small] at hr
  have hB := run_l
  rw [he] at hB
  have hB2 : B = 0 := by simpa using hB
  obtain ⟨l, hl, _, hz⟩ := hr
  rw [hB2, phi_0] at hz
  rcases fld.dom _ _ hz.symm with h2 | h2
  · exact absurd h2 hl
  · have h3 := sub_nil h2
    exact Pt.same (x_nil ns (Pt.mul ns _ P).on (by rw [h3]; exact one_one)) h3
theorem some_on {e s : FP} (ns : NonSq e) (s1 : s * s = 1) (hk : e * (2 * phi 121665 + 1 + s) = 2 * phi 121665 + 1 - s) (P : Pt e) (h1 : 1 - P.y ≠ 0) (h0 : 1 + P.y ≠ 0)
    (hu : phi 9 * (1 - P.y) = s * (1 + P.y)) (a b : Nat) : XN a (XN b 9) ≠ 0 := fun hn => by
  have A := step_lies ns s1 hk (Pt.mul ns (clampN b) P) a (XN b 9) (XN_ltp b 9) (XN_lies ns s1 hk P b 9 h1 h0 (by rw [low_nine]; exact hu))
  rw [hn] at A
  have hy := lies_nil s1 A
  have h2 := Pt.even ns _ hy 1
  rw [Pt.mul_mul, Pt.mul_mul, Nat.mul_assoc (1 * 2)] at h2
  have h3 := Pt.mul_gcd ns P _ _ (nil_l ns s1 hk P h1 h0 hu) h2
  have hd : ¬ 7237005577332262213973186563042994240857116359379907606001950938285454250989 ∣ 1 * 2 * (clampN a * clampN b) := fun h => by
    rcases prime_l.euclid h with h4 | h4
    · exact l_not_le 2 (by decide +kernel) (Nat.le_of_dvd (by decide +kernel) h4)
    · rcases prime_l.euclid h4 with h5 | h5
      · exact clamp_l a h5
      · exact clamp_l b h5
  rw [prime_l.coprime hd, Pt.one_mul] at h3
  refine h1 ?_
  rw [h3]
  exact zero_is.symm
theorem nine_ne : phi 9 ≠ 0 ∧ phi 9 - 1 ≠ 0 ∧ phi 9 + 1 ≠ 0 := by decide +kernel
theorem XN_some (a b : Nat) : XN a (XN b 9) ≠ 0 := by
  rcases place _ nine_ne.1 nine_ne.2.1 nine_ne.2.2 with ⟨P, p1, p2, p3⟩ | ⟨P, p1, p2, p3⟩
  · exact some_on ns_curve one_one k_curve P p1 p2 p3 a b
  · exact some_on ns_twist opp_opp k_twist P p1 p2 p3 a b
end Go.Proofs.YtkibojjbghopkaaDoor
