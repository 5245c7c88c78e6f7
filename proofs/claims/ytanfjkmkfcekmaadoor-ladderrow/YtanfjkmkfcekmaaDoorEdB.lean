/-
  Joined texts: EJ EK EL EM EN.
-/
import Derived.Test.YtanfjkmkfcekmaaDoorEdA
/-
  Squares modulo p: which numbers are none. Plain arithmetic.
-/
namespace Go.Proofs.YtanfjkmkfcekmaaDoor
open Go Go.RowKit
set_option linter.unusedVariables false
set_option linter.unusedSimpArgs false

theorem sq_pow1 {p h : Nat} (hp : IsPrime p) (h2 : h + h = p - 1) (a : Nat) (ha : ¬ a % p = 0) : powOf h p (a * a % p) = 1 := by
  rw [powOf_mul]
  unfold powOf
  rw [← Nat.mul_mod, ← Nat.pow_add, h2]
  exact fermat hp a (fun h => ha (Nat.mod_eq_zero_of_dvd h))
theorem sq_pow0 {p h : Nat} (hh : 1 ≤ h) (a : Nat) (ha : a % p = 0) : powOf h p (a * a % p) = 0 := powOf_zero hh _ (by rw [Nat.mod_mod, Nat.mul_mod, ha, Nat.zero_mul, Nat.zero_mod])
theorem hE2 : 28948022309329048855892746252171976963317496166410141009864396001978282409974 + 28948022309329048855892746252171976963317496166410141009864396001978282409974 = 57896044618658097711785492504343953926634992332820282019728792003956564819949 - 1 := by decide
theorem nonsq_of (E : Nat) (hE : powOf 28948022309329048855892746252171976963317496166410141009864396001978282409974 57896044618658097711785492504343953926634992332820282019728792003956564819949 E = 57896044618658097711785492504343953926634992332820282019728792003956564819948) : NonSq (phi E) := by
  intro z w hzw
  refine Classical.byContradiction fun hw => ?_
  have hw' : ¬ w.val % 57896044618658097711785492504343953926634992332820282019728792003956564819949 = 0 := fun h => hw (Fin.ext ((Nat.mod_eq_of_lt w.isLt).symm.trans h))
  have hv : z.val * z.val % 57896044618658097711785492504343953926634992332820282019728792003956564819949 = E * (w.val * w.val % 57896044618658097711785492504343953926634992332820282019728792003956564819949) % 57896044618658097711785492504343953926634992332820282019728792003956564819949 := by
    have h := congrArg Fin.val hzw
    rw [Fin.val_mul, Fin.val_mul, Fin.val_mul] at h
    have h3 : (phi E).val = E % Pn := rfl
    rw [h3, Nat.mod_mul_mod] at h
    exact h
  have h1 : powOf 28948022309329048855892746252171976963317496166410141009864396001978282409974 57896044618658097711785492504343953926634992332820282019728792003956564819949 (z.val * z.val % 57896044618658097711785492504343953926634992332820282019728792003956564819949) = 57896044618658097711785492504343953926634992332820282019728792003956564819948 := by
    rw [hv, powOf_mul, hE, sq_pow1 prime_p hE2 _ hw']
  by_cases hz : z.val % 57896044618658097711785492504343953926634992332820282019728792003956564819949 = 0
  · rw [sq_pow0 (by decide) _ hz] at h1
    exact absurd h1 (by decide)
  · rw [sq_pow1 prime_p hE2 _ hz] at h1
    exact absurd h1 (by decide)
theorem ns_curve : NonSq (phi 20800338683988658368647408995589388737092878452977063003340006470870624536394) := nonsq_of _ (powOf_is _ _ _ _ 255 (by decide) (by kernel_rfl))
theorem ns_twist : NonSq (phi 28692721048178265397853269683490922171210976843790175684556505508326675974058) := nonsq_of _ (powOf_is _ _ _ _ 255 (by decide) (by kernel_rfl))
theorem ns_disc : NonSq (phi 236839902240) := nonsq_of _ (powOf_is _ _ _ _ 255 (by decide) (by kernel_rfl))
theorem k_curve : phi 20800338683988658368647408995589388737092878452977063003340006470870624536394 * (2 * phi 121665 + 1 + 1) = 2 * phi 121665 + 1 - 1 := by decide +kernel
theorem k_twist : phi 28692721048178265397853269683490922171210976843790175684556505508326675974058 * (2 * phi 121665 + 1 + -1) = 2 * phi 121665 + 1 - -1 := by decide +kernel
end Go.Proofs.YtanfjkmkfcekmaaDoor
/-
  Of a number and it times a number that is no square, one is a square. Plain arithmetic.
-/
namespace Go.Proofs.YtanfjkmkfcekmaaDoor
open Go Go.RowKit
set_option linter.unusedVariables false
set_option linter.unusedSimpArgs false

theorem phi_pow (m n t : Nat) : phi (powOf m 57896044618658097711785492504343953926634992332820282019728792003956564819949 t) * phi (powOf n 57896044618658097711785492504343953926634992332820282019728792003956564819949 t) = phi (powOf (m + n) 57896044618658097711785492504343953926634992332820282019728792003956564819949 t) := by
  rw [← phi_mul]
  have h : nMul (powOf m 57896044618658097711785492504343953926634992332820282019728792003956564819949 t) (powOf n 57896044618658097711785492504343953926634992332820282019728792003956564819949 t) = powOf (m + n) 57896044618658097711785492504343953926634992332820282019728792003956564819949 t := by
    unfold nMul powOf
    rw [← Nat.mul_mod, ← Nat.pow_add]
  rw [h]
theorem phi_one_pow (t : Nat) : phi (powOf 1 57896044618658097711785492504343953926634992332820282019728792003956564819949 t) = phi t := by
  unfold powOf
  rw [Nat.pow_one]
  apply Fin.ext
  exact Nat.mod_mod _ _
theorem split_sq {a : FP} : a * a - 1 = (a - 1) * (a + 1) := by grind
theorem add_opp {a : FP} (h : a + 1 = 0) : a = -1 := by grind
theorem sub_like {a b : FP} (h : a = b) : a - b = 0 := by grind
theorem root_one {a : FP} (h : a * a = 1) : a = 1 ∨ a = -1 := by
  have h0 : (a - 1) * (a + 1) = 0 := split_sq.symm.trans (sub_like h)
  rcases fld.dom _ _ h0 with h1 | h1
  · left
    have h2 : (a - 1) + 1 = a := by clear h h0 h1; grind
    rw [h1, Fin.zero_add] at h2
    exact h2.symm
  · exact .inr (add_opp h1)
theorem root_i : phi 19681161376707505956807079304988542015446066515923890162744021073123829784752 * phi 19681161376707505956807079304988542015446066515923890162744021073123829784752 = -1 := by decide +kernel
theorem root_ip {i r t : FP} (hi : i * i = -1) (hr : r * r = -1 * t) : (i * r) * (i * r) = t := by grind
theorem one_times {r t : FP} (h : r * r = 1 * t) : r * r = t := by grind
theorem root_of (t : Nat) (h1 : phi (powOf 28948022309329048855892746252171976963317496166410141009864396001978282409974 57896044618658097711785492504343953926634992332820282019728792003956564819949 t) = 1) : ∃ r : FP, r * r = phi t := by
  have hT : phi (powOf 14474011154664524427946373126085988481658748083205070504932198000989141204987 57896044618658097711785492504343953926634992332820282019728792003956564819949 t) * phi (powOf 14474011154664524427946373126085988481658748083205070504932198000989141204987 57896044618658097711785492504343953926634992332820282019728792003956564819949 t) = 1 := by
    rw [phi_pow, show 14474011154664524427946373126085988481658748083205070504932198000989141204987 + 14474011154664524427946373126085988481658748083205070504932198000989141204987 = 28948022309329048855892746252171976963317496166410141009864396001978282409974 from by decide]; exact h1
  have hR : phi (powOf 7237005577332262213973186563042994240829374041602535252466099000494570602494 57896044618658097711785492504343953926634992332820282019728792003956564819949 t) * phi (powOf 7237005577332262213973186563042994240829374041602535252466099000494570602494 57896044618658097711785492504343953926634992332820282019728792003956564819949 t) = phi (powOf 14474011154664524427946373126085988481658748083205070504932198000989141204987 57896044618658097711785492504343953926634992332820282019728792003956564819949 t) * phi t := by
    rw [phi_pow, ← phi_one_pow t, phi_pow]
  rcases root_one hT with h | h
  · rw [h] at hR
    exact ⟨_, one_times hR⟩
  · rw [h] at hR
    exact ⟨_, root_ip root_i hR⟩
theorem ferm {p : Nat} (hp : IsPrime p) (t : Nat) (ht : ¬ t % p = 0) : powOf (p - 1) p t = 1 := fermat hp t (fun h => ht (Nat.mod_eq_zero_of_dvd h))
theorem half_pow (t : Nat) (ht : ¬ t % 57896044618658097711785492504343953926634992332820282019728792003956564819949 = 0) : phi (powOf 28948022309329048855892746252171976963317496166410141009864396001978282409974 57896044618658097711785492504343953926634992332820282019728792003956564819949 t) = 1 ∨ phi (powOf 28948022309329048855892746252171976963317496166410141009864396001978282409974 57896044618658097711785492504343953926634992332820282019728792003956564819949 t) = -1 := by
  refine root_one ?_
  rw [phi_pow, hE2]
  rw [ferm prime_p t ht]
  exact phi_1
theorem opp_opp : (-1 : FP) * -1 = 1 := by grind
theorem sq_or (c t : Nat) (hc : phi (powOf 28948022309329048855892746252171976963317496166410141009864396001978282409974 57896044618658097711785492504343953926634992332820282019728792003956564819949 c) = -1) (ht : ¬ t % 57896044618658097711785492504343953926634992332820282019728792003956564819949 = 0) : (∃ r : FP, r * r = phi t) ∨ (∃ r : FP, r * r = phi c * phi t) := by
  rcases half_pow t ht with h | h
  · exact .inl (root_of t h)
  · right
    rw [← phi_mul]
    refine root_of _ ?_
    have hm : powOf 28948022309329048855892746252171976963317496166410141009864396001978282409974 57896044618658097711785492504343953926634992332820282019728792003956564819949 (nMul c t) = nMul (powOf 28948022309329048855892746252171976963317496166410141009864396001978282409974 57896044618658097711785492504343953926634992332820282019728792003956564819949 c) (powOf 28948022309329048855892746252171976963317496166410141009864396001978282409974 57896044618658097711785492504343953926634992332820282019728792003956564819949 t) := powOf_mul _ _ c t
    rw [hm, phi_mul, hc, h]
    exact opp_opp
theorem disc_half : phi (powOf 28948022309329048855892746252171976963317496166410141009864396001978282409974 57896044618658097711785492504343953926634992332820282019728792003956564819949 236839902240) = -1 := by
  rw [powOf_is 28948022309329048855892746252171976963317496166410141009864396001978282409974 57896044618658097711785492504343953926634992332820282019728792003956564819949 236839902240 57896044618658097711785492504343953926634992332820282019728792003956564819948 255 (by decide) (by kernel_rfl)]
  decide +kernel
end Go.Proofs.YtanfjkmkfcekmaaDoor
/-
  Where a number of the line has its point: on the curve, on the twist. Plain arithmetic.
-/
namespace Go.Proofs.YtanfjkmkfcekmaaDoor
open Go Go.RowKit
set_option linter.unusedVariables false
set_option linter.unusedSimpArgs false

theorem on_of {e x y : FP} (h : x * x * (1 - e * (y * y)) = 1 - y * y) : On e x y := by
  unfold On
  grind
theorem root_over {r g j b U : FP} (hj : g * j = 1) (hr : r * r = b * U * g) : (r * j) * (r * j) = b * U * j := by grind
theorem curve_den {e U i a : FP} (hi : (U + 1) * i = 1) (he : e * (a + 2) = a - 2) : (a + 2) * (1 - e * (((U - 1) * i) * ((U - 1) * i))) = 4 * (U * U + a * U + 1) * (i * i) := by grind
theorem curve_num {U i : FP} (hi : (U + 1) * i = 1) : 1 - ((U - 1) * i) * ((U - 1) * i) = 4 * U * (i * i) := by grind
theorem twist_den {e U i a : FP} (hi : (U - 1) * i = 1) (he : e * (a - 2) = a + 2) : (a - 2) * (1 - e * (((U + 1) * i) * ((U + 1) * i))) = -4 * (U * U + a * U + 1) * (i * i) := by grind
theorem twist_num {U i : FP} (hi : (U - 1) * i = 1) : 1 - ((U + 1) * i) * ((U + 1) * i) = -4 * U * (i * i) := by grind
theorem on_fin {b U j d n f g i : FP} (hj : g * j = 1) (hd : b * d = f * g * (i * i)) (hn : n = f * U * (i * i)) : b * U * j * d = n := by grind
theorem on_curve {e U i j r a : FP} (hi : (U + 1) * i = 1) (hj : (U * U + a * U + 1) * j = 1) (he : e * (a + 2) = a - 2) (hr : r * r = (a + 2) * U * (U * U + a * U + 1)) : On e (r * j) ((U - 1) * i) := by
  refine on_of ?_
  rw [root_over hj hr]
  exact on_fin hj (curve_den hi he) (curve_num hi)
theorem on_twist {e U i j r a : FP} (hi : (U - 1) * i = 1) (hj : (U * U + a * U + 1) * j = 1) (he : e * (a - 2) = a + 2) (hr : r * r = (a - 2) * U * (U * U + a * U + 1)) : On e (r * j) ((U + 1) * i) := by
  refine on_of ?_
  rw [root_over hj hr]
  exact on_fin hj (twist_den hi he) (twist_num hi)
theorem phi_val (z : FP) : phi z.val = z := Fin.ext (Nat.mod_eq_of_lt z.isLt)
theorem val_ne {z : FP} (h : z ≠ 0) : ¬ z.val % 57896044618658097711785492504343953926634992332820282019728792003956564819949 = 0 := fun h0 => h (Fin.ext ((Nat.mod_eq_of_lt z.isLt).symm.trans h0))
theorem disc_is : phi 236839902240 = phi 486662 * phi 486662 - 4 := by decide +kernel
theorem a_p : phi 486662 + 2 ≠ 0 := by decide +kernel
theorem e_curve : phi 20800338683988658368647408995589388737092878452977063003340006470870624536394 * (phi 486662 + 2) = phi 486662 - 2 := by decide +kernel
theorem e_twist : phi 28692721048178265397853269683490922171210976843790175684556505508326675974058 * (phi 486662 - 2) = phi 486662 + 2 := by decide +kernel
theorem disc_sq {a c U : FP} (hc : c = a * a - 4) (hg : U * U + a * U + 1 = 0) : (2 * U + a) * (2 * U + a) = c * (1 * 1) := by grind
theorem g_ne (U : FP) : U * U + phi 486662 * U + 1 ≠ 0 := fun h => one_ne (ns_disc _ 1 (disc_sq disc_is h))
theorem curve_m {U i : FP} (hi : (U + 1) * i = 1) : 1 - (U - 1) * i = 2 * i := by grind
theorem curve_p {U i : FP} (hi : (U + 1) * i = 1) : 1 + (U - 1) * i = 2 * U * i := by grind
theorem curve_u {U i : FP} : U * (2 * i) = 1 * (2 * U * i) := by grind
theorem twist_m {U i : FP} (hi : (U - 1) * i = 1) : 1 - (U + 1) * i = -2 * i := by grind
theorem twist_p {U i : FP} (hi : (U - 1) * i = 1) : 1 + (U + 1) * i = 2 * U * i := by grind
theorem twist_u {U i : FP} : U * (-2 * i) = -1 * (2 * U * i) := by grind
theorem mtwo_ne : (-2 : FP) ≠ 0 := by decide +kernel
theorem other_root {a c t r b U g : FP} (hc : c = a * a - 4) (ht : t = (a + 2) * U * g) (hb : (a + 2) * b = 1) (hr : r * r = c * t) : (r * b) * (r * b) = (a - 2) * U * g := by grind
theorem place (U : FP) (h0 : U ≠ 0) (h1 : U - 1 ≠ 0) (h2 : U + 1 ≠ 0) :
    (∃ P : Pt (phi 20800338683988658368647408995589388737092878452977063003340006470870624536394), 1 - P.y ≠ 0 ∧ 1 + P.y ≠ 0 ∧ U * (1 - P.y) = 1 * (1 + P.y)) ∨ (∃ P : Pt (phi 28692721048178265397853269683490922171210976843790175684556505508326675974058), 1 - P.y ≠ 0 ∧ 1 + P.y ≠ 0 ∧ U * (1 - P.y) = -1 * (1 + P.y)) := by
  obtain ⟨j, hj⟩ := fld.inv _ (g_ne U)
  have ht : (phi 486662 + 2) * U * (U * U + phi 486662 * U + 1) ≠ 0 := mul_ne fld (mul_ne fld a_p h0) (g_ne U)
  have hs := sq_or 236839902240 ((phi 486662 + 2) * U * (U * U + phi 486662 * U + 1)).val disc_half (val_ne ht)
  rw [phi_val] at hs
  rcases hs with ⟨r, hr⟩ | ⟨r, hr⟩
  · left
    obtain ⟨i, hi⟩ := fld.inv _ h2
    refine ⟨⟨_, _, on_curve hi hj e_curve hr⟩, ?_, ?_, ?_⟩
    · show 1 - (U - 1) * i ≠ 0
      rw [curve_m hi]
      exact mul_ne fld two_ne (inv_ne hi)
    · show 1 + (U - 1) * i ≠ 0
      rw [curve_p hi]
      exact mul_ne fld (mul_ne fld two_ne h0) (inv_ne hi)
    · show U * (1 - (U - 1) * i) = 1 * (1 + (U - 1) * i)
      rw [curve_m hi, curve_p hi]
      exact curve_u
  · right
    obtain ⟨i, hi⟩ := fld.inv _ h1
    obtain ⟨b, hb⟩ := fld.inv _ a_p
    refine ⟨⟨_, _, on_twist hi hj e_twist (other_root disc_is rfl hb hr)⟩, ?_, ?_, ?_⟩
    · show 1 - (U + 1) * i ≠ 0
      rw [twist_m hi]
      exact mul_ne fld mtwo_ne (inv_ne hi)
    · show 1 + (U + 1) * i ≠ 0
      rw [twist_p hi]
      exact mul_ne fld (mul_ne fld two_ne h0) (inv_ne hi)
    · show U * (1 - (U + 1) * i) = -1 * (1 + (U + 1) * i)
      rw [twist_m hi, twist_p hi]
      exact twist_u
end Go.Proofs.YtanfjkmkfcekmaaDoor
/-
  Two secrets on a point come to the same in either order. Plain arithmetic.
-/
namespace Go.Proofs.YtanfjkmkfcekmaaDoor
open Go Go.RowKit
set_option linter.unusedVariables false
set_option linter.unusedSimpArgs false

theorem low_same (n : Nat) (h : n < 57896044618658097711785492504343953926634992332820282019728792003956564819949) : lowN n % 57896044618658097711785492504343953926634992332820282019728792003956564819949 = n := by
  have e1 : n / 452312848583266388373324160190187140051835877600158453279131187530910662656 = n / 256 / 1766847064778384329583297500742918515827483896875618958121606201292619776 := by rw [Nat.div_div_eq_div_mul]
  have e2 : n / 452312848583266388373324160190187140051835877600158453279131187530910662656 < 128 := by omega
  have e3 : n / 452312848583266388373324160190187140051835877600158453279131187530910662656 % 128 = n / 256 / 1766847064778384329583297500742918515827483896875618958121606201292619776 := by rw [Nat.mod_eq_of_lt e2, e1]
  unfold lowN comp
  rw [e3]
  clear e1 e2 e3
  omega
theorem quot_ltp (l : List Nat) : quotL l < 57896044618658097711785492504343953926634992332820282019728792003956564819949 := by
  unfold quotL
  split
  · exact Nat.mod_lt _ (by decide)
  · decide
theorem XN_ltp (k u : Nat) : XN k u < 57896044618658097711785492504343953926634992332820282019728792003956564819949 := by rw [XN_eq]; exact quot_ltp _
theorem phi_inj {a b : Nat} (ha : a < 57896044618658097711785492504343953926634992332820282019728792003956564819949) (hb : b < 57896044618658097711785492504343953926634992332820282019728792003956564819949) (h : phi a = phi b) : a = b := by
  have h2 : a % 57896044618658097711785492504343953926634992332820282019728792003956564819949 = b % 57896044618658097711785492504343953926634992332820282019728792003956564819949 := congrArg Fin.val h
  rw [Nat.mod_eq_of_lt ha, Nat.mod_eq_of_lt hb] at h2
  exact h2
theorem Lies1.uniq {s y : FP} {u v : Nat} (hu : u < 57896044618658097711785492504343953926634992332820282019728792003956564819949) (hv : v < 57896044618658097711785492504343953926634992332820282019728792003956564819949) (h1 : Lies1 s y u) (h2 : Lies1 s y v) : u = v := by
  have one : (1 : FP) - 1 = 0 := zero_is.symm
  rcases h1 with ⟨y1, rfl⟩ | ⟨n1, e1⟩
  · rcases h2 with ⟨_, rfl⟩ | ⟨n2, _⟩
    · rfl
    · exact absurd (by rw [y1]; exact one) n2
  · rcases h2 with ⟨y2, _⟩ | ⟨_, e2⟩
    · exact absurd (by rw [y2]; exact one) n1
    · exact phi_inj hu hv (cancel fld n1 (e1.trans e2.symm))
theorem x_nil {e x y : FP} (ns : NonSq e) (h : On e x y) (hy : y * y = 1) : x = 0 := by
  unfold On at h
  rw [hy] at h
  have h1 : ∀ w : FP, x * x * (1 - e) + w = w := fun w => by clear hy; grind
  have h2 := h1 0
  rw [Fin.add_zero] at h2
  rcases fld.dom _ _ h2 with h3 | h3
  · rcases fld.dom _ _ h3 with h4 | h4 <;> exact h4
  · exact absurd h3 ns.ne1
theorem Pt.mul_zero {e : FP} (ns : NonSq e) : ∀ n, Pt.mul ns n (Pt.zero e) = Pt.zero e
  | 0 => rfl
  | n + 1 => by
    show (Pt.mul ns n (Pt.zero e)).add ns (Pt.zero e) = _
    rw [Pt.mul_zero ns n, Pt.zero_add]
theorem twice_x {e x y : FP} (h : x = 0) : 0 * (1 + e * x * x * y * y) = x * y + y * x := by
  rw [h, Fin.zero_mul, Fin.zero_mul, Fin.mul_zero, Fin.add_zero]
theorem twice_y {e x y : FP} (h : x = 0) (hy : y * y = 1) : 1 * (1 - e * x * x * y * y) = y * y - x * x := by
  have h2 : 1 * (1 - e * x * x * y * y) - (y * y - x * x) = x * (x - e * x) := by clear h; grind
  rw [hy] at *
  have h3 : x * (x - e * x) = 0 := by rw [h, Fin.zero_mul]
  rw [h3] at h2
  clear h h3
  grind
/-- A point whose second coordinate is 1 or -1: twice it is the neutral one. -/
theorem Pt.two {e : FP} (ns : NonSq e) (Q : Pt e) (hy : Q.y * Q.y = 1) : Q.add ns Q = Pt.zero e := Pt.eq_add ns ⟨twice_x (x_nil ns Q.on hy), twice_y (x_nil ns Q.on hy) hy⟩
theorem Pt.even {e : FP} (ns : NonSq e) (Q : Pt e) (hy : Q.y * Q.y = 1) (n : Nat) : Pt.mul ns (n * 2) Q = Pt.zero e := by
  rw [← Pt.mul_mul, show Pt.mul ns 2 Q = (Pt.mul ns 1 Q).add ns Q from rfl, Pt.one_mul, Pt.two ns Q hy, Pt.mul_zero]
theorem clamp_even (k : Nat) : ∃ m, clampN k = m * 2 := ⟨clampN k / 2, by have := clamp_bit0 k; rw [Nat.pow_zero, Nat.div_one] at this; omega⟩
end Go.Proofs.YtanfjkmkfcekmaaDoor
/-
  Two secrets on a point come to the same in either order. Plain arithmetic.
-/
namespace Go.Proofs.YtanfjkmkfcekmaaDoor
open Go Go.RowKit
set_option linter.unusedVariables false
set_option linter.unusedSimpArgs false

theorem opp_m : (1 : FP) - -1 = 2 := by decide +kernel
theorem opp_p : (1 : FP) + -1 = 0 := by decide +kernel
theorem one_one : (1 : FP) * 1 = 1 := by decide +kernel
theorem phi_nil {v : Nat} (hv : v < 57896044618658097711785492504343953926634992332820282019728792003956564819949) (h : phi v = 0) : v = 0 := phi_inj hv (by decide) (h.trans phi_0.symm)
theorem nil_of {s y : FP} {v : Nat} (hv : v < 57896044618658097711785492504343953926634992332820282019728792003956564819949) (h : Lies1 s y v) (hy : y * y = 1) : v = 0 := by
  rcases h with ⟨_, h⟩ | ⟨h1, h2⟩
  · exact h
  · rcases root_one hy with rfl | rfl
    · exact absurd zero_is.symm h1
    · rw [opp_m, opp_p, Fin.mul_zero] at h2
      rcases fld.dom _ _ h2 with h3 | h3
      · exact phi_nil hv h3
      · exact absurd h3 two_ne
theorem step_lies {e s : FP} (ns : NonSq e) (s1 : s * s = 1) (hk : e * (2 * phi 121665 + 1 + s) = 2 * phi 121665 + 1 - s) (Q : Pt e) (k v : Nat) (hv : v < 57896044618658097711785492504343953926634992332820282019728792003956564819949) (h : Lies1 s Q.y v) : Lies1 s (Pt.mul ns (clampN k) Q).y (XN k v) := by
  by_cases hy : Q.y * Q.y = 1
  · rw [nil_of hv h hy, small_nil]
    obtain ⟨m, hm⟩ := clamp_even k
    rw [hm, Pt.even ns Q hy]
    exact .inl ⟨rfl, rfl⟩
  · rcases h with ⟨h1, _⟩ | ⟨h1, h2⟩
    · exact absurd (by rw [h1]; exact one_one) hy
    · have h0 : 1 + Q.y ≠ 0 := fun h => hy (by
        have h3 : Q.y = -1 := add_opp ((sum_turn _ _).trans h)
        rw [h3]
        exact opp_opp)
      exact XN_lies ns s1 hk Q k v h1 h0 (by rw [low_same v hv]; exact h2)
theorem comm_on {e s : FP} (ns : NonSq e) (s1 : s * s = 1) (hk : e * (2 * phi 121665 + 1 + s) = 2 * phi 121665 + 1 - s) (P : Pt e) (a b u : Nat) (h1 : 1 - P.y ≠ 0) (h0 : 1 + P.y ≠ 0)
    (hu : phi (lowN u % 57896044618658097711785492504343953926634992332820282019728792003956564819949) * (1 - P.y) = s * (1 + P.y)) : XN a (XN b u) = XN b (XN a u) := by
  have A := step_lies ns s1 hk (Pt.mul ns (clampN b) P) a (XN b u) (XN_ltp b u) (XN_lies ns s1 hk P b u h1 h0 hu)
  have B := step_lies ns s1 hk (Pt.mul ns (clampN a) P) b (XN a u) (XN_ltp a u) (XN_lies ns s1 hk P a u h1 h0 hu)
  rw [Pt.mul_mul] at A B
  rw [Nat.mul_comm] at B
  exact Lies1.uniq (XN_ltp _ _) (XN_ltp _ _) A B
theorem XN_of {u v : Nat} (k : Nat) (h : lowN u % 57896044618658097711785492504343953926634992332820282019728792003956564819949 = lowN v % 57896044618658097711785492504343953926634992332820282019728792003956564819949) : XN k u = XN k v := by rw [XN_eq, XN_eq, h]
theorem sub_one_sq {x : FP} (h : x - 1 = 0) : x * x = 1 := by
  have h2 : x * x = (x - 1) * (x + 1) + 1 := by clear h; grind
  rw [h, Fin.zero_mul, Fin.zero_add] at h2
  exact h2
theorem add_one_sq {x : FP} (h : x + 1 = 0) : x * x = 1 := by
  have h2 : x * x = (x + 1) * (x - 1) + 1 := by clear h; grind
  rw [h, Fin.zero_mul, Fin.zero_add] at h2
  exact h2
theorem XN_comm (a b u : Nat) : XN a (XN b u) = XN b (XN a u) := by
  have hx : lowN u % 57896044618658097711785492504343953926634992332820282019728792003956564819949 < 57896044618658097711785492504343953926634992332820282019728792003956564819949 := Nat.mod_lt _ (by decide)
  have small : (∀ k, XN k u = 0) → XN a (XN b u) = XN b (XN a u) := fun h => by rw [h a, h b, small_nil, small_nil]
  have sq : phi (lowN u % 57896044618658097711785492504343953926634992332820282019728792003956564819949) * phi (lowN u % 57896044618658097711785492504343953926634992332820282019728792003956564819949) = 1 → XN a (XN b u) = XN b (XN a u) := fun h => small fun k => by
    rw [XN_of k (low_same _ hx).symm]
    exact small_one k _ (low_same _ hx) h
  by_cases h0 : phi (lowN u % 57896044618658097711785492504343953926634992332820282019728792003956564819949) = 0
  · refine small fun k => ?_
    have h := phi_nil hx h0
    rw [XN_of (v := 0) k (by rw [h, low_zero'])]
    exact small_nil k
  · by_cases h1 : phi (lowN u % 57896044618658097711785492504343953926634992332820282019728792003956564819949) - 1 = 0
    · exact sq (sub_one_sq h1)
    · by_cases h2 : phi (lowN u % 57896044618658097711785492504343953926634992332820282019728792003956564819949) + 1 = 0
      · exact sq (add_one_sq h2)
      · rcases place _ h0 h1 h2 with ⟨P, p1, p2, p3⟩ | ⟨P, p1, p2, p3⟩
        · exact comm_on ns_curve one_one k_curve P a b u p1 p2 p3
        · exact comm_on ns_twist opp_opp k_twist P a b u p1 p2 p3
end Go.Proofs.YtanfjkmkfcekmaaDoor
