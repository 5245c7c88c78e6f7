/-
  Joined texts: ED EF EG EH EI.
-/
import Derived.Test.YtanfjkmkfcekmaaDoorSM
/-
  The curve and its twist, as complete Edwards curves over the field of p: sums, their associativity, what twice a point and the sum and difference of two are on the line. Plain arithmetic.
-/
namespace Go.Proofs.YtanfjkmkfcekmaaDoor
open Go Go.RowKit
set_option linter.unusedVariables false
set_option linter.unusedSimpArgs false

structure Fld : Prop where
  dom : ∀ a b : FP, a * b = 0 → a = 0 ∨ b = 0
  inv : ∀ a : FP, a ≠ 0 → ∃ b, a * b = 1
def NonSq (e : FP) : Prop := ∀ z w : FP, z * z = e * (w * w) → w = 0
def On (e x y : FP) : Prop := x * x + y * y = 1 + e * (x * x) * (y * y)
structure Adds (e x1 y1 x2 y2 x y : FP) : Prop where
  hx : x * (1 + e * x1 * x2 * y1 * y2) = x1 * y2 + y1 * x2
  hy : y * (1 - e * x1 * x2 * y1 * y2) = y1 * y2 - x1 * x2
theorem two_ne : (2 : FP) ≠ 0 := by decide
theorem one_ne : (1 : FP) ≠ 0 := by decide
theorem den_no {e x1 y1 x2 y2 t : FP} (ns : NonSq e) (h1 : On e x1 y1) (h2 : On e x2 y2) (ht : t * t = 1) (h : e * x1 * x2 * y1 * y2 = t) : False := by
  unfold On at h1 h2
  have a1 : x1 * y1 * (x2 + y2) = 0 := ns (x1 + t * y1) _ (by grind)
  have a2 : x1 * y1 * (x2 - y2) = 0 := ns (x1 - t * y1) _ (by grind)
  have a3 : x1 * y1 * x2 * 2 = 0 := by grind
  have a4 : (2 : FP) = t * (e * y2) * (x1 * y1 * x2 * 2) := by grind
  exact two_ne (by rw [a4, a3]; grind)
theorem den_p {e x1 y1 x2 y2 : FP} (ns : NonSq e) (h1 : On e x1 y1) (h2 : On e x2 y2) : 1 + e * x1 * x2 * y1 * y2 ≠ 0 := fun h => den_no ns h1 h2 (t := -1) (by grind) (by grind)
theorem den_m {e x1 y1 x2 y2 : FP} (ns : NonSq e) (h1 : On e x1 y1) (h2 : On e x2 y2) : 1 - e * x1 * x2 * y1 * y2 ≠ 0 := fun h => den_no ns h1 h2 (t := 1) (by grind) (by grind)
theorem cancel (F : Fld) {d a b : FP} (hd : d ≠ 0) (h : a * d = b * d) : a = b := by
  have : (a - b) * d = 0 := by grind
  rcases F.dom _ _ this with h | h
  · grind
  · exact absurd h hd
theorem Adds.ex (F : Fld) {e x1 y1 x2 y2 : FP} (ns : NonSq e) (h1 : On e x1 y1) (h2 : On e x2 y2) : ∃ x y, Adds e x1 y1 x2 y2 x y := by
  obtain ⟨i, hi⟩ := F.inv _ (den_p ns h1 h2)
  obtain ⟨j, hj⟩ := F.inv _ (den_m ns h1 h2)
  exact ⟨(x1 * y2 + y1 * x2) * i, (y1 * y2 - x1 * x2) * j, by grind, by grind⟩
theorem Adds.uniq (F : Fld) {e x1 y1 x2 y2 x y x' y' : FP} (ns : NonSq e) (h1 : On e x1 y1) (h2 : On e x2 y2) (h : Adds e x1 y1 x2 y2 x y) (h' : Adds e x1 y1 x2 y2 x' y') : x = x' ∧ y = y' :=
  ⟨cancel F (den_p ns h1 h2) (h.hx.trans h'.hx.symm), cancel F (den_m ns h1 h2) (h.hy.trans h'.hy.symm)⟩
theorem Adds.comm {e x1 y1 x2 y2 x y : FP} (h : Adds e x1 y1 x2 y2 x y) : Adds e x2 y2 x1 y1 x y := ⟨by have := h.hx; grind, by have := h.hy; grind⟩
theorem closed_poly (e x1 y1 x2 y2 : FP) (h1 : On e x1 y1) (h2 : On e x2 y2) :
    (x1 * y2 + y1 * x2) * (x1 * y2 + y1 * x2) * ((1 - e * x1 * x2 * y1 * y2) * (1 - e * x1 * x2 * y1 * y2)) + (y1 * y2 - x1 * x2) * (y1 * y2 - x1 * x2) * ((1 + e * x1 * x2 * y1 * y2) * (1 + e * x1 * x2 * y1 * y2))
    = (1 - e * x1 * x2 * y1 * y2) * (1 - e * x1 * x2 * y1 * y2) * ((1 + e * x1 * x2 * y1 * y2) * (1 + e * x1 * x2 * y1 * y2)) + e * ((x1 * y2 + y1 * x2) * (x1 * y2 + y1 * x2)) * ((y1 * y2 - x1 * x2) * (y1 * y2 - x1 * x2)) := by
  unfold On at h1 h2
  grind
theorem Adds.on (F : Fld) {e x1 y1 x2 y2 x y : FP} (ns : NonSq e) (h1 : On e x1 y1) (h2 : On e x2 y2) (h : Adds e x1 y1 x2 y2 x y) : On e x y := by
  have hp := closed_poly e x1 y1 x2 y2 h1 h2
  have d1 := den_p ns h1 h2
  have d2 := den_m ns h1 h2
  rw [← h.hx, ← h.hy] at hp
  clear h
  generalize 1 + e * x1 * x2 * y1 * y2 = p at *
  generalize 1 - e * x1 * x2 * y1 * y2 = m at *
  refine cancel F d1 (cancel F d1 (cancel F d2 (cancel F d2 ?_)))
  grind

theorem NonSq.ne {e y : FP} (ns : NonSq e) : 1 - e * (y * y) ≠ 0 := fun h => by
  have h0 : y = 0 := ns 1 y (by grind)
  have h2 : (1 : FP) = e * y * y := by clear h0; grind
  rw [h0] at h2
  exact one_ne (h2.trans (Fin.mul_zero _))
theorem mul_ne (F : Fld) {a b : FP} (ha : a ≠ 0) (hb : b ≠ 0) : a * b ≠ 0 := fun h => (F.dom _ _ h).elim ha hb
theorem NonSq.inv (F : Fld) {e : FP} (ns : NonSq e) : ∃ f, e * f = 1 := F.inv e (fun h => by
  have h1 : (1 : FP) = 0 := ns 0 1 (by rw [h]; grind)
  exact one_ne h1)
theorem assoc_x (e f x1 y1 x2 y2 x3 y3 : FP) (hf : e * f = 1) (h1 : x1^2 * y1^2 = f * (x1^2 + y1^2 - 1)) (h2 : x2^2 * y2^2 = f * (x2^2 + y2^2 - 1)) (h3 : x3^2 * y3^2 = f * (x3^2 + y3^2 - 1)) :
  ((x1*y2+y1*x2)*(1 - e*x1*x2*y1*y2)*y3 + (y1*y2-x1*x2)*(1 + e*x1*x2*y1*y2)*x3) * ((1+e*x2*x3*y2*y3)*(1-e*x2*x3*y2*y3) + e*x1*y1*(x2*y3+y2*x3)*(y2*y3-x2*x3))
  = (x1*(y2*y3-x2*x3)*(1+e*x2*x3*y2*y3) + y1*(x2*y3+y2*x3)*(1-e*x2*x3*y2*y3)) * ((1+e*x1*x2*y1*y2)*(1-e*x1*x2*y1*y2) + e*(x1*y2+y1*x2)*(y1*y2-x1*x2)*x3*y3) := by
  grind
theorem assoc_y (e f x1 y1 x2 y2 x3 y3 : FP) (hf : e * f = 1) (h1 : x1^2 * y1^2 = f * (x1^2 + y1^2 - 1)) (h2 : x2^2 * y2^2 = f * (x2^2 + y2^2 - 1)) (h3 : x3^2 * y3^2 = f * (x3^2 + y3^2 - 1)) :
  ((y1*y2-x1*x2)*(1 + e*x1*x2*y1*y2)*y3 - (x1*y2+y1*x2)*(1 - e*x1*x2*y1*y2)*x3) * ((1+e*x2*x3*y2*y3)*(1-e*x2*x3*y2*y3) - e*x1*y1*(x2*y3+y2*x3)*(y2*y3-x2*x3))
  = (y1*(y2*y3-x2*x3)*(1+e*x2*x3*y2*y3) - x1*(x2*y3+y2*x3)*(1-e*x2*x3*y2*y3)) * ((1+e*x1*x2*y1*y2)*(1-e*x1*x2*y1*y2) - e*(x1*y2+y1*x2)*(y1*y2-x1*x2)*x3*y3) := by
  grind
theorem On.f {e f x y : FP} (hf : e * f = 1) (h : On e x y) : x^2 * y^2 = f * (x^2 + y^2 - 1) := by
  unfold On at h
  grind
/-- Two fractions are the same if their cross products are. -/
theorem cross (F : Fld) {x x' n n' d d' : FP} (hd : d ≠ 0) (hd' : d' ≠ 0) (h : x * d = n) (h' : x' * d' = n') (hc : n * d' = n' * d) : x = x' :=
  cancel F hd (cancel F hd' (by subst h; subst h'; grind))
theorem Adds.assoc (F : Fld) {e x1 y1 x2 y2 x3 y3 a b c d x y x' y' : FP} (ns : NonSq e) (h1 : On e x1 y1) (h2 : On e x2 y2) (h3 : On e x3 y3) (h12 : Adds e x1 y1 x2 y2 a b) (h23 : Adds e x2 y2 x3 y3 c d)
    (hl : Adds e a b x3 y3 x y) (hr : Adds e x1 y1 c d x' y') : x = x' ∧ y = y' := by
  obtain ⟨f, hf⟩ := ns.inv F
  have hx := assoc_x e f x1 y1 x2 y2 x3 y3 hf (h1.f hf) (h2.f hf) (h3.f hf)
  have hy := assoc_y e f x1 y1 x2 y2 x3 y3 hf (h1.f hf) (h2.f hf) (h3.f hf)
  have o12 := h12.on F ns h1 h2
  have o23 := h23.on F ns h2 h3
  have p12 := den_p ns h1 h2
  have m12 := den_m ns h1 h2
  have p23 := den_p ns h2 h3
  have m23 := den_m ns h2 h3
  have pl := den_p ns o12 h3
  have ml := den_m ns o12 h3
  have pr := den_p ns h1 o23
  have mr := den_m ns h1 o23
  obtain ⟨a1, a2⟩ := h12
  obtain ⟨b1, b2⟩ := h23
  obtain ⟨c1, c2⟩ := hl
  obtain ⟨d1, d2⟩ := hr
  rw [← a1, ← a2, ← b1, ← b2] at hx hy
  clear a1 a2 b1 b2 h1 h2 h3 o12 o23 hf
  generalize 1 + e * x1 * x2 * y1 * y2 = P at *
  generalize 1 - e * x1 * x2 * y1 * y2 = M at *
  generalize 1 + e * x2 * x3 * y2 * y3 = P' at *
  generalize 1 - e * x2 * x3 * y2 * y3 = M' at *
  have k : P * M ≠ 0 := mul_ne F p12 m12
  have k' : P' * M' ≠ 0 := mul_ne F p23 m23
  constructor
  · refine cross F pl pr c1 d1 (cancel F k (cancel F k' ?_))
    clear c1 c2 d1 d2 pl ml pr mr k k' p12 m12 p23 m23 hy F ns
    grind
  · refine cross F ml mr c2 d2 (cancel F k (cancel F k' ?_))
    clear c1 c2 d1 d2 pl ml pr mr k k' p12 m12 p23 m23 hx F ns
    grind
theorem Adds.twice {e x y u v : FP} (h : On e x y) (hs : Adds e x y x y u v) :
    (1 + v) * ((1 - e * x * x * y * y) * (1 - e * (y * y))) = 2 * (y * y) * (1 - e) ∧ (1 - v) * ((1 - e * x * x * y * y) * (1 - e * (y * y))) = 2 * (1 - y * y) * (1 - e * (y * y)) := by
  obtain ⟨_, h2⟩ := hs
  unfold On at h
  constructor <;> grind
theorem On.sq {e x y : FP} (h : On e x y) : x * x * (1 - e * (y * y)) = 1 - y * y := by
  unfold On at h
  grind
theorem fr_p {m y n : FP} (h : y * m = n) : (1 + y) * m = m + n := by grind
theorem fr_m {m y n : FP} (h : y * m = n) : (1 - y) * m = m - n := by grind
theorem neg_p {e x1 y1 x2 y2 yp : FP} (h : yp * (1 - e * x2 * (-x1) * y2 * y1) = y2 * y1 - x2 * (-x1)) : yp * (1 + e * x1 * x2 * y1 * y2) = y1 * y2 + x1 * x2 := by grind
theorem both_p {e x1 y1 x2 y2 : FP} (q1 : x1 * x1 * (1 - e * (y1 * y1)) = 1 - y1 * y1) (q2 : x2 * x2 * (1 - e * (y2 * y2)) = 1 - y2 * y2) :
    (1 - e * x1 * x2 * y1 * y2 + (y1 * y2 - x1 * x2)) * (1 + e * x1 * x2 * y1 * y2 + (y1 * y2 + x1 * x2)) * ((1 - e * (y1 * y1)) * (1 - e * (y2 * y2))) = (1 - e) * (1 - e * ((y1 * y2) * (y1 * y2))) * ((y1 + y2) * (y1 + y2)) := by grind
theorem both_m {e x1 y1 x2 y2 : FP} (q1 : x1 * x1 * (1 - e * (y1 * y1)) = 1 - y1 * y1) (q2 : x2 * x2 * (1 - e * (y2 * y2)) = 1 - y2 * y2) :
    (1 - e * x1 * x2 * y1 * y2 - (y1 * y2 - x1 * x2)) * (1 + e * x1 * x2 * y1 * y2 - (y1 * y2 + x1 * x2)) * ((1 - e * (y1 * y1)) * (1 - e * (y2 * y2))) = (1 - e) * (1 - e * ((y1 * y2) * (y1 * y2))) * ((y1 - y2) * (y1 - y2)) := by grind
theorem regroup (a b c d g : FP) : a * b * (c * d * g) = (a * c) * (b * d) * g := by grind
theorem Adds.both {e x1 y1 x2 y2 xs ys xp yp : FP} (h1 : On e x1 y1) (h2 : On e x2 y2) (hs : Adds e x1 y1 x2 y2 xs ys) (hp : Adds e x2 y2 (-x1) y1 xp yp) :
    (1 + ys) * (1 + yp) * ((1 - e * x1 * x2 * y1 * y2) * (1 + e * x1 * x2 * y1 * y2) * ((1 - e * (y1 * y1)) * (1 - e * (y2 * y2)))) = (1 - e) * (1 - e * ((y1 * y2) * (y1 * y2))) * ((y1 + y2) * (y1 + y2)) ∧
    (1 - ys) * (1 - yp) * ((1 - e * x1 * x2 * y1 * y2) * (1 + e * x1 * x2 * y1 * y2) * ((1 - e * (y1 * y1)) * (1 - e * (y2 * y2)))) = (1 - e) * (1 - e * ((y1 * y2) * (y1 * y2))) * ((y1 - y2) * (y1 - y2)) := by
  have p3 := neg_p hp.hy
  rw [regroup, regroup, fr_p hs.hy, fr_m hs.hy, fr_p p3, fr_m p3]
  exact ⟨both_p h1.sq h2.sq, both_m h1.sq h2.sq⟩
end Go.Proofs.YtanfjkmkfcekmaaDoor
/-
  What the ladder's step makes of points of an Edwards curve, seen on the line. Plain arithmetic.
-/
namespace Go.Proofs.YtanfjkmkfcekmaaDoor
open Go Go.RowKit
set_option linter.unusedVariables false
set_option linter.unusedSimpArgs false

theorem fld : Fld where
  dom := fun a b h => by
    have h0 : a.val * b.val % Pn % Pn = 0 := by
      have := congrArg Fin.val h
      rw [Fin.val_mul] at this
      rw [this]
      exact Nat.zero_mod _
    have hz := zero_product prime_p a.val b.val
    rw [decide_eq_true (show a.val * b.val % 57896044618658097711785492504343953926634992332820282019728792003956564819949 % 57896044618658097711785492504343953926634992332820282019728792003956564819949 = 0 from h0)] at hz
    have hz' := hz.symm
    rw [Bool.or_eq_true, decide_eq_true_eq, decide_eq_true_eq] at hz'
    rcases hz' with h | h
    · left
      apply Fin.ext
      have := Nat.mod_eq_of_lt a.isLt
      exact this.symm.trans h
    · right
      apply Fin.ext
      have := Nat.mod_eq_of_lt b.isLt
      exact this.symm.trans h
  inv := fun a ha => by
    refine ⟨phi (invOf a.val), ?_⟩
    have hn : ¬ a.val % 57896044618658097711785492504343953926634992332820282019728792003956564819949 = 0 := fun h => ha (by
      apply Fin.ext
      have := Nat.mod_eq_of_lt a.isLt
      exact this.symm.trans h)
    have h1 := inv_one a.val hn
    apply Fin.ext
    rw [Fin.val_mul]
    show a.val * (invOf a.val % Pn) % Pn = 1
    rw [Nat.mul_mod, Nat.mod_mod, ← Nat.mul_mod]
    exact h1

/-- (X : Z) is where the point's second coordinate y lies on the line (s: on the curve 1, on the twist -1). -/
def Rep (s y X Z : FP) : Prop := ∃ l : FP, l ≠ 0 ∧ X = l * (s * (1 + y)) ∧ Z = l * (1 - y)

theorem i_four {e k s i : FP} (s1 : s * s = 1) (hk : e * (2 * k + 1 + s) = 2 * k + 1 - s) (hi : (1 - e) * i = 1) : 4 * i = 2 * s * (2 * k + 1) + 2 := by grind
theorem dbl_x {l s y m g v e i : FP} (s1 : s * s = 1) (hi : (1 - e) * i = 1) (h : (1 + v) * g = 2 * (y * y) * (1 - e)) :
    (l * (s * (1 + y)) + l * (1 - y)) * (l * (s * (1 + y)) + l * (1 - y)) * ((l * (s * (1 + y)) - l * (1 - y)) * (l * (s * (1 + y)) - l * (1 - y))) = 8 * (l * l * (l * l)) * s * i * g * (s * (1 + v)) := by
  have e1 : 8 * (l * l * (l * l)) * s * i * g * (s * (1 + v)) = 16 * (l * l * (l * l)) * (y * y) := by grind
  rw [e1]
  clear h hi e1
  grind
theorem dbl_z {l s y g v e i k : FP} (s1 : s * s = 1) (i4 : 4 * i = 2 * s * (2 * k + 1) + 2) (hi : (1 - e) * i = 1) (h : (1 - v) * g = 2 * (1 - y * y) * (1 - e * (y * y))) :
    ((l * (s * (1 + y)) + l * (1 - y)) * (l * (s * (1 + y)) + l * (1 - y)) - (l * (s * (1 + y)) - l * (1 - y)) * (l * (s * (1 + y)) - l * (1 - y))) * ((l * (s * (1 + y)) + l * (1 - y)) * (l * (s * (1 + y)) + l * (1 - y)) + k * ((l * (s * (1 + y)) + l * (1 - y)) * (l * (s * (1 + y)) + l * (1 - y)) - (l * (s * (1 + y)) - l * (1 - y)) * (l * (s * (1 + y)) - l * (1 - y)))) = 8 * (l * l * (l * l)) * s * i * g * (1 - v) := by
  have a1 : (l * (s * (1 + y)) + l * (1 - y)) * (l * (s * (1 + y)) + l * (1 - y)) - (l * (s * (1 + y)) - l * (1 - y)) * (l * (s * (1 + y)) - l * (1 - y)) = l * l * (4 * s * (1 - y * y)) := by grind
  have a2 : (l * (s * (1 + y)) + l * (1 - y)) * (l * (s * (1 + y)) + l * (1 - y)) = l * l * (2 + 2 * (y * y) + 2 * s * (1 - y * y)) := by grind
  have a3 : 8 * (l * l * (l * l)) * s * i * g * (1 - v) = 4 * (l * l * (l * l)) * s * (1 - y * y) * (4 * i * (1 - e * (y * y))) := by grind
  have a4 : 4 * i * (1 - e * (y * y)) = 4 * (y * y) + 4 * i * (1 - y * y) := by clear a1 a2 a3 h i4; grind
  rw [a1, a2, a3, a4, i4]
  clear a1 a2 a3 a4 i4 hi h
  grind
theorem sixteen_ne : (16 : FP) ≠ 0 := by decide
theorem eight_ne : (8 : FP) ≠ 0 := by decide
theorem sign_ne {s : FP} (h : s * s = 1) : s ≠ 0 := fun h0 => one_ne (by rw [← h, h0]; exact Fin.mul_zero _)
theorem inv_ne {a b : FP} (h : a * b = 1) : b ≠ 0 := fun h0 => one_ne (by rw [← h, h0]; exact Fin.mul_zero _)
theorem NonSq.ne1 {e : FP} (ns : NonSq e) : 1 - e ≠ 0 := fun h => ns.ne (y := 1) (by rw [← h]; grind)

theorem Rep.dbl {e s k x y u v X Z : FP} (ns : NonSq e) (h : On e x y) (hs : Adds e x y x y u v) (s1 : s * s = 1) (hk : e * (2 * k + 1 + s) = 2 * k + 1 - s) (hr : Rep s y X Z) :
    Rep s v ((X + Z) * (X + Z) * ((X - Z) * (X - Z))) (((X + Z) * (X + Z) - (X - Z) * (X - Z)) * ((X + Z) * (X + Z) + k * ((X + Z) * (X + Z) - (X - Z) * (X - Z)))) := by
  obtain ⟨l, hl, rfl, rfl⟩ := hr
  obtain ⟨i, hi⟩ := fld.inv _ ns.ne1
  obtain ⟨t1, t2⟩ := hs.twice h
  have hg : (1 - e * x * x * y * y) * (1 - e * (y * y)) ≠ 0 := mul_ne fld (den_m ns h h) ns.ne
  refine ⟨8 * (l * l * (l * l)) * s * i * ((1 - e * x * x * y * y) * (1 - e * (y * y))), ?_, dbl_x (m := 0) s1 hi t1, dbl_z s1 (i_four s1 hk hi) hi t2⟩
  exact mul_ne fld (mul_ne fld (mul_ne fld (mul_ne fld eight_ne (mul_ne fld (mul_ne fld hl hl) (mul_ne fld hl hl))) (sign_ne s1)) (inv_ne hi)) hg

theorem dadd_x {l m s y1 y2 ys yp V W j : FP} (s1 : s * s = 1) (hj : W * j = 1) (h : (1 + ys) * (1 + yp) * V = W * ((y1 + y2) * (y1 + y2))) :
    ((m * (s * (1 + y2)) + m * (1 - y2)) * (l * (s * (1 + y1)) - l * (1 - y1)) + (m * (s * (1 + y2)) - m * (1 - y2)) * (l * (s * (1 + y1)) + l * (1 - y1))) * ((m * (s * (1 + y2)) + m * (1 - y2)) * (l * (s * (1 + y1)) - l * (1 - y1)) + (m * (s * (1 + y2)) - m * (1 - y2)) * (l * (s * (1 + y1)) + l * (1 - y1))) = 16 * (l * l * (m * m)) * V * s * (1 + yp) * j * (s * (1 + ys)) := by
  have a1 : (m * (s * (1 + y2)) + m * (1 - y2)) * (l * (s * (1 + y1)) - l * (1 - y1)) + (m * (s * (1 + y2)) - m * (1 - y2)) * (l * (s * (1 + y1)) + l * (1 - y1)) = 4 * (l * m) * (y1 + y2) := by clear h hj; grind
  have a2 : 16 * (l * l * (m * m)) * V * s * (1 + yp) * j * (s * (1 + ys)) = 16 * (l * l * (m * m)) * j * (s * s) * ((1 + ys) * (1 + yp) * V) := by clear h hj a1 s1; grind
  rw [a1, a2, h, s1]
  clear a1 a2 h s1
  grind
theorem dadd_z {l m s y1 y2 ys yp V W j u : FP} (s1 : s * s = 1) (hj : W * j = 1) (hu : u * (1 - yp) = s * (1 + yp)) (h : (1 - ys) * (1 - yp) * V = W * ((y1 - y2) * (y1 - y2))) :
    u * (((m * (s * (1 + y2)) + m * (1 - y2)) * (l * (s * (1 + y1)) - l * (1 - y1)) - (m * (s * (1 + y2)) - m * (1 - y2)) * (l * (s * (1 + y1)) + l * (1 - y1))) * ((m * (s * (1 + y2)) + m * (1 - y2)) * (l * (s * (1 + y1)) - l * (1 - y1)) - (m * (s * (1 + y2)) - m * (1 - y2)) * (l * (s * (1 + y1)) + l * (1 - y1)))) = 16 * (l * l * (m * m)) * V * s * (1 + yp) * j * (1 - ys) := by
  have a1 : (m * (s * (1 + y2)) + m * (1 - y2)) * (l * (s * (1 + y1)) - l * (1 - y1)) - (m * (s * (1 + y2)) - m * (1 - y2)) * (l * (s * (1 + y1)) + l * (1 - y1)) = 4 * (l * m) * s * (y1 - y2) := by clear h hj hu s1; grind
  have a2 : 16 * (l * l * (m * m)) * V * s * (1 + yp) * j * (1 - ys) = 16 * (l * l * (m * m)) * j * u * ((1 - ys) * (1 - yp) * V) := by clear h hj a1 s1; grind
  rw [a1, a2, h]
  clear a1 a2 h hu
  grind
/-- The sum of two points whose difference lies at u, which is not 0. -/
theorem Rep.dadd {e s x1 y1 x2 y2 xs ys xp yp u X2 Z2 X3 Z3 : FP} (ns : NonSq e) (h1 : On e x1 y1) (h2 : On e x2 y2) (hs : Adds e x1 y1 x2 y2 xs ys) (hp : Adds e x2 y2 (-x1) y1 xp yp) (s1 : s * s = 1)
    (hu : u * (1 - yp) = s * (1 + yp)) (h0 : 1 + yp ≠ 0) (r1 : Rep s y1 X2 Z2) (r2 : Rep s y2 X3 Z3) :
    Rep s ys (((X3 + Z3) * (X2 - Z2) + (X3 - Z3) * (X2 + Z2)) * ((X3 + Z3) * (X2 - Z2) + (X3 - Z3) * (X2 + Z2))) (u * (((X3 + Z3) * (X2 - Z2) - (X3 - Z3) * (X2 + Z2)) * ((X3 + Z3) * (X2 - Z2) - (X3 - Z3) * (X2 + Z2)))) := by
  obtain ⟨l, hl, rfl, rfl⟩ := r1
  obtain ⟨m, hm, rfl, rfl⟩ := r2
  obtain ⟨b1, b2⟩ := hs.both h1 h2 hp
  obtain ⟨j, hj⟩ := fld.inv _ (mul_ne fld ns.ne1 (ns.ne (y := y1 * y2)))
  have hV : (1 - e * x1 * x2 * y1 * y2) * (1 + e * x1 * x2 * y1 * y2) * ((1 - e * (y1 * y1)) * (1 - e * (y2 * y2))) ≠ 0 := mul_ne fld (mul_ne fld (den_m ns h1 h2) (den_p ns h1 h2)) (mul_ne fld ns.ne ns.ne)
  refine ⟨16 * (l * l * (m * m)) * _ * s * (1 + yp) * j, ?_, dadd_x s1 hj b1, dadd_z s1 hj hu b2⟩
  exact mul_ne fld (mul_ne fld (mul_ne fld (mul_ne fld (mul_ne fld sixteen_ne (mul_ne fld (mul_ne fld hl hl) (mul_ne fld hm hm))) hV) (sign_ne s1)) h0) (inv_ne hj)
end Go.Proofs.YtanfjkmkfcekmaaDoor
/-
  The points of a complete Edwards curve: sums, multiples, and multiples of multiples. Plain arithmetic.
-/
namespace Go.Proofs.YtanfjkmkfcekmaaDoor
open Go Go.RowKit
set_option linter.unusedVariables false
set_option linter.unusedSimpArgs false

structure Pt (e : FP) where
  x : FP
  y : FP
  on : On e x y
theorem Pt.same {e : FP} {P Q : Pt e} (hx : P.x = Q.x) (hy : P.y = Q.y) : P = Q := by
  cases P; cases Q; simp at hx hy; subst hx; subst hy; rfl
theorem Pt.ex {e : FP} (ns : NonSq e) (P Q : Pt e) : ∃ R : Pt e, Adds e P.x P.y Q.x Q.y R.x R.y := by
  obtain ⟨x, y, h⟩ := Adds.ex fld ns P.on Q.on
  exact ⟨⟨x, y, h.on fld ns P.on Q.on⟩, h⟩
noncomputable def Pt.add {e : FP} (ns : NonSq e) (P Q : Pt e) : Pt e := Classical.choose (Pt.ex ns P Q)
theorem Pt.adds {e : FP} (ns : NonSq e) (P Q : Pt e) : Adds e P.x P.y Q.x Q.y (P.add ns Q).x (P.add ns Q).y := Classical.choose_spec (Pt.ex ns P Q)
theorem Pt.eq_add {e : FP} (ns : NonSq e) {P Q R : Pt e} (h : Adds e P.x P.y Q.x Q.y R.x R.y) : P.add ns Q = R := by
  obtain ⟨h1, h2⟩ := (Pt.adds ns P Q).uniq fld ns P.on Q.on h
  exact Pt.same h1 h2
theorem Pt.comm {e : FP} (ns : NonSq e) (P Q : Pt e) : P.add ns Q = Q.add ns P := Pt.eq_add ns (Pt.adds ns Q P).comm
theorem Pt.assoc {e : FP} (ns : NonSq e) (P Q R : Pt e) : (P.add ns Q).add ns R = P.add ns (Q.add ns R) := by
  obtain ⟨h1, h2⟩ := Adds.assoc fld ns P.on Q.on R.on (Pt.adds ns P Q) (Pt.adds ns Q R) (Pt.adds ns (P.add ns Q) R) (Pt.adds ns P (Q.add ns R))
  exact Pt.same h1 h2
theorem on_zero (e : FP) : On e 0 1 := by
  unfold On
  rw [Fin.mul_zero, Fin.mul_one, Fin.mul_zero, Fin.zero_mul, Fin.zero_add, Fin.add_zero]
def Pt.zero (e : FP) : Pt e := ⟨0, 1, on_zero e⟩
theorem zero_x (e x y z : FP) (hz : z = 0) : x * (1 + e * z * x * 1 * y) = z * y + 1 * x := by
  have h : x * (1 + e * z * x * 1 * y) - (z * y + 1 * x) = z * (e * x * x * y - y) := by grind
  rw [hz, Fin.zero_mul] at h
  rw [hz]
  grind
theorem zero_y (e x y z : FP) (hz : z = 0) : y * (1 - e * z * x * 1 * y) = 1 * y - z * x := by
  have h : y * (1 - e * z * x * 1 * y) - (1 * y - z * x) = z * (x - e * x * y * y) := by grind
  rw [hz, Fin.zero_mul] at h
  rw [hz]
  grind
theorem Pt.zero_add {e : FP} (ns : NonSq e) (P : Pt e) : (Pt.zero e).add ns P = P := Pt.eq_add ns ⟨zero_x e P.x P.y 0 rfl, zero_y e P.x P.y 0 rfl⟩
theorem Pt.add_zero {e : FP} (ns : NonSq e) (P : Pt e) : P.add ns (Pt.zero e) = P := (Pt.comm ns P _).trans (Pt.zero_add ns P)
theorem on_neg {e x y : FP} (h : On e x y) : On e (-x) y := by
  unfold On at *
  grind
def Pt.neg {e : FP} (P : Pt e) : Pt e := ⟨-P.x, P.y, on_neg P.on⟩
theorem neg_x (e x y z : FP) (hz : z = 0) : z * (1 + e * x * (-x) * y * y) = x * y + y * (-x) := by
  have h : ∀ w : FP, x * y + y * (-x) + w = w := fun w => by clear hz; grind
  have h0 := h 0
  rw [Fin.add_zero] at h0
  rw [hz, Fin.zero_mul]
  exact h0.symm
theorem neg_y {e x y : FP} (h : On e x y) : 1 * (1 - e * x * (-x) * y * y) = y * y - x * (-x) := by
  unfold On at h
  grind
theorem Pt.add_neg {e : FP} (ns : NonSq e) (P : Pt e) : P.add ns P.neg = Pt.zero e := Pt.eq_add ns ⟨neg_x e P.x P.y 0 rfl, neg_y P.on⟩

noncomputable def Pt.mul {e : FP} (ns : NonSq e) : Nat → Pt e → Pt e
  | 0, _ => Pt.zero e
  | n + 1, P => (Pt.mul ns n P).add ns P
theorem Pt.mul_add {e : FP} (ns : NonSq e) (m : Nat) (P : Pt e) : ∀ n, Pt.mul ns (m + n) P = (Pt.mul ns m P).add ns (Pt.mul ns n P)
  | 0 => (Pt.add_zero ns _).symm
  | n + 1 => by
    show (Pt.mul ns (m + n) P).add ns P = (Pt.mul ns m P).add ns ((Pt.mul ns n P).add ns P)
    rw [Pt.mul_add ns m P n, Pt.assoc]
theorem Pt.mul_mul {e : FP} (ns : NonSq e) (n : Nat) (P : Pt e) : ∀ m, Pt.mul ns m (Pt.mul ns n P) = Pt.mul ns (m * n) P
  | 0 => by rw [Nat.zero_mul]; rfl
  | m + 1 => by
    show (Pt.mul ns m (Pt.mul ns n P)).add ns (Pt.mul ns n P) = _
    rw [Pt.mul_mul ns n P m, Nat.succ_mul, Pt.mul_add]
theorem Pt.one_mul {e : FP} (ns : NonSq e) (P : Pt e) : Pt.mul ns 1 P = P := Pt.zero_add ns P
/-- The difference of a multiple and the one before it. -/
theorem Pt.diff {e : FP} (ns : NonSq e) (n : Nat) (P : Pt e) : (Pt.mul ns (n + 1) P).add ns (Pt.mul ns n P).neg = P := by
  show ((Pt.mul ns n P).add ns P).add ns (Pt.mul ns n P).neg = P
  rw [Pt.comm ns (Pt.mul ns n P) P, Pt.assoc, Pt.add_neg, Pt.add_zero]
end Go.Proofs.YtanfjkmkfcekmaaDoor
/-
  What the ladder's rounds make of a point: the multiple of it. Plain arithmetic.
-/
namespace Go.Proofs.YtanfjkmkfcekmaaDoor
open Go Go.RowKit
set_option linter.unusedVariables false
set_option linter.unusedSimpArgs false

theorem sum_turn (p q : FP) : p + q = q + p := by grind
theorem mul_turn (p q : FP) : p * q = q * p := by grind
theorem turn_sq (p q : FP) : (p - q) * (p - q) = (q - p) * (q - p) := by grind

theorem step_rep {e s : FP} (ns : NonSq e) (s1 : s * s = 1) (hk : e * (2 * phi 121665 + 1 + s) = 2 * phi 121665 + 1 - s) (P : Pt e) (x : Nat) (hu : phi x * (1 - P.y) = s * (1 + P.y)) (h0 : 1 + P.y ≠ 0)
    (j a b c d : Nat) (r1 : Rep s (Pt.mul ns j P).y (phi a) (phi b)) (r2 : Rep s (Pt.mul ns (j + 1) P).y (phi c) (phi d)) :
    ∃ A B C D, stepL a b c d x = [A, B, C, D] ∧ Rep s (Pt.mul ns (2 * j) P).y (phi A) (phi B) ∧ Rep s (Pt.mul ns (2 * j + 1) P).y (phi C) (phi D) := by
  refine ⟨_, _, _, _, rfl, ?_, ?_⟩
  · simp only [phi_mul, phi_add, phi_sub]
    rw [show 2 * j = j + j from by omega, Pt.mul_add]
    exact Rep.dbl ns (Pt.mul ns j P).on (Pt.adds ns _ _) s1 hk r1
  · simp only [phi_mul, phi_add, phi_sub]
    rw [show 2 * j + 1 = j + (j + 1) from by omega, Pt.mul_add]
    have hd := Pt.adds ns (Pt.mul ns (j + 1) P) (Pt.mul ns j P).neg
    rw [Pt.diff] at hd
    exact Rep.dadd ns (Pt.mul ns j P).on (Pt.mul ns (j + 1) P).on (Pt.adds ns _ _) hd s1 hu h0 r1 r2
theorem turned_rep {e s : FP} (ns : NonSq e) (s1 : s * s = 1) (hk : e * (2 * phi 121665 + 1 + s) = 2 * phi 121665 + 1 - s) (P : Pt e) (x : Nat) (hu : phi x * (1 - P.y) = s * (1 + P.y)) (h0 : 1 + P.y ≠ 0)
    (j a b c d : Nat) (r1 : Rep s (Pt.mul ns j P).y (phi a) (phi b)) (r2 : Rep s (Pt.mul ns (j + 1) P).y (phi c) (phi d)) :
    ∃ A B C D, stepL c d a b x = [A, B, C, D] ∧ Rep s (Pt.mul ns (2 * j + 1) P).y (phi C) (phi D) ∧ Rep s (Pt.mul ns (2 * j + 1 + 1) P).y (phi A) (phi B) := by
  refine ⟨_, _, _, _, rfl, ?_, ?_⟩
  · simp only [phi_mul, phi_add, phi_sub]
    rw [show 2 * j + 1 = j + (j + 1) from by omega, Pt.mul_add]
    have hd := Pt.adds ns (Pt.mul ns (j + 1) P) (Pt.mul ns j P).neg
    rw [Pt.diff] at hd
    have h := Rep.dadd ns (Pt.mul ns j P).on (Pt.mul ns (j + 1) P).on (Pt.adds ns _ _) hd s1 hu h0 r1 r2
    rw [turn_sq, sum_turn ((phi c + phi d) * (phi a - phi b)), mul_turn (phi c - phi d), mul_turn (phi c + phi d)] at h
    exact h
  · simp only [phi_mul, phi_add, phi_sub]
    rw [show 2 * j + 1 + 1 = (j + 1) + (j + 1) from by omega, Pt.mul_add]
    exact Rep.dbl ns (Pt.mul ns (j + 1) P).on (Pt.adds ns _ _) s1 hk r2

theorem run_rep {e s : FP} (ns : NonSq e) (s1 : s * s = 1) (hk : e * (2 * phi 121665 + 1 + s) = 2 * phi 121665 + 1 - s) (P : Pt e) (n x : Nat) (hu : phi x * (1 - P.y) = s * (1 + P.y)) (h0 : 1 + P.y ≠ 0) :
    ∀ (k j a b c d : Nat), Rep s (Pt.mul ns j P).y (phi a) (phi b) → Rep s (Pt.mul ns (j + 1) P).y (phi c) (phi d) → ∃ A B C D, runL n x k [a, b, c, d] = [A, B, C, D] ∧ Rep s (Pt.mul ns (j * 2 ^ k + n % 2 ^ k) P).y (phi A) (phi B)
  | 0, j, a, b, c, d, r1, r2 => ⟨a, b, c, d, rfl, by rw [Nat.pow_zero, Nat.mul_one, Nat.mod_one, Nat.add_zero]; exact r1⟩
  | k + 1, j, a, b, c, d, r1, r2 => by
    have hm := Nat.mod_pow_succ (x := n) (b := 2) (k := k)
    by_cases hb : n / 2 ^ k % 2 = 1
    · obtain ⟨A, B, C, D, e1, q1, q2⟩ := turned_rep ns s1 hk P x hu h0 j a b c d r1 r2
      rw [runL_true n x k a b c d hb, e1]
      obtain ⟨A', B', C', D', e2, q3⟩ := run_rep ns s1 hk P n x hu h0 k (2 * j + 1) C D A B q1 q2
      refine ⟨A', B', C', D', e2, ?_⟩
      rw [hm, hb, Nat.pow_succ, show j * (2 ^ k * 2) + (n % 2 ^ k + 2 ^ k * 1) = (2 * j + 1) * 2 ^ k + n % 2 ^ k from by rw [Nat.add_mul, Nat.mul_one, Nat.one_mul, Nat.mul_comm 2 j, Nat.mul_assoc, Nat.mul_comm 2]; omega]
      exact q3
    · obtain ⟨A, B, C, D, e1, q1, q2⟩ := step_rep ns s1 hk P x hu h0 j a b c d r1 r2
      rw [runL_false n x k a b c d hb, e1]
      obtain ⟨A', B', C', D', e2, q3⟩ := run_rep ns s1 hk P n x hu h0 k (2 * j) A B C D q1 q2
      refine ⟨A', B', C', D', e2, ?_⟩
      have hb0 : n / 2 ^ k % 2 = 0 := by omega
      rw [hm, hb0, Nat.pow_succ, Nat.mul_zero, Nat.add_zero, show j * (2 ^ k * 2) = 2 * j * 2 ^ k from by rw [Nat.mul_comm 2 j, Nat.mul_assoc, Nat.mul_comm 2]]
      exact q3
end Go.Proofs.YtanfjkmkfcekmaaDoor
/-
  What a secret makes of a point: where the multiple of the point lies on the line. Plain arithmetic.
-/
namespace Go.Proofs.YtanfjkmkfcekmaaDoor
open Go Go.RowKit
set_option linter.unusedVariables false
set_option linter.unusedSimpArgs false

theorem phi_1 : phi 1 = 1 := by decide
theorem phi_0 : phi 0 = 0 := by decide
theorem half_x {s i : FP} (s1 : s * s = 1) (hi : 2 * i = 1) : 1 = s * i * (s * (1 + 1)) := by grind
theorem zero_is : (0 : FP) = 1 - 1 := by decide
theorem half_z (l : FP) : 0 = l * (1 - 1) := by rw [← zero_is, Fin.mul_zero]
theorem rep_nil {s : FP} (e : FP) (s1 : s * s = 1) : Rep s (Pt.zero e).y (phi 1) (phi 0) := by
  obtain ⟨i, hi⟩ := fld.inv 2 two_ne
  refine ⟨s * i, mul_ne fld (sign_ne s1) (inv_ne hi), ?_, ?_⟩
  · rw [phi_1]; exact half_x s1 hi
  · rw [phi_0]; exact half_z _
theorem one_x {u s y l : FP} (hu : u * (1 - y) = s * (1 + y)) (hl : (1 - y) * l = 1) : u = l * (s * (1 + y)) := by grind
theorem one_z {y l : FP} (hl : (1 - y) * l = 1) : 1 = l * (1 - y) := by grind
theorem rep_one {s y : FP} {x : Nat} (h1 : 1 - y ≠ 0) (hu : phi x * (1 - y) = s * (1 + y)) : Rep s y (phi x) (phi 1) := by
  obtain ⟨l, hl⟩ := fld.inv _ h1
  refine ⟨l, inv_ne hl, one_x hu hl, ?_⟩
  rw [phi_1]; exact one_z hl
theorem quot_x {A i s y l : FP} (hA : A = l * (s * (1 + y))) (hi : l * (1 - y) * i = 1) : A * i * (1 - y) = s * (1 + y) := by grind
/-- Where a point whose second coordinate is y lies on the line: u; nothing (0), if it is the neutral one. -/
def Lies1 (s y : FP) (u : Nat) : Prop := (y = 1 ∧ u = 0) ∨ (1 - y ≠ 0 ∧ phi u * (1 - y) = s * (1 + y))
theorem sub_nil {y : FP} (h : 1 - y = 0) : y = 1 := by
  have h2 : (1 - y) + y = 1 := by clear h; grind
  rw [h, Fin.zero_add] at h2
  exact h2
theorem quot_rep {s y : FP} {A B C D : Nat} (h : Rep s y (phi A) (phi B)) : Lies1 s y (quotL [A, B, C, D]) := by
  obtain ⟨l, hl, hA, hB⟩ := h
  by_cases h1 : 1 - y = 0
  · left
    refine ⟨sub_nil h1, ?_⟩
    rw [h1, Fin.mul_zero] at hB
    rw [quotL_eq, inv_zero B (phi_zero B hB), Nat.mul_zero]
  · right
    refine ⟨h1, ?_⟩
    have hB0 : ¬ B % 57896044618658097711785492504343953926634992332820282019728792003956564819949 = 0 := fun h => by
      have h2 : phi B = 0 := Fin.ext h
      rw [h2] at hB
      exact mul_ne fld hl h1 hB.symm
    have hq : phi (quotL [A, B, C, D]) = phi A * phi (invOf B) := phi_mul A (invOf B)
    have hi : phi B * phi (invOf B) = 1 := by
      rw [← phi_mul]
      show phi (B * invOf B % 57896044618658097711785492504343953926634992332820282019728792003956564819949) = 1
      rw [inv_one B hB0, phi_1]
    rw [hq]
    rw [hB] at hi
    exact quot_x hA hi
theorem clamp_small (k : Nat) : clampN k % 2 ^ 255 = clampN k := by
  have e : (2 : Nat) ^ 255 = 57896044618658097711785492504343953926634992332820282019728792003956564819968 := by decide
  rw [e]; unfold clampN comp; omega
theorem XN_lies {e s : FP} (ns : NonSq e) (s1 : s * s = 1) (hk : e * (2 * phi 121665 + 1 + s) = 2 * phi 121665 + 1 - s) (P : Pt e) (k u : Nat) (h1 : 1 - P.y ≠ 0) (h0 : 1 + P.y ≠ 0)
    (hu : phi (lowN u % 57896044618658097711785492504343953926634992332820282019728792003956564819949) * (1 - P.y) = s * (1 + P.y)) : Lies1 s (Pt.mul ns (clampN k) P).y (XN k u) := by
  have r1 : Rep s (Pt.mul ns 0 P).y (phi 1) (phi 0) := rep_nil e s1
  have r2 : Rep s (Pt.mul ns (0 + 1) P).y (phi (lowN u % 57896044618658097711785492504343953926634992332820282019728792003956564819949)) (phi 1) := by
    rw [Pt.one_mul]; exact rep_one h1 hu
  obtain ⟨A, B, C, D, he, hr⟩ := run_rep ns s1 hk P (clampN k) _ hu h0 255 0 1 0 _ 1 r1 r2
  rw [Nat.zero_mul, Nat.zero_add, clamp_small] at hr
  rw [XN_eq, he]
  exact quot_rep hr
end Go.Proofs.YtanfjkmkfcekmaaDoor
