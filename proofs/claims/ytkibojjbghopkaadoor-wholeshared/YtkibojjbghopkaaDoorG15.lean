/-
  General pieces, joined: EF EG EH EI EJ EK EL EM.
-/
import Derived.Test.YtkibojjbghopkaaDoorG14
/-
  What the ladder's step makes of points of an Edwards curve, seen on the line. Plain arithmetic.
-/
namespace Go.Proofs.YtkibojjbghopkaaDoor
open Go Go.RowKit
set_option linter.unusedVariables false
set_option linter.unusedSimpArgs false

theorem fld : Fld where
  dom := fun a b h => by
    have h0 : a.val * b.val % Pn % Pn = 0 := by
      have := congrArg Fin.val h
      rw [Fin.val_mul] at this
      rw [this]
      exact Nat.zero_mod _
    have hz := zero_product prime_p a.val b.val
    rw [decide_eq_true (show a.val * b.val % 57896044618658097711785492504343953926634992332820282019728792003956564819949 % 57896044618658097711785492504343953926634992332820282019728792003956564819949 = 0 from h0)] at hz
    have hz' := hz.symm
    rw [Bool.or_eq_true, decide_eq_true_eq, decide_eq_true_eq] at hz'
    rcases hz' with h | h
    · left
      apply Fin.ext
      have := Nat.mod_eq_of_lt a.isLt
      exact this.symm.trans h
    · right
      apply Fin.ext
      have := Nat.mod_eq_of_lt b.isLt
      exact this.symm.trans h
  inv := fun a ha => by
    refine ⟨phi (invOf a.val), ?_⟩
    have hn : ¬ a.val % 57896044618658097711785492504343953926634992332820282019728792003956564819949 = 0 := fun h => ha (by
      apply Fin.ext
      have := Nat.mod_eq_of_lt a.isLt
      exact this.symm.trans h)
    have h1 := inv_one a.val hn
    apply Fin.ext
    rw [Fin.val_mul]
    show a.val * (invOf a.val % Pn) % Pn = 1
    rw [Nat.mul_mod, Nat.mod_mod, ← Nat.mul_mod]
    exact h1

/-- (X : Z) is where the point's second coordinate y lies on the line (s: on the curve 1, on the twist -1). -/
def Rep (s y X Z : FP) : Prop := ∃ l : FP, l ≠ 0 ∧ X = l * (s * (1 + y)) ∧ Z = l * (1 - y)

theorem i_four {e k s i : FP} (s1 : s * s = 1) (hk : e * (2 * k + 1 + s) = 2 * k + 1 - s) (hi : (1 - e) * i = 1) : 4 * i = 2 * s * (2 * k + 1) + 2 := by grind
theorem dbl_x {l s y m g v e i : FP} (s1 : s * s = 1) (hi : (1 - e) * i = 1) (h : (1 + v) * g = 2 * (y * y) * (1 - e)) :
    (l * (s * (1 + y)) + l * (1 - y)) * (l * (s * (1 + y)) + l * (1 - y)) * ((l * (s * (1 + y)) - l * (1 - y)) * (l * (s * (1 + y)) - l * (1 - y))) = 8 * (l * l * (l * l)) * s * i * g * (s * (1 + v)) := by
  have e1 : 8 * (l * l * (l * l)) * s * i * g * (s * (1 + v)) = 16 * (l * l * (l * l)) * (y * y) := by grind
  rw [e1]
  clear h hi e1
  grind
theorem dbl_z {l s y g v e i k : FP} (s1 : s * s = 1) (i4 : 4 * i = 2 * s * (2 * k + 1) + 2) (hi : (1 - e) * i = 1) (h : (1 - v) * g = 2 * (1 - y * y) * (1 - e * (y * y))) :
    ((l * (s * (1 + y)) + l * (1 - y)) * (l * (s * (1 + y)) + l * (1 - y)) - (l * (s * (1 + y)) - l * (1 - y)) * (l * (s * (1 + y)) - l * (1 - y))) * ((l * (s * (1 + y)) + l * (1 - y)) * (l * (s * (1 + y)) + l * (1 - y)) + k * ((l * (s * (1 + y)) + l * (1 - y)) * (l * (s * (1 + y)) + l * (1 - y)) - (l * (s * (1 + y)) - l * (1 - y)) * (l * (s * (1 + y)) - l * (1 - y)))) = 8 * (l * l * (l * l)) * s * i * g * (1 - v) := by
  have a1 : (l * (s * (1 + y)) + l * (1 - y)) * (l * (s * (1 + y)) + l * (1 - y)) - (l * (s * (1 + y)) - l * (1 - y)) * (l * (s * (1 + y)) - l * (1 - y)) = l * l * (4 * s * (1 - y * y)) := by grind
  have a2 : (l * (s * (1 + y)) + l * (1 - y)) * (l * (s * (1 + y)) + l * (1 - y)) = l * l * (2 + 2 * (y * y) + 2 * s * (1 - y * y)) := by grind
  have a3 : 8 * (l * l * (l * l)) * s * i * g * (1 - v) = 4 * (l * l * (l * l)) * s * (1 - y * y) * (4 * i * (1 - e * (y * y))) := by grind
  have a4 : 4 * i * (1 - e * (y * y)) = 4 * (y * y) + 4 * i * (1 - y * y) := by clear a1 a2 a3 h i4; grind
  rw [a1, a2, a3, a4, i4]
  clear a1 a2 a3 a4 i4 hi h
  grind
theorem sixteen_ne : (16 : FP) ≠ 0 := by decide
theorem eight_ne : (8 : FP) ≠ 0 := by decide
theorem sign_ne {s : FP} (h : s * s = 1) : s ≠ 0 := fun h0 => one_ne (by rw [← h, h0]; exact Fin.mul_zero _)
theorem inv_ne {a b : FP} (h : a * b = 1) : b ≠ 0 := fun h0 => one_ne (by rw [← h, h0]; exact Fin.mul_zero _)
theorem NonSq.ne1 {e : FP} (ns : NonSq e) : 1 - e ≠ 0 := fun h => ns.ne (y := 1) (by rw [← h]; grind)

theorem Rep.dbl {e s k x y u v X Z : FP} (ns : NonSq e) (h : On e x y) (hs : Adds e x y x y u v) (s1 : s * s = 1) (hk : e * (2 * k + 1 + s) = 2 * k + 1 - s) (hr : Rep s y X Z) :
    Rep s v ((X + Z) * (X + Z) * ((X - Z) * (X - Z))) (((X + Z) * (X + Z) - (X - Z) * (X - Z)) * ((X + Z) * (X + Z) + k * ((X + Z) * (X + Z) - (X - Z) * (X - Z)))) := by
  obtain ⟨l, hl, rfl, rfl⟩ := hr
  obtain ⟨i, hi⟩ := fld.inv _ ns.ne1
  obtain ⟨t1, t2⟩ := hs.twice h
  have hg : (1 - e * x * x * y * y) * (1 - e * (y * y)) ≠ 0 := mul_ne fld (den_m ns h h) ns.ne
  refine ⟨8 * (l * l * (l * l)) * s * i * ((1 - e * x * x * y * y) * (1 - e * (y * y))), ?_, dbl_x (m := 0) s1 hi t1, dbl_z s1 (i_four s1 hk hi) hi t2⟩
  exact mul_ne fld (mul_ne fld (mul_ne fld (mul_ne fld eight_ne (mul_ne fld (mul_ne fld hl hl) (mul_ne fld hl hl))) (sign_ne s1)) (inv_ne hi)) hg

theorem dadd_x {l m s y1 y2 ys yp V W j : FP} (s1 : s * s = 1) (hj : W * j = 1) (h : (1 + ys) * (1 + yp) * V = W * ((y1 + y2) * (y1 + y2))) :
    ((m * (s * (1 + y2)) + m * (1 - y2)) * (l * (s * (1 + y1)) - l * (1 - y1)) + (m * (s * (1 + y2)) - m * (1 - y2)) * (l * (s * (1 + y1)) + l * (1 - y1))) * ((m * (s * (1 + y2)) + m * (1 - y2)) * (l * (s * (1 + y1)) - l * (1 - y1)) + (m * (s * (1 + y2)) - m * (1 - y2)) * (l * (s * (1 + y1)) + l * (1 - y1))) = 16 * (l * l * (m * m)) * V * s * (1 + yp) * j * (s * (1 + ys)) := by
  have a1 : (m * (s * (1 + y2)) + m * (1 - y2)) * (l * (s * (1 + y1)) - l * (1 - y1)) + (m * (s * (1 + y2)) - m * (1 - y2)) * (l * (s * (1 + y1)) + l * (1 - y1)) = 4 * (l * m) * (y1 + y2) := by clear h hj; grind
  have a2 : 16 * (l * l * (m * m)) * V * s * (1 + yp) * j * (s * (1 + ys)) = 16 * (l * l * (m * m)) * j * (s * s) * ((1 + ys) * (1 + yp) * V) := by clear h hj a1 s1; grind
  rw [a1, a2, h, s1]
  clear a1 a2 h s1
  grind
theorem dadd_z {l m s y1 y2 ys yp V W j u : FP} (s1 : s * s = 1) (hj : W * j = 1) (hu : u * (1 - yp) = s * (1 + yp)) (h : (1 - ys) * (1 - yp) * V = W * ((y1 - y2) * (y1 - y2))) :
    u * (((m * (s * (1 + y2)) + m * (1 - y2)) * (l * (s * (1 + y1)) - l * (1 - y1)) - (m * (s * (1 + y2)) - m * (1 - y2)) * (l * (s * (1 + y1)) + l * (1 - y1))) * ((m * (s * (1 + y2)) + m * (1 - y2)) * (l * (s * (1 + y1)) - l * (1 - y1)) - (m * (s * (1 + y2)) - m * (1 - y2)) * (l * (s * (1 + y1)) + l * (1 - y1)))) = 16 * (l * l * (m * m)) * V * s * (1 + yp) * j * (1 - ys) := by
  have a1 : (m * (s * (1 + y2)) + m * (1 - y2)) * (l * (s * (1 + y1)) - l * (1 - y1)) - (m * (s * (1 + y2)) - m * (1 - y2)) * (l * (s * (1 + y1)) + l * (1 - y1)) = 4 * (l * m) * s * (y1 - y2) := by clear h hj hu s1; grind
  have a2 : 16 * (l * l * (m * m)) * V * s * (1 + yp) * j * (1 - ys) = 16 * (l * l * (m * m)) * j * u * ((1 - ys) * (1 - yp) * V) := by clear h hj a1 s1; grind
  rw [a1, a2, h]
  clear a1 a2 h hu
  grind
/-- The sum of two points whose difference lies at u, which is not 0. -/
theorem Rep.dadd {e s x1 y1 x2 y2 xs ys xp yp u X2 Z2 X3 Z3 : FP} (ns : NonSq e) (h1 : On e x1 y1) (h2 : On e x2 y2) (hs : Adds e x1 y1 x2 y2 xs ys) (hp : Adds e x2 y2 (-x1) y1 xp yp) (s1 : s * s = 1)
    (hu : u * (1 - yp) = s * (1 + yp)) (h0 : 1 + yp ≠ 0) (r1 : Rep s y1 X2 Z2) (r2 : Rep s y2 X3 Z3) :
    Rep s ys (((X3 + Z3) * (X2 - Z2) + (X3 - Z3) * (X2 + Z2)) * ((X3 + Z3) * (X2 - Z2) + (X3 - Z3) * (X2 + Z2))) (u * (((X3 + Z3) * (X2 - Z2) - (X3 - Z3) * (X2 + Z2)) * ((X3 + Z3) * (X2 - Z2) - (X3 - Z3) * (X2 + Z2)))) := by
  obtain ⟨l, hl, rfl, rfl⟩ := r1
  obtain ⟨m, hm, rfl, rfl⟩ := r2
  obtain ⟨b1, b2⟩ := hs.both h1 h2 hp
  obtain ⟨j, hj⟩ := fld.inv _ (mul_ne fld ns.ne1 (ns.ne (y := y1 * y2)))
  have hV : (1 - e * x1 * x2 * y1 * y2) * (1 + e * x1 * x2 * y1 * y2) * ((1 - e * (y1 * y1)) * (1 - e * (y2 * y2))) ≠ 0 := mul_ne fld (mul_ne fld (den_m ns h1 h2) (den_p ns h1 h2)) (mul_ne fld ns.ne ns.ne)
  refine ⟨16 * (l * l * (m * m)) * _ * s * (1 + yp) * j, ?_, dadd_x s1 hj b1, dadd_z s1 hj hu b2⟩
  exact mul_ne fld (mul_ne fld (mul_ne fld (mul_ne fld (mul_ne fld sixteen_ne (mul_ne fld (mul_ne fld hl hl) (mul_ne fld hm hm))) hV) (sign_ne s1)) h0) (inv_ne hj)
end Go.Proofs.YtkibojjbghopkaaDoor
/-
  The points of a complete Edwards curve: sums, multiples, and multiples of multiples. Plain arithmetic.
-/
namespace Go.Proofs.YtkibojjbghopkaaDoor
open Go Go.RowKit
set_option linter.unusedVariables false
set_option linter.unusedSimpArgs false

structure Pt (e : FP) where
  x : FP
  y : FP
  on : On e x y
theorem Pt.same {e : FP} {P Q : Pt e} (hx : P.x = Q.x) (hy : P.y = Q.y) : P = Q := by
  cases P; cases Q; simp at hx hy; subst hx; subst hy; rfl
theorem Pt.ex {e : FP} (ns : NonSq e) (P Q : Pt e) : ∃ R : Pt e, Adds e P.x P.y Q.x Q.y R.x R.y := by
  obtain ⟨x, y, h⟩ := Adds.ex fld ns P.on Q.on
  exact ⟨⟨x, y, h.on fld ns P.on Q.on⟩, h⟩
noncomputable def Pt.add {e : FP} (ns : NonSq e) (P Q : Pt e) : Pt e := Classical.choose (Pt.ex ns P Q)
theorem Pt.adds {e : FP} (ns : NonSq e) (P Q : Pt e) : Adds e P.x P.y Q.x Q.y (P.add ns Q).x (P.add ns Q).y := Classical.choose_spec (Pt.ex ns P Q)
theorem Pt.eq_add {e : FP} (ns : NonSq e) {P Q R : Pt e} (h : Adds e P.x P.y Q.x Q.y R.x R.y) : P.add ns Q = R := by
  obtain ⟨h1, h2⟩ := (Pt.adds ns P Q).uniq fld ns P.on Q.on h
  exact Pt.same h1 h2
theorem Pt.comm {e : FP} (ns : NonSq e) (P Q : Pt e) : P.add ns Q = Q.add ns P := Pt.eq_add ns (Pt.adds ns Q P).comm
theorem Pt.assoc {e : FP} (ns : NonSq e) (P Q R : Pt e) : (P.add ns Q).add ns R = P.add ns (Q.add ns R) := by
  obtain ⟨h1, h2⟩ := Adds.assoc fld ns P.on Q.on R.on (Pt.adds ns P Q) (Pt.adds ns Q R) (Pt.adds ns (P.add ns Q) R) (Pt.adds ns P (Q.add ns R))
  exact Pt.same h1 h2
theorem on_zero (e : FP) : On e 0 1 := by
  unfold On
  rw [Fin.mul_zero, Fin.mul_one, Fin.mul_zero, Fin.zero_mul, Fin.zero_add, Fin.add_zero]
def Pt.zero (e : FP) : Pt e := ⟨0, 1, on_zero e⟩
theorem zero_x (e x y z : FP) (hz : z = 0) : x * (1 + e * z * x * 1 * y) = z * y + 1 * x := by
  have h : x * (1 + e * z * x * 1 * y) - (z * y + 1 * x) = z * (e * x * x * y - y) := by grind
  rw [hz, Fin.zero_mul] at h
  rw [hz]
  grind
theorem zero_y (e x y z : FP) (hz : z = 0) : y * (1 - e * z * x * 1 * y) = 1 * y - z * x := by
  have h : y * (1 - e * z * x * 1 * y) - (1 * y - z * x) = z * (x - e * x * y * y) := by grind
  rw [hz, Fin.zero_mul] at h
  rw [hz]
  grind
theorem Pt.zero_add {e : FP} (ns : NonSq e) (P : Pt e) : (Pt.zero e).add ns P = P := Pt.eq_add ns ⟨zero_x e P.x P.y 0 rfl, zero_y e P.x P.y 0 rfl⟩
theorem Pt.add_zero {e : FP} (ns : NonSq e) (P : Pt e) : P.add ns (Pt.zero e) = P := (Pt.comm ns P _).trans (Pt.zero_add ns P)
theorem on_neg {e x y : FP} (h : On e x y) : On e (-x) y := by
  unfold On at *
  grind
def Pt.neg {e : FP} (P : Pt e) : Pt e := ⟨-P.x, P.y, on_neg P.on⟩
theorem neg_x (e x y z : FP) (hz : z = 0) : z * (1 + e * x * (-x) * y * y) = x * y + y * (-x) := by
  have h : ∀ w : FP, x * y + y * (-x) + w = w := fun w => by clear hz; grind
  have h0 := h 0
  rw [Fin.add_zero] at h0
  rw [hz, Fin.zero_mul]
  exact h0.symm
theorem neg_y {e x y : FP} (h : On e x y) : 1 * (1 - e * x * (-x) * y * y) = y * y - x * (-x) := by
  unfold On at h
  grind
theorem Pt.add_neg {e : FP} (ns : NonSq e) (P : Pt e) : P.add ns P.neg = Pt.zero e := Pt.eq_add ns ⟨neg_x e P.x P.y 0 rfl, neg_y P.on⟩

noncomputable def Pt.mul {e : FP} (ns : NonSq e) : Nat → Pt e → Pt e
  | 0, _ => Pt.zero e
  | n + 1, P => (Pt.mul ns n P).add ns P
theorem Pt.mul_add {e : FP} (ns : NonSq e) (m : Nat) (P : Pt e) : ∀ n, Pt.mul ns (m + n) P = (Pt.mul ns m P).add ns (Pt.mul ns n P)
  | 0 => (Pt.add_zero ns _).symm
  | n + 1 => by
    show (Pt.mul ns (m + n) P).add ns P = (Pt.mul ns m P).add ns ((Pt.mul ns n P).add ns P)
    rw [Pt.mul_add ns m P n, Pt.assoc]
theorem Pt.mul_mul {e : FP} (ns : NonSq e) (n : Nat) (P : Pt e) : ∀ m, Pt.mul ns m (Pt.mul ns n P) = Pt.mul ns (m * n) P
  | 0 => by rw [Nat.zero_mul]; rfl
  | m + 1 => by
    show (Pt.mul ns m (Pt.mul ns n P)).add ns (Pt.mul ns n P) = _
    rw [Pt.mul_mul ns n P m, Nat.succ_mul, Pt.mul_add]
theorem Pt.one_mul {e : FP} (ns : NonSq e) (P : Pt e) : Pt.mul ns 1 P = P := Pt.zero_add ns P
/-- The difference of a multiple and the one before it. -/
theorem Pt.diff {e : FP} (ns : NonSq e) (n : Nat) (P : Pt e) : (Pt.mul ns (n + 1) P).add ns (Pt.mul ns n P).neg = P := by
  show ((Pt.mul ns n P).add ns P).add ns (Pt.mul ns n P).neg = P
  rw [Pt.comm ns (Pt.mul ns n P) P, Pt.assoc, Pt.add_neg, Pt.add_zero]
end Go.Proofs.YtkibojjbghopkaaDoor
/-
  What the ladder's rounds make of a point: the multiple of it. Plain arithmetic.
-/
namespace Go.Proofs.YtkibojjbghopkaaDoor
open Go Go.RowKit
set_option linter.unusedVariables false
set_option linter.unusedSimpArgs false

theorem sum_turn (p q : FP) : p + q = q + p := by grind
theorem mul_turn (p q : FP) : p * q = q * p := by grind
theorem turn_sq (p q : FP) : (p - q) * (p - q) = (q - p) * (q - p) := by grind

theorem step_rep {e s : FP} (ns : NonSq e) (s1 : s * s = 1) (hk : e * (2 * phi 121665 + 1 + s) = 2 * phi 121665 + 1 - s) (P : Pt e) (x : Nat) (hu : phi x * (1 - P.y) = s * (1 + P.y)) (h0 : 1 + P.y ≠ 0)
    (j a b c d : Nat) (r1 : Rep s (Pt.mul ns j P).y (phi a) (phi b)) (r2 : Rep s (Pt.mul ns (j + 1) P).y (phi c) (phi d)) :
    ∃ A B C D, stepL a b c d x = [A, B, C, D] ∧ Rep s (Pt.mul ns (2 * j) P).y (phi A) (phi B) ∧ Rep s (Pt.mul ns (2 * j + 1) P).y (phi C) (phi D) := by
  refine ⟨_, _, _, _, rfl, ?_, ?_⟩
  · simp only [phi_mul, phi_add, phi_sub]
    rw [show 2 * j = j + j from by omega, Pt.mul_add]
    exact Rep.dbl ns (Pt.mul ns j P).on (Pt.adds ns _ _) s1 hk r1
  · simp only [phi_mul, phi_add, phi_sub]
    rw [show 2 * j + 1 = j + (j + 1) from by omega, Pt.mul_add]
    have hd := Pt.adds ns (Pt.mul ns (j + 1) P) (Pt.mul ns j P).neg
    rw [Pt.diff] at hd
    exact Rep.dadd ns (Pt.mul ns j P).on (Pt.mul ns (j + 1) P).on (Pt.adds ns _ _) hd s1 hu h0 r1 r2
theorem turned_rep {e s : FP} (ns : NonSq e) (s1 : s * s = 1) (hk : e * (2 * phi 121665 + 1 + s) = 2 * phi 121665 + 1 - s) (P : Pt e) (x : Nat) (hu : phi x * (1 - P.y) = s * (1 + P.y)) (h0 : 1 + P.y ≠ 0)
    (j a b c d : Nat) (r1 : Rep s (Pt.mul ns j P).y (phi a) (phi b)) (r2 : Rep s (Pt.mul ns (j + 1) P).y (phi c) (phi d)) :
    ∃ A B C D, stepL c d a b x = [A, B, C, D] ∧ Rep s (Pt.mul ns (2 * j + 1) P).y (phi C) (phi D) ∧ Rep s (Pt.mul ns (2 * j + 1 + 1) P).y (phi A) (phi B) := by
  refine ⟨_, _, _, _, rfl, ?_, ?_⟩
  · simp only [phi_mul, phi_add, phi_sub]
    rw [show 2 * j + 1 = j + (j + 1) from by omega, Pt.mul_add]
    have hd := Pt.adds ns (Pt.mul ns (j + 1) P) (Pt.mul ns j P).neg
    rw [Pt.diff] at hd
    have h := Rep.dadd ns (Pt.mul ns j P).on (Pt.mul ns (j + 1) P).on (Pt.adds ns _ _) hd s1 hu h0 r1 r2
    rw [turn_sq, sum_turn ((phi c + phi d) * (phi a - phi b)), mul_turn (phi c - phi d), mul_turn (phi c + phi d)] at h
    exact h
  · simp only [phi_mul, phi_add, phi_sub]
    rw [show 2 * j + 1 + 1 = (j + 1) + (j + 1) from by omega, Pt.mul_add]
    exact Rep.dbl ns (Pt.mul ns (j + 1) P).on (Pt.adds ns _ _) s1 hk r2

theorem run_rep {e s : FP} (ns : NonSq e) (s1 : s * s = 1) (hk : e * (2 * phi 121665 + 1 + s) = 2 * phi 121665 + 1 - s) (P : Pt e) (n x : Nat) (hu : phi x * (1 - P.y) = s * (1 + P.y)) (h0 : 1 + P.y ≠ 0) :
    ∀ (k j a b c d : Nat), Rep s (Pt.mul ns j P).y (phi a) (phi b) → Rep s (Pt.mul ns (j + 1) P).y (phi c) (phi d) → ∃ A B C D, runL n x k [a, b, c, d] = [A, B, C, D] ∧ Rep s (Pt.mul ns (j * 2 ^ k + n % 2 ^ k) P).y (phi A) (phi B)
  | 0, j, a, b, c, d, r1, r2 => ⟨a, b, c, d, rfl, by rw [Nat.pow_zero, Nat.mul_one, Nat.mod_one, Nat.add_zero]; exact r1⟩
  | k + 1, j, a, b, c, d, r1, r2 => by
    have hm := Nat.mod_pow_succ (x := n) (b := 2) (k := k)
    by_cases hb : n / 2 ^ k % 2 = 1
    · obtain ⟨A, B, C, D, e1, q1, q2⟩ := turned_rep ns s1 hk P x hu h0 j a b c d r1 r2
      rw [runL_true n x k a b c d hb, e1]
      obtain ⟨A', B', C', D', e2, q3⟩ := run_rep ns s1 hk P n x hu h0 k (2 * j + 1) C D A B q1 q2
      refine ⟨A', B', C', D', e2, ?_⟩
      rw [hm, hb, Nat.pow_succ, show j * (2 ^ k * 2) + (n % 2 ^ k + 2 ^ k * 1) = (2 * j + 1) * 2 ^ k + n % 2 ^ k from by rw [Nat.add_mul, Nat.mul_one, Nat.one_mul, Nat.mul_comm 2 j, Nat.mul_assoc, Nat.mul_comm 2]; omega]
      exact q3
    · obtain ⟨A, B, C, D, e1, q1, q2⟩ := step_rep ns s1 hk P x hu h0 j a b c d r1 r2
      rw [runL_false n x k a b c d hb, e1]
      obtain ⟨A', B', C', D', e2, q3⟩ := run_rep ns s1 hk P n x hu h0 k (2 * j) A B C D q1 q2
      refine ⟨A', B', C', D', e2, ?_⟩
      have hb0 : n / 2 ^ k % 2 = 0 := by omega
      rw [hm, hb0, Nat.pow_succ, Nat.mul_zero, Nat.add_zero, show j * (2 ^ k * 2) = 2 * j * 2 ^ k from by rw [Nat.mul_comm 2 j, Nat.mul_assoc, Nat.mul_comm 2]]
      exact q3
end Go.Proofs.YtkibojjbghopkaaDoor
/-
  What a secret makes of a point: where the multiple of the point lies on the line. Plain arithmetic.
-/
namespace Go.Proofs.YtkibojjbghopkaaDoor
open Go Go.RowKit
set_option linter.unusedVariables false
set_option linter.unusedSimpArgs false

theorem phi_1 : phi 1 = 1 := by decide
theorem phi_0 : phi 0 = 0 := by decide
theorem half_x {s i : FP} (s1 : s * s = 1) (hi : 2 * i = 1) : 1 = s * i * (s * (1 + 1)) := by grind
theorem zero_is : (0 : FP) = 1 - 1 := by decide
theorem half_z (l : FP) : 0 = l * (1 - 1) := by rw [← zero_is, Fin.mul_zero]
theorem rep_nil {s : FP} (e : FP) (s1 : s * s = 1) : Rep s (Pt.zero e).y (phi 1) (phi 0) := by
  obtain ⟨i, hi⟩ := fld.inv 2 two_ne
  refine ⟨s * i, mul_ne fld (sign_ne s1) (inv_ne hi), ?_, ?_⟩
  · rw [phi_1]; exact half_x s1 hi
  · rw [phi_0]; exact half_z _
theorem one_x {u s y l : FP} (hu : u * (1 - y) = s * (1 + y)) (hl : (1 - y) * l = 1) : u = l * (s * (1 + y)) := by grind
theorem one_z {y l : FP} (hl : (1 - y) * l = 1) : 1 = l * (1 - y) := by grind
theorem rep_one {s y : FP} {x : Nat} (h1 : 1 - y ≠ 0) (hu : phi x * (1 - y) = s * (1 + y)) : Rep s y (phi x) (phi 1) := by
  obtain ⟨l, hl⟩ := fld.inv _ h1
  refine ⟨l, inv_ne hl, one_x hu hl, ?_⟩
  rw [phi_1]; exact one_z hl
theorem quot_x {A i s y l : FP} (hA : A = l * (s * (1 + y))) (hi : l * (1 - y) * i = 1) : A * i * (1 - y) = s * (1 + y) := by grind
/-- Where a point whose second coordinate is y lies on the line: u; nothing (0), if it is the neutral one. -/
def Lies1 (s y : FP) (u : Nat) : Prop := (y = 1 ∧ u = 0) ∨ (1 - y ≠ 0 ∧ phi u * (1 - y) = s * (1 + y))
theorem sub_nil {y : FP} (h : 1 - y = 0) : y = 1 := by
  have h2 : (1 - y) + y = 1 := by clear h; grind
  rw [h, Fin.zero_add] at h2
  exact h2
theorem quot_rep {s y : FP} {A B C D : Nat} (h : Rep s y (phi A) (phi B)) : Lies1 s y (quotL [A, B, C, D]) := by
  obtain ⟨l, hl, hA, hB⟩ := h
  by_cases h1 : 1 - y = 0
  · left
    refine ⟨sub_nil h1, ?_⟩
    rw [h1, Fin.mul_zero] at hB
    rw [quotL_eq, inv_zero B (phi_zero B hB), Nat.mul_zero]
  · right
    refine ⟨h1, ?_⟩
    have hB0 : ¬ B % 57896044618658097711785492504343953926634992332820282019728792003956564819949 = 0 := fun h => by
      have h2 : phi B = 0 := Fin.ext h
      rw [h2] at hB
      exact mul_ne fld hl h1 hB.symm
    have hq : phi (quotL [A, B, C, D]) = phi A * phi (invOf B) := phi_mul A (invOf B)
    have hi : phi B * phi (invOf B) = 1 := by
      rw [← phi_mul]
      show phi (B * invOf B % 57896044618658097711785492504343953926634992332820282019728792003956564819949) = 1
      rw [inv_one B hB0, phi_1]
    rw [hq]
    rw [hB] at hi
    exact quot_x hA hi
theorem clamp_small (k : Nat) : clampN k % 2 ^ 255 = clampN k := by
  have e : (2 : Nat) ^ 255 = 57896044618658097711785492504343953926634992332820282019728792003956564819968 := by decide
  rw [e]; unfold clampN comp; omega
theorem XN_lies {e s : FP} (ns : NonSq e) (s1 : s * s = 1) (hk : e * (2 * phi 121665 + 1 + s) = 2 * phi 121665 + 1 - s) (P : Pt e) (k u : Nat) (h1 : 1 - P.y ≠ 0) (h0 : 1 + P.y ≠ 0)
    (hu : phi (lowN u % 57896044618658097711785492504343953926634992332820282019728792003956564819949) * (1 - P.y) = s * (1 + P.y)) : Lies1 s (Pt.mul ns (clampN k) P).y (XN k u) := by
  have r1 : Rep s (Pt.mul ns 0 P).y (phi 1) (phi 0) := rep_nil e s1
  have r2 : Rep s (Pt.mul ns (0 + 1) P).y (phi (lowN u % 57896044618658097711785492504343953926634992332820282019728792003956564819949)) (phi 1) := by
    rw [Pt.one_mul]; exact rep_one h1 hu
  obtain ⟨A, B, C, D, he, hr⟩ := run_rep ns s1 hk P (clampN k) _ hu h0 255 0 1 0 _ 1 r1 r2
  rw [Nat.zero_mul, Nat.zero_add, clamp_small] at hr
  rw [XN_eq, he]
  exact quot_rep hr
end Go.Proofs.YtkibojjbghopkaaDoor
/-
  Squares modulo p: which numbers are none. Plain arithmetic.
-/
namespace Go.Proofs.YtkibojjbghopkaaDoor
open Go Go.RowKit
set_option linter.unusedVariables false
set_option linter.unusedSimpArgs false

theorem sq_pow1 {p h : Nat} (hp : IsPrime p) (h2 : h + h = p - 1) (a : Nat) (ha : ¬ a % p = 0) : powOf h p (a * a % p) = 1 := by
  rw [powOf_mul]
  unfold powOf
  rw [← Nat.mul_mod, ← Nat.pow_add, h2]
  exact fermat hp a (fun h => ha (Nat.mod_eq_zero_of_dvd h))
theorem sq_pow0 {p h : Nat} (hh : 1 ≤ h) (a : Nat) (ha : a % p = 0) : powOf h p (a * a % p) = 0 := powOf_zero hh _ (by rw [Nat.mod_mod, Nat.mul_mod, ha, Nat.zero_mul, Nat.zero_mod])
theorem hE2 : 28948022309329048855892746252171976963317496166410141009864396001978282409974 + 28948022309329048855892746252171976963317496166410141009864396001978282409974 = 57896044618658097711785492504343953926634992332820282019728792003956564819949 - 1 := by decide
theorem nonsq_of (E : Nat) (hE : powOf 28948022309329048855892746252171976963317496166410141009864396001978282409974 57896044618658097711785492504343953926634992332820282019728792003956564819949 E = 57896044618658097711785492504343953926634992332820282019728792003956564819948) : NonSq (phi E) := by
  intro z w hzw
  refine Classical.byContradiction fun hw => ?_
  have hw' : ¬ w.val % 57896044618658097711785492504343953926634992332820282019728792003956564819949 = 0 := fun h => hw (Fin.ext ((Nat.mod_eq_of_lt w.isLt).symm.trans h))
  have hv : z.val * z.val % 57896044618658097711785492504343953926634992332820282019728792003956564819949 = E * (w.val * w.val % 57896044618658097711785492504343953926634992332820282019728792003956564819949) % 57896044618658097711785492504343953926634992332820282019728792003956564819949 := by
    have h := congrArg Fin.val hzw
    rw [Fin.val_mul, Fin.val_mul, Fin.val_mul] at h
    have h3 : (phi E).val = E % Pn := rfl
    rw [h3, Nat.mod_mul_mod] at h
    exact h
  have h1 : powOf 28948022309329048855892746252171976963317496166410141009864396001978282409974 57896044618658097711785492504343953926634992332820282019728792003956564819949 (z.val * z.val % 57896044618658097711785492504343953926634992332820282019728792003956564819949) = 57896044618658097711785492504343953926634992332820282019728792003956564819948 := by
    rw [hv, powOf_mul, hE, sq_pow1 prime_p hE2 _ hw']
  by_cases hz : z.val % 57896044618658097711785492504343953926634992332820282019728792003956564819949 = 0
  · rw [sq_pow0 (by decide) _ hz] at h1
    exact absurd h1 (by decide)
  · rw [sq_pow1 prime_p hE2 _ hz] at h1
    exact absurd h1 (by decide)
theorem ns_curve : NonSq (phi 20800338683988658368647408995589388737092878452977063003340006470870624536394) := nonsq_of _ (powOf_is _ _ _ _ 255 (by decide) (by kernel_rfl))
theorem ns_twist : NonSq (phi 28692721048178265397853269683490922171210976843790175684556505508326675974058) := nonsq_of _ (powOf_is _ _ _ _ 255 (by decide) (by kernel_rfl))
theorem ns_disc : NonSq (phi 236839902240) := nonsq_of _ (powOf_is _ _ _ _ 255 (by decide) (by kernel_rfl))
theorem k_curve : phi 20800338683988658368647408995589388737092878452977063003340006470870624536394 * (2 * phi 121665 + 1 + 1) = 2 * phi 121665 + 1 - 1 := by decide +kernel
theorem k_twist : phi 28692721048178265397853269683490922171210976843790175684556505508326675974058 * (2 * phi 121665 + 1 + -1) = 2 * phi 121665 + 1 - -1 := by decide +kernel
end Go.Proofs.YtkibojjbghopkaaDoor
/-
  Of a number and it times a number that is no square, one is a square. Plain arithmetic.
-/
namespace Go.Proofs.YtkibojjbghopkaaDoor
open Go Go.RowKit
set_option linter.unusedVariables false
set_option linter.unusedSimpArgs false

theorem phi_pow (m n t : Nat) : phi (powOf m 57896044618658097711785492504343953926634992332820282019728792003956564819949 t) * phi (powOf n 57896044618658097711785492504343953926634992332820282019728792003956564819949 t) = phi (powOf (m + n) 57896044618658097711785492504343953926634992332820282019728792003956564819949 t) := by
  rw [← phi_mul]
  have h : nMul (powOf m 57896044618658097711785492504343953926634992332820282019728792003956564819949 t) (powOf n 57896044618658097711785492504343953926634992332820282019728792003956564819949 t) = powOf (m + n) 57896044618658097711785492504343953926634992332820282019728792003956564819949 t := by
    unfold nMul powOf
    rw [← Nat.mul_mod, ← Nat.pow_add]
  rw [h]
theorem phi_one_pow (t : Nat) : phi (powOf 1 57896044618658097711785492504343953926634992332820282019728792003956564819949 t) = phi t := by
  unfold powOf
  rw [Nat.pow_one]
  apply Fin.ext
  exact Nat.mod_mod _ _
theorem split_sq {a : FP} : a * a - 1 = (a - 1) * (a + 1) := by grind
theorem add_opp {a : FP} (h : a + 1 = 0) : a = -1 := by grind
theorem sub_like {a b : FP} (h : a = b) : a - b = 0 := by grind
theorem root_one {a : FP} (h : a * a = 1) : a = 1 ∨ a = -1 := by
  have h0 : (a - 1) * (a + 1) = 0 := split_sq.symm.trans (sub_like h)
  rcases fld.dom _ _ h0 with h1 | h1
  · left
    have h2 : (a - 1) + 1 = a := by clear h h0 h1; grind
    rw [h1, Fin.zero_add] at h2
    exact h2.symm
  · exact .inr (add_opp h1)
theorem root_i : phi 19681161376707505956807079304988542015446066515923890162744021073123829784752 * phi 19681161376707505956807079304988542015446066515923890162744021073123829784752 = -1 := by decide +kernel
theorem root_ip {i r t : FP} (hi : i * i = -1) (hr : r * r = -1 * t) : (i * r) * (i * r) = t := by grind
theorem one_times {r t : FP} (h : r * r = 1 * t) : r * r = t := by grind
theorem root_of (t : Nat) (h1 : phi (powOf 28948022309329048855892746252171976963317496166410141009864396001978282409974 57896044618658097711785492504343953926634992332820282019728792003956564819949 t) = 1) : ∃ r : FP, r * r = phi t := by
  have hT : phi (powOf 14474011154664524427946373126085988481658748083205070504932198000989141204987 57896044618658097711785492504343953926634992332820282019728792003956564819949 t) * phi (powOf 14474011154664524427946373126085988481658748083205070504932198000989141204987 57896044618658097711785492504343953926634992332820282019728792003956564819949 t) = 1 := by
    rw [phi_pow, show 14474011154664524427946373126085988481658748083205070504932198000989141204987 + 14474011154664524427946373126085988481658748083205070504932198000989141204987 = 28948022309329048855892746252171976963317496166410141009864396001978282409974 from by decide]; exact h1
  have hR : phi (powOf 7237005577332262213973186563042994240829374041602535252466099000494570602494 57896044618658097711785492504343953926634992332820282019728792003956564819949 t) * phi (powOf 7237005577332262213973186563042994240829374041602535252466099000494570602494 57896044618658097711785492504343953926634992332820282019728792003956564819949 t) = phi (powOf 14474011154664524427946373126085988481658748083205070504932198000989141204987 57896044618658097711785492504343953926634992332820282019728792003956564819949 t) * phi t := by
    rw [phi_pow, ← phi_one_pow t, phi_pow]
  rcases root_one hT with h | h
  · rw [h] at hR
    exact ⟨_, one_times hR⟩
  · rw [h] at hR
    exact ⟨_, root_ip root_i hR⟩
theorem ferm {p : Nat} (hp : IsPrime p) (t : Nat) (ht : ¬ t % p = 0) : powOf (p - 1) p t = 1 := fermat hp t (fun h => ht (Nat.mod_eq_zero_of_dvd h))
theorem half_pow (t : Nat) (ht : ¬ t % 57896044618658097711785492504343953926634992332820282019728792003956564819949 = 0) : phi (powOf 28948022309329048855892746252171976963317496166410141009864396001978282409974 57896044618658097711785492504343953926634992332820282019728792003956564819949 t) = 1 ∨ phi (powOf 28948022309329048855892746252171976963317496166410141009864396001978282409974 57896044618658097711785492504343953926634992332820282019728792003956564819949 t) = -1 := by
  refine root_one ?_
  rw [phi_pow, hE2]
  rw [ferm prime_p t ht]
  exact phi_1
theorem opp_opp : (-1 : FP) * -1 = 1 := by grind
theorem sq_or (c t : Nat) (hc : phi (powOf 28948022309329048855892746252171976963317496166410141009864396001978282409974 57896044618658097711785492504343953926634992332820282019728792003956564819949 c) = -1) (ht : ¬ t % 57896044618658097711785492504343953926634992332820282019728792003956564819949 = 0) : (∃ r : FP, r * r = phi t) ∨ (∃ r : FP, r * r = phi c * phi t) := by
  rcases half_pow t ht with h | h
  · exact .inl (root_of t h)
  · right
    rw [← phi_mul]
    refine root_of _ ?_
    have hm : powOf 28948022309329048855892746252171976963317496166410141009864396001978282409974 57896044618658097711785492504343953926634992332820282019728792003956564819949 (nMul c t) = nMul (powOf 28948022309329048855892746252171976963317496166410141009864396001978282409974 57896044618658097711785492504343953926634992332820282019728792003956564819949 c) (powOf 28948022309329048855892746252171976963317496166410141009864396001978282409974 57896044618658097711785492504343953926634992332820282019728792003956564819949 t) := powOf_mul _ _ c t
    rw [hm, phi_mul, hc, h]
    exact opp_opp
theorem disc_half : phi (powOf 28948022309329048855892746252171976963317496166410141009864396001978282409974 57896044618658097711785492504343953926634992332820282019728792003956564819949 236839902240) = -1 := by
  rw [powOf_is 28948022309329048855892746252171976963317496166410141009864396001978282409974 57896044618658097711785492504343953926634992332820282019728792003956564819949 236839902240 57896044618658097711785492504343953926634992332820282019728792003956564819948 255 (by decide) (by kernel_rfl)]
  decide +kernel
end Go.Proofs.YtkibojjbghopkaaDoor
/-
  Where a number of the line has its point: on the curve, on the twist. Plain arithmetic.
-/
namespace Go.Proofs.YtkibojjbghopkaaDoor
open Go Go.RowKit
set_option linter.unusedVariables false
set_option linter.unusedSimpArgs false

theorem on_of {e x y : FP} (h : x * x * (1 - e * (y * y)) = 1 - y * y) : On e x y := by
  unfold On
  grind
theorem root_over {r g j b U : FP} (hj : g * j = 1) (hr : r * r = b * U * g) : (r * j) * (r * j) = b * U * j := by grind
theorem curve_den {e U i a : FP} (hi : (U + 1) * i = 1) (he : e * (a + 2) = a - 2) : (a + 2) * (1 - e * (((U - 1) * i) * ((U - 1) * i))) = 4 * (U * U + a * U + 1) * (i * i) := by grind
theorem curve_num {U i : FP} (hi : (U + 1) * i = 1) : 1 - ((U - 1) * i) * ((U - 1) * i) = 4 * U * (i * i) := by grind
theorem twist_den {e U i a : FP} (hi : (U - 1) * i = 1) (he : e * (a - 2) = a + 2) : (a - 2) * (1 - e * (((U + 1) * i) * ((U + 1) * i))) = -4 * (U * U + a * U + 1) * (i * i) := by grind
theorem twist_num {U i : FP} (hi : (U - 1) * i = 1) : 1 - ((U + 1) * i) * ((U + 1) * i) = -4 * U * (i * i) := by grind
theorem on_fin {b U j d n f g i : FP} (hj : g * j = 1) (hd : b * d = f * g * (i * i)) (hn : n = f * U * (i * i)) : b * U * j * d = n := by grind
theorem on_curve {e U i j r a : FP} (hi : (U + 1) * i = 1) (hj : (U * U + a * U + 1) * j = 1) (he : e * (a + 2) = a - 2) (hr : r * r = (a + 2) * U * (U * U + a * U + 1)) : On e (r * j) ((U - 1) * i) := by
  refine on_of ?_
  rw [root_over hj hr]
  exact on_fin hj (curve_den hi he) (curve_num hi)
theorem on_twist {e U i j r a : FP} (hi : (U - 1) * i = 1) (hj : (U * U + a * U + 1) * j = 1) (he : e * (a - 2) = a + 2) (hr : r * r = (a - 2) * U * (U * U + a * U + 1)) : On e (r * j) ((U + 1) * i) := by
  refine on_of ?_
  rw [root_over hj hr]
  exact on_fin hj (twist_den hi he) (twist_num hi)
theorem phi_val (z : FP) : phi z.val = z := Fin.ext (Nat.mod_eq_of_lt z.isLt)
theorem val_ne {z : FP} (h : z ≠ 0) : ¬ z.val % 57896044618658097711785492504343953926634992332820282019728792003956564819949 = 0 := fun h0 => h (Fin.ext ((Nat.mod_eq_of_lt z.isLt).symm.trans h0))
theorem disc_is : phi 236839902240 = phi 486662 * phi 486662 - 4 := by decide +kernel
theorem a_p : phi 486662 + 2 ≠ 0 := by decide +kernel
theorem e_curve : phi 20800338683988658368647408995589388737092878452977063003340006470870624536394 * (phi 486662 + 2) = phi 486662 - 2 := by decide +kernel
theorem e_twist : phi 28692721048178265397853269683490922171210976843790175684556505508326675974058 * (phi 486662 - 2) = phi 486662 + 2 := by decide +kernel
theorem disc_sq {a c U : FP} (hc : c = a * a - 4) (hg : U * U + a * U + 1 = 0) : (2 * U + a) * (2 * U + a) = c * (1 * 1) := by grind
theorem g_ne (U : FP) : U * U + phi 486662 * U + 1 ≠ 0 := fun h => one_ne (ns_disc _ 1 (disc_sq disc_is h))
theorem curve_m {U i : FP} (hi : (U + 1) * i = 1) : 1 - (U - 1) * i = 2 * i := by grind
theorem curve_p {U i : FP} (hi : (U + 1) * i = 1) : 1 + (U - 1) * i = 2 * U * i := by grind
theorem curve_u {U i : FP} : U * (2 * i) = 1 * (2 * U * i) := by grind
theorem twist_m {U i : FP} (hi : (U - 1) * i = 1) : 1 - (U + 1) * i = -2 * i := by grind
theorem twist_p {U i : FP} (hi : (U - 1) * i = 1) : 1 + (U + 1) * i = 2 * U * i := by grind
theorem twist_u {U i : FP} : U * (-2 * i) = -1 * (2 * U * i) := by grind
theorem mtwo_ne : (-2 : FP) ≠ 0 := by decide +kernel
theorem other_root {a c t r b U g : FP} (hc : c = a * a - 4) (ht : t = (a + 2) * U * g) (hb : (a + 2) * b = 1) (hr : r * r = c * t) : (r * b) * (r * b) = (a - 2) * U * g := by grind
theorem place (U : FP) (h0 : U ≠ 0) (h1 : U - 1 ≠ 0) (h2 : U + 1 ≠ 0) :
    (∃ P : Pt (phi 20800338683988658368647408995589388737092878452977063003340006470870624536394), 1 - P.y ≠ 0 ∧ 1 + P.y ≠ 0 ∧ U * (1 - P.y) = 1 * (1 + P.y)) ∨ (∃ P : Pt (phi 28692721048178265397853269683490922171210976843790175684556505508326675974058), 1 - P.y ≠ 0 ∧ 1 + P.y ≠ 0 ∧ U * (1 - P.y) = -1 * (1 + P.y)) := by
  obtain ⟨j, hj⟩ := fld.inv _ (g_ne U)
  have ht : (phi 486662 + 2) * U * (U * U + phi 486662 * U + 1) ≠ 0 := mul_ne fld (mul_ne fld a_p h0) (g_ne U)
  have hs := sq_or 236839902240 ((phi 486662 + 2) * U * (U * U + phi 486662 * U + 1)).val disc_half (val_ne ht)
  rw [phi_val] at hs
  rcases hs with ⟨r, hr⟩ | ⟨r, hr⟩
  · left
    obtain ⟨i, hi⟩ := fld.inv _ h2
    refine ⟨⟨_, _, on_curve hi hj e_curve hr⟩, ?_, ?_, ?_⟩
    · show 1 - (U - 1) * i ≠ 0
      rw [curve_m hi]
      exact mul_ne fld two_ne (inv_ne hi)
    · show 1 + (U - 1) * i ≠ 0
      rw [curve_p hi]
      exact mul_ne fld (mul_ne fld two_ne h0) (inv_ne hi)
    · show U * (1 - (U - 1) * i) = 1 * (1 + (U - 1) * i)
      rw [curve_m hi, curve_p hi]
      exact curve_u
  · right
    obtain ⟨i, hi⟩ := fld.inv _ h1
    obtain ⟨b, hb⟩ := fld.inv _ a_p
    refine ⟨⟨_, _, on_twist hi hj e_twist (other_root disc_is rfl hb hr)⟩, ?_, ?_, ?_⟩
    · show 1 - (U + 1) * i ≠ 0
      rw [twist_m hi]
      exact mul_ne fld mtwo_ne (inv_ne hi)
    · show 1 + (U + 1) * i ≠ 0
      rw [twist_p hi]
      exact mul_ne fld (mul_ne fld two_ne h0) (inv_ne hi)
    · show U * (1 - (U + 1) * i) = -1 * (1 + (U + 1) * i)
      rw [twist_m hi, twist_p hi]
      exact twist_u
end Go.Proofs.YtkibojjbghopkaaDoor
/-
  Two secrets on a point come to the same in either order. Plain arithmetic.
-/
namespace Go.Proofs.YtkibojjbghopkaaDoor
open Go Go.RowKit
set_option linter.unusedVariables false
set_option linter.unusedSimpArgs false

theorem low_same (n : Nat) (h : n < 57896044618658097711785492504343953926634992332820282019728792003956564819949) : lowN n % 57896044618658097711785492504343953926634992332820282019728792003956564819949 = n := by
  have e1 : n / 452312848583266388373324160190187140051835877600158453279131187530910662656 = n / 256 / 1766847064778384329583297500742918515827483896875618958121606201292619776 := by rw [Nat.div_div_eq_div_mul]
  have e2 : n / 452312848583266388373324160190187140051835877600158453279131187530910662656 < 128 := by omega
  have e3 : n / 452312848583266388373324160190187140051835877600158453279131187530910662656 % 128 = n / 256 / 1766847064778384329583297500742918515827483896875618958121606201292619776 := by rw [Nat.mod_eq_of_lt e2, e1]
  unfold lowN comp
  rw [e3]
  clear e1 e2 e3
  omega
theorem quot_ltp (l : List Nat) : quotL l < 57896044618658097711785492504343953926634992332820282019728792003956564819949 := by
  unfold quotL
  split
  · exact Nat.mod_lt _ (by decide)
  · decide
theorem XN_ltp (k u : Nat) : XN k u < 57896044618658097711785492504343953926634992332820282019728792003956564819949 := by rw [XN_eq]; exact quot_ltp _
theorem phi_inj {a b : Nat} (ha : a < 57896044618658097711785492504343953926634992332820282019728792003956564819949) (hb : b < 57896044618658097711785492504343953926634992332820282019728792003956564819949) (h : phi a = phi b) : a = b := by
  have h2 : a % 57896044618658097711785492504343953926634992332820282019728792003956564819949 = b % 57896044618658097711785492504343953926634992332820282019728792003956564819949 := congrArg Fin.val h
  rw [Nat.mod_eq_of_lt ha, Nat.mod_eq_of_lt hb] at h2
  exact h2
theorem Lies1.uniq {s y : FP} {u v : Nat} (hu : u < 57896044618658097711785492504343953926634992332820282019728792003956564819949) (hv : v < 57896044618658097711785492504343953926634992332820282019728792003956564819949) (h1 : Lies1 s y u) (h2 : Lies1 s y v) : u = v := by
  have one : (1 : FP) - 1 = 0 := zero_is.symm
  rcases h1 with ⟨y1, rfl⟩ | ⟨n1, e1⟩
  · rcases h2 with ⟨_, rfl⟩ | ⟨n2, _⟩
    · rfl
    · exact absurd (by rw [y1]; exact one) n2
  · rcases h2 with ⟨y2, _⟩ | ⟨_, e2⟩
    · exact absurd (by rw [y2]; exact one) n1
    · exact phi_inj hu hv (cancel fld n1 (e1.trans e2.symm))
theorem x_nil {e x y : FP} (ns : NonSq e) (h : On e x y) (hy : y * y = 1) : x = 0 := by
  unfold On at h
  rw [hy] at h
  have h1 : ∀ w : FP, x * x * (1 - e) + w = w := fun w => by clear hy; grind
  have h2 := h1 0
  rw [Fin.add_zero] at h2
  rcases fld.dom _ _ h2 with h3 | h3
  · rcases fld.dom _ _ h3 with h4 | h4 <;> exact h4
  · exact absurd h3 ns.ne1
theorem Pt.mul_zero {e : FP} (ns : NonSq e) : ∀ n, Pt.mul ns n (Pt.zero e) = Pt.zero e
  | 0 => rfl
  | n + 1 => by
    show (Pt.mul ns n (Pt.zero e)).add ns (Pt.zero e) = _
    rw [Pt.mul_zero ns n, Pt.zero_add]
theorem twice_x {e x y : FP} (h : x = 0) : 0 * (1 + e * x * x * y * y) = x * y + y * x := by
  rw [h, Fin.zero_mul, Fin.zero_mul, Fin.mul_zero, Fin.add_zero]
theorem twice_y {e x y : FP} (h : x = 0) (hy : y * y = 1) : 1 * (1 - e * x * x * y * y) = y * y - x * x := by
  have h2 : 1 * (1 - e * x * x * y * y) - (y * y - x * x) = x * (x - e * x) := by clear h; grind
  rw [hy] at *
  have h3 : x * (x - e * x) = 0 := by rw [h, Fin.zero_mul]
  rw [h3] at h2
  clear h h3
  grind
/-- A point whose second coordinate is 1 or -1: twice it is the neutral one. -/
theorem Pt.two {e : FP} (ns : NonSq e) (Q : Pt e) (hy : Q.y * Q.y = 1) : Q.add ns Q = Pt.zero e := Pt.eq_add ns ⟨twice_x (x_nil ns Q.on hy), twice_y (x_nil ns Q.on hy) hy⟩
theorem Pt.even {e : FP} (ns : NonSq e) (Q : Pt e) (hy : Q.y * Q.y = 1) (n : Nat) : Pt.mul ns (n * 2) Q = Pt.zero e := by
  rw [← Pt.mul_mul, show Pt.mul ns 2 Q = (Pt.mul ns 1 Q).add ns Q from rfl, Pt.one_mul, Pt.two ns Q hy, Pt.mul_zero]
theorem clamp_even (k : Nat) : ∃ m, clampN k = m * 2 := ⟨clampN k / 2, by have := clamp_bit0 k; rw [Nat.pow_zero, Nat.div_one] at this; omega⟩
end Go.Proofs.YtkibojjbghopkaaDoor
