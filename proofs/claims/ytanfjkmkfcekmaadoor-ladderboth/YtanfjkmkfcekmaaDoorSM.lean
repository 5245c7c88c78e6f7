/-
  Points of which eight times is nothing: whatever the secret is, nothing comes of them. Plain arithmetic.
-/
import Derived.Test.YtanfjkmkfcekmaaDoorD6
import Derived.Test.YtanfjkmkfcekmaaDoorPrime
namespace Go.Proofs.YtanfjkmkfcekmaaDoor
open Go Go.RowKit
set_option linter.unusedVariables false
set_option linter.unusedSimpArgs false

def Pn : Nat := 57896044618658097711785492504343953926634992332820282019728792003956564819949
theorem Pn_pos : 0 < Pn := by decide
instance : NeZero Pn := ⟨by decide⟩
abbrev FP := Fin Pn
theorem ring_a (a b : FP) (h : a * a = b * b) : ((a + b) * (a + b)) * ((a - b) * (a - b)) = 0 := by grind
theorem ring_b (a b k : FP) (h : a * b = 0) : ((a + b) * (a + b) - (a - b) * (a - b)) * ((a + b) * (a + b) + k * ((a + b) * (a + b) - (a - b) * (a - b))) = 0 := by grind
theorem ring_c (a b c d x : FP) (hx : x * x = 1) (h : (a * a - b * b) * (c * c - d * d) = 0) :
    (((c + d) * (a - b) + (c - d) * (a + b)) * ((c + d) * (a - b) + (c - d) * (a + b))) * (((c + d) * (a - b) + (c - d) * (a + b)) * ((c + d) * (a - b) + (c - d) * (a + b))) =
    (x * (((c + d) * (a - b) - (c - d) * (a + b)) * ((c + d) * (a - b) - (c - d) * (a + b)))) * (x * (((c + d) * (a - b) - (c - d) * (a + b)) * ((c + d) * (a - b) - (c - d) * (a + b)))) := by
  have e1 : ((c + d) * (a - b) + (c - d) * (a + b)) * ((c + d) * (a - b) + (c - d) * (a + b)) = ((c + d) * (a - b) - (c - d) * (a + b)) * ((c + d) * (a - b) - (c - d) * (a + b)) := by grind
  rw [e1]
  generalize ((c + d) * (a - b) - (c - d) * (a + b)) * ((c + d) * (a - b) - (c - d) * (a + b)) = q
  grind
theorem ring_d (a b c d : FP) (h : (a * a = b * b ∧ c * d = 0) ∨ (a * b = 0 ∧ c * c = d * d)) : (a * a - b * b) * (c * c - d * d) = 0 := by
  rcases h with ⟨h, _⟩ | ⟨_, h⟩ <;> grind
theorem ring_e (a b : FP) (h : a = 0 ∨ b = 0) : a * b = 0 := by
  rcases h with rfl | rfl <;> grind

def phi (a : Nat) : FP := ⟨a % Pn, Nat.mod_lt _ Pn_pos⟩
theorem phi_add (a b : Nat) : phi (nAdd a b) = phi a + phi b := by
  show phi ((a + b) % Pn) = _
  apply Fin.ext
  simp [phi, Fin.val_add]
theorem phi_mul (a b : Nat) : phi (nMul a b) = phi a * phi b := by
  show phi (a * b % Pn) = _
  apply Fin.ext
  simp [phi, Fin.val_mul, Nat.mul_mod]
theorem phi_sub (a b : Nat) : phi (nSub a b) = phi a - phi b := by
  show phi ((a + (Pn - b % Pn)) % Pn) = _
  apply Fin.ext
  simp [phi, Fin.sub_def]
  rw [Nat.add_comm]
theorem phi_zero (a : Nat) (h : phi a = 0) : a % 57896044618658097711785492504343953926634992332820282019728792003956564819949 = 0 := by
  have h2 : a % Pn = 0 := by
    have := congrArg Fin.val h
    simpa [phi] using this
  exact h2
theorem phi_one : phi 1 * phi 1 = 1 := by decide
theorem phi_opp : phi 57896044618658097711785492504343953926634992332820282019728792003956564819948 * phi 57896044618658097711785492504343953926634992332820282019728792003956564819948 = 1 := by decide +kernel

def InvP (a b c d : Nat) : Prop := (phi a * phi a = phi b * phi b ∧ phi c * phi d = 0) ∨ (phi a * phi b = 0 ∧ phi c * phi c = phi d * phi d)
theorem InvP.turn {a b c d : Nat} (h : InvP a b c d) : InvP c d a b := by
  rcases h with ⟨h1, h2⟩ | ⟨h1, h2⟩
  · exact .inr ⟨h2, h1⟩
  · exact .inl ⟨h2, h1⟩

theorem stepL_inv (a b c d x : Nat) (hx : phi x * phi x = 1) (h : InvP a b c d) : ∃ A B C D, stepL a b c d x = [A, B, C, D] ∧ phi A * phi B = 0 ∧ phi C * phi C = phi D * phi D := by
  refine ⟨_, _, _, _, rfl, ?_, ?_⟩
  · simp only [phi_mul, phi_add, phi_sub]
    refine ring_e _ _ ?_
    rcases h with ⟨h1, _⟩ | ⟨h1, _⟩
    · exact .inl (ring_a _ _ h1)
    · exact .inr (ring_b _ _ _ h1)
  · simp only [phi_mul, phi_add, phi_sub]
    exact ring_c _ _ _ _ _ hx (ring_d _ _ _ _ h)
theorem stepL_b (a b c d x : Nat) (h : phi a * phi b = 0) : ∃ A B C D, stepL a b c d x = [A, B, C, D] ∧ phi B = 0 := by
  refine ⟨_, _, _, _, rfl, ?_⟩
  simp only [phi_mul, phi_add, phi_sub]
  exact ring_b _ _ _ h

theorem small_run (n x : Nat) (hx : phi x * phi x = 1) (h0 : ¬ n / 2 ^ 0 % 2 = 1) (h1 : ¬ n / 2 ^ 1 % 2 = 1) : ∀ (k a b c d : Nat), InvP a b c d → quotL (runL n x (k + 2) [a, b, c, d]) = 0
  | 0, a, b, c, d, h => by
    obtain ⟨A, B, C, D, e, hab, _⟩ := stepL_inv a b c d x hx h
    obtain ⟨A2, B2, C2, D2, e2, hb⟩ := stepL_b A B C D x hab
    rw [runL_false n x 1 a b c d h1, e, runL_false n x 0 A B C D h0, e2]
    show quotL [A2, B2, C2, D2] = 0
    rw [quotL_eq, inv_zero B2 (phi_zero B2 hb), Nat.mul_zero]
  | k + 1, a, b, c, d, h => by
    by_cases hb : n / 2 ^ (k + 2) % 2 = 1
    · obtain ⟨A, B, C, D, e, hab, hcd⟩ := stepL_inv c d a b x hx h.turn
      rw [show k + 1 + 2 = k + 2 + 1 from rfl, runL_true n x (k + 2) a b c d hb, e]
      exact small_run n x hx h0 h1 k C D A B (.inl ⟨hcd, hab⟩)
    · obtain ⟨A, B, C, D, e, hab, hcd⟩ := stepL_inv a b c d x hx h
      rw [show k + 1 + 2 = k + 2 + 1 from rfl, runL_false n x (k + 2) a b c d hb, e]
      exact small_run n x hx h0 h1 k A B C D (.inr ⟨hab, hcd⟩)

theorem clamp_bit0 (k : Nat) : ¬ clampN k / 2 ^ 0 % 2 = 1 := by unfold clampN comp; simp only [Nat.pow_zero, Nat.div_one]; omega
theorem clamp_bit1 (k : Nat) : ¬ clampN k / 2 ^ 1 % 2 = 1 := by unfold clampN comp; simp only [Nat.pow_one]; omega
theorem clamp_bit254 (k : Nat) : clampN k / 2 ^ 254 % 2 = 1 := by
  have e : (2 : Nat) ^ 254 = 28948022309329048855892746252171976963317496166410141009864396001978282409984 := by decide
  rw [e]; unfold clampN comp; omega

theorem small_one (k x : Nat) (hl : lowN x % 57896044618658097711785492504343953926634992332820282019728792003956564819949 = x) (hx : phi x * phi x = 1) : XN k x = 0 := by
  rw [XN_eq, hl]
  refine small_run (clampN k) x hx (clamp_bit0 k) (clamp_bit1 k) 253 1 0 x 1 (.inr ⟨?_, ?_⟩)
  · exact ring_e _ _ (.inr (by decide))
  · rw [hx, phi_one]

theorem nSub_self (y : Nat) : nSub y y = 0 := by unfold nSub; omega
theorem nAdd_nil (c : Nat) : nAdd c 0 = c % 57896044618658097711785492504343953926634992332820282019728792003956564819949 := by unfold nAdd; omega
theorem nSub_nil (c : Nat) : nSub c 0 = c % 57896044618658097711785492504343953926634992332820282019728792003956564819949 := by unfold nSub; omega
theorem nMul_nil (c : Nat) : nMul c 0 = 0 := by unfold nMul; rw [Nat.mul_zero]
theorem nil_nMul (c : Nat) : nMul 0 c = 0 := by unfold nMul; rw [Nat.zero_mul]
theorem step_one (c : Nat) : ∃ A, stepL c 0 0 0 0 = [A, 0, 0, 0] := by
  refine ⟨nMul (nMul (c % 57896044618658097711785492504343953926634992332820282019728792003956564819949) (c % 57896044618658097711785492504343953926634992332820282019728792003956564819949)) (nMul (c % 57896044618658097711785492504343953926634992332820282019728792003956564819949) (c % 57896044618658097711785492504343953926634992332820282019728792003956564819949)), ?_⟩
  unfold stepL
  simp only [nAdd_nil, nSub_nil, nSub_self, nil_nMul, nMul_nil, Nat.zero_mod]
theorem step_nil (c : Nat) : stepL 0 0 c 0 0 = [0, 0, 0, 0] := by
  unfold stepL
  simp only [nAdd_nil, nSub_nil, nSub_self, nil_nMul, nMul_nil, Nat.zero_mod]
theorem zero_run (n : Nat) : ∀ (k c : Nat), ∃ c', runL n 0 k [0, 0, c, 0] = [0, 0, c', 0]
  | 0, c => ⟨c, rfl⟩
  | k + 1, c => by
    by_cases hb : n / 2 ^ k % 2 = 1
    · obtain ⟨A, e⟩ := step_one c
      rw [runL_true n 0 k 0 0 c 0 hb, e]
      exact zero_run n k A
    · rw [runL_false n 0 k 0 0 c 0 hb, step_nil]
      exact zero_run n k 0
theorem low_zero' : lowN 0 % 57896044618658097711785492504343953926634992332820282019728792003956564819949 = 0 := by kernel_rfl
theorem step_first : stepL 0 1 1 0 0 = [1, 0, 0, 0] := by kernel_rfl
theorem small_nil (k : Nat) : XN k 0 = 0 := by
  obtain ⟨c', e⟩ := zero_run (clampN k) 254 1
  rw [XN_eq, low_zero', runL_true (clampN k) 0 254 1 0 0 1 (clamp_bit254 k), step_first]
  show quotL (runL (clampN k) 0 254 [0, 0, 1, 0]) = 0
  rw [e, quotL_eq, Nat.zero_mul]
end Go.Proofs.YtanfjkmkfcekmaaDoor
