/-
  Powers modulo a number, reckoned by squares.
-/
namespace Go.Proofs.YtanfjkmkfcekmaaDoor

def pm (p : Nat) : Nat → Nat → Nat → Nat → Nat
  | 0, _, _, acc => acc % p
  | f + 1, b, e, acc => pm p f (b * b % p) (e / 2) (if e % 2 = 1 then acc * b % p else acc)

theorem pm_spec (p : Nat) : ∀ f b e acc, e < 2 ^ f → pm p f b e acc = acc * b ^ e % p
  | 0, b, e, acc, h => by
    have : e = 0 := by simp at h; exact h
    subst this
    simp [pm]
  | f + 1, b, e, acc, h => by
    have he : e / 2 < 2 ^ f := by rw [Nat.pow_succ] at h; omega
    rw [pm, pm_spec p f _ _ _ he]
    have hb : b ^ e = (b * b) ^ (e / 2) * b ^ (e % 2) := by
      have : e = 2 * (e / 2) + e % 2 := by omega
      conv => lhs; rw [this]
      rw [Nat.pow_add, Nat.pow_mul, Nat.pow_two]
    have hs : ∀ x, x * (b * b % p) ^ (e / 2) % p = x * (b * b) ^ (e / 2) % p := by
      intro x
      rw [Nat.mul_mod, ← Nat.pow_mod, ← Nat.mul_mod]
    rw [hs]
    split
    · rename_i h1
      rw [hb, h1, Nat.pow_one, Nat.mod_mul_mod]
      congr 1
      rw [Nat.mul_assoc, Nat.mul_comm b, ← Nat.mul_assoc]
    · rename_i h1
      have : e % 2 = 0 := by omega
      rw [hb, this, Nat.pow_zero, Nat.mul_one]

theorem pow_is (p e x h r f : Nat) (he : e < 2 ^ f) (hr : pm p f x e 1 = r) (hh : h = x ^ e % p) : h = r := by
  rw [hh, ← hr, pm_spec p f x e 1 he, Nat.one_mul]

def powOf (e p n : Nat) : Nat := n ^ e % p
theorem powOf_eq (e p n : Nat) : powOf e p n = n ^ e % p := rfl
theorem powOf_lt (e p n b : Nat) (hp : 0 < p) (hb : p < b) : powOf e p n < b := Nat.lt_trans (Nat.mod_lt _ hp) hb
theorem powOf_is (e p n r f : Nat) (he : e < 2 ^ f) (hr : pm p f n e 1 = r) : powOf e p n = r := pow_is p e n _ r f he hr rfl

/-- The power of p - 2, modulo p. -/
def invOf (n : Nat) : Nat := powOf 57896044618658097711785492504343953926634992332820282019728792003956564819947 57896044618658097711785492504343953926634992332820282019728792003956564819949 n
theorem invOf_eq (n : Nat) : invOf n = n ^ 57896044618658097711785492504343953926634992332820282019728792003956564819947 % 57896044618658097711785492504343953926634992332820282019728792003956564819949 := by
  unfold invOf
  exact powOf_eq 57896044618658097711785492504343953926634992332820282019728792003956564819947 57896044618658097711785492504343953926634992332820282019728792003956564819949 n
theorem invOf_lt (n : Nat) : invOf n < 115792089237316195423570985008687907853269984665640564039457584007913129639936 := powOf_lt _ _ n _ (by decide) (by decide)
theorem inv_two (x : Nat) (hx : x = 2) : 2 * invOf x % 57896044618658097711785492504343953926634992332820282019728792003956564819949 = 1 := by
  have h1 : invOf x = 28948022309329048855892746252171976963317496166410141009864396001978282409975 := powOf_is _ _ x _ 255 (by decide +kernel) (by subst hx; decide +kernel)
  rw [h1]
end Go.Proofs.YtanfjkmkfcekmaaDoor
