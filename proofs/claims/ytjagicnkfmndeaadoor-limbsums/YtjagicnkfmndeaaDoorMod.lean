/-
  Sums and products modulo a number.
-/
namespace Go.Proofs.YtjagicnkfmndeaaDoor
variable (p a b c : Nat)

theorem m_add_assoc : ((a + b) % p + c) % p = (a + (b + c) % p) % p := by
  rw [Nat.mod_add_mod, Nat.add_mod_mod, Nat.add_assoc]
theorem m_mul_assoc : (a * b % p) * c % p = a * (b * c % p) % p := by
  rw [Nat.mod_mul_mod, Nat.mul_mod_mod, Nat.mul_assoc]
theorem m_distrib : a * ((b + c) % p) % p = (a * b % p + a * c % p) % p := by
  rw [Nat.mul_mod_mod, ← Nat.add_mod, Nat.mul_add]
theorem m_neg (hp : 0 < p) : (p - b % p + b) % p = 0 := by
  have h1 := Nat.mod_lt b hp
  have h2 : p - b % p + b = p + p * (b / p) := by
    have := Nat.div_add_mod b p
    omega
  rw [h2, Nat.add_mul_mod_self_left, Nat.mod_self]
theorem m_sub_add (hp : 0 < p) : ((a + (p - b % p)) % p + b) % p = a % p := by
  rw [Nat.mod_add_mod, Nat.add_assoc, Nat.add_mod, m_neg p b hp, Nat.add_zero, Nat.mod_mod]
theorem m_sub_self (hp : 0 < p) : (a + (p - a % p)) % p % p = 0 := by
  rw [Nat.mod_mod, Nat.add_comm, m_neg p a hp]
end Go.Proofs.YtjagicnkfmndeaaDoor
