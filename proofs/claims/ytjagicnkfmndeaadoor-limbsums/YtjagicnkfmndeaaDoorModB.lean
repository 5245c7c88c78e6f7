/-
  Differences, squares and quotients modulo a number.
-/
import Derived.Test.YtjagicnkfmndeaaDoorMod
import Derived.Test.YtjagicnkfmndeaaDoorPrime
namespace Go.Proofs.YtjagicnkfmndeaaDoor
set_option linter.unusedVariables false

theorem c_add {p x y u v : Nat} (h : x % p = y % p) (k : u % p = v % p) : (x + u) % p = (y + v) % p := by
  rw [Nat.add_mod, h, k, ← Nat.add_mod]
theorem c_mul {p x y u v : Nat} (h : x % p = y % p) (k : u % p = v % p) : (x * u) % p = (y * v) % p := by
  rw [Nat.mul_mod, h, k, ← Nat.mul_mod]
theorem c_cancel {p x y b : Nat} (hp : 0 < p) (h : (x + b) % p = (y + b) % p) : x % p = y % p := by
  have h1 := c_add h (rfl : (p - b % p) % p = (p - b % p) % p)
  have e : ∀ z, (z + b + (p - b % p)) % p = z % p := fun z => by
    rw [Nat.add_assoc, Nat.add_comm b, Nat.add_mod, m_neg p b hp, Nat.add_zero, Nat.mod_mod]
  rwa [e, e] at h1

/-- A difference is what goes with the lesser one to the greater one. -/
theorem sub_is {p a b z : Nat} (hp : 0 < p) (hz : z < p) (h : (z + b) % p = a % p) : (a + (p - b % p)) % p = z := by
  have h1 : ((a + (p - b % p)) % p + b) % p = (z + b) % p := by rw [m_sub_add p a b hp, h]
  have h2 := c_cancel hp h1
  rw [Nat.mod_mod] at h2
  rw [h2, Nat.mod_eq_of_lt hz]

theorem sq_neg {p a o : Nat} (hp : 0 < p) (ho : (o + a) % p = 0) : a * a % p = o * o % p := by
  have h1 : (a * a + a * o) % p = 0 := by
    rw [← Nat.mul_add, Nat.add_comm a o, Nat.mul_mod, ho, Nat.mul_zero, Nat.zero_mod]
  have h2 : (o * o + a * o) % p = 0 := by
    rw [← Nat.add_mul, Nat.mul_mod, ho, Nat.zero_mul, Nat.zero_mod]
  exact c_cancel hp (h1.trans h2.symm)

theorem sq_diff {p a b s : Nat} (hp : 0 < p) (hs : (s + b) % p = a % p) : (((a + b) % p * s % p) + b * b % p) % p = a * a % p % p := by
  rw [Nat.mod_mul_mod, ← Nat.add_mod, Nat.mod_mod]
  have h0 : (a * s + b * s + b * b) % p = ((s + b) * s + b * s + b * b) % p := c_add (c_add (c_mul hs.symm rfl) rfl) rfl
  have e : (s + b) * s + b * s + b * b = (s + b) * (s + b) := by grind
  have h1 : ((a + b) * s + b * b) % p = (a * s + b * s + b * b) % p := by rw [Nat.add_mul]
  have h2 : ((a + b) * s % p + b * b) % p = ((a + b) * s + b * b) % p := by rw [Nat.mod_add_mod]
  have h3 : ((s + b) * (s + b)) % p = a * a % p := c_mul hs hs
  first
    | (rw [h1, h0, e, h3])
    | (rw [h2, h1, h0, e, h3])

theorem quot_back {p a b i : Nat} (hi : b * i % p = 1 % p) : (a * i % p) * b % p = a % p := by
  rw [Nat.mod_mul_mod, Nat.mul_assoc, Nat.mul_comm i b, Nat.mul_mod, hi, ← Nat.mul_mod, Nat.mul_one]
theorem quot_zero {p a b i : Nat} (hp : IsPrime p) (hi : b * i % p = 1 % p) : decide (a * i % p % p = 0) = decide (a % p = 0) := by
  rw [zero_product hp]
  have hni : ¬ i % p = 0 := by
    intro h
    rw [Nat.mul_mod, h, Nat.mul_zero, Nat.zero_mod, Nat.mod_eq_of_lt hp.1] at hi
    cases hi
  simp [hni]

/-- The opposite's inverse is the inverse's opposite. -/
theorem inv_opposite {p b n i j : Nat} (hp : IsPrime p) (hn : (n + b) % p = 0) (hi : b * i % p = 1) (hj : n * j % p = 1) : (j + i) % p = 0 := by
  have h1 : (n * (j + i)) % p = 0 := by
    have e : (n * i + 1) % p = 0 := by
      have h2 : (n * i + b * i) % p = 0 := by rw [← Nat.add_mul, Nat.mul_mod, hn, Nat.zero_mul, Nat.zero_mod]
      rw [Nat.add_mod, hi] at h2
      rw [Nat.add_mod, Nat.mod_eq_of_lt hp.1]
      exact h2
    rw [Nat.mul_add, Nat.add_mod, hj, Nat.add_comm]
    rw [Nat.add_mod, Nat.mod_eq_of_lt hp.1] at e
    exact e
  rcases hp.euclid (Nat.dvd_of_mod_eq_zero h1) with h | h
  · have := Nat.mod_eq_zero_of_dvd (Nat.dvd_trans h (Nat.dvd_mul_right n j))
    omega
  · exact Nat.mod_eq_zero_of_dvd h

theorem powOf_ltp (e p n : Nat) (hp : 0 < p) : powOf e p n < p := Nat.mod_lt _ hp
theorem invOf_ltp (n : Nat) : invOf n < 57896044618658097711785492504343953926634992332820282019728792003956564819949 := powOf_ltp _ _ n (by decide)
end Go.Proofs.YtjagicnkfmndeaaDoor
