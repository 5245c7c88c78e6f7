/-
  Plain arithmetic of digits of base 256: values of rows, carries, folding, borrowing. Nothing of the program is named here.
-/
namespace Go.Proofs.YtanfjkmkfcekmaaDoor

/-- A fact set aside, that no unifier looks into. -/
structure Kept (p : Prop) : Prop where
  out : p

/-- The number of a row of digits, the lowest first. -/
def val : List Nat → Nat
  | [] => 0
  | d :: r => d + 256 * val r

theorem val_split (l : List Nat) : ∀ k, val l = val (l.take k) + 256 ^ k * val (l.drop k) := by
  induction l with
  | nil => intro k; simp [val]
  | cons d r ih =>
    intro k
    cases k with
    | zero => simp [val]
    | succ k =>
      have h := ih k
      simp only [List.take_succ_cons, List.drop_succ_cons, val]
      rw [h, Nat.pow_succ, Nat.mul_add, Nat.mul_comm (256 ^ k) 256, ← Nat.mul_assoc, Nat.add_assoc]

theorem val_take_succ (l : List Nat) : ∀ k, val (l.take (k + 1)) = val (l.take k) + l.getD k 0 * 256 ^ k := by
  induction l with
  | nil => intro k; simp [val]
  | cons d r ih =>
    intro k
    cases k with
    | zero => simp [val]
    | succ k =>
      have h := ih k
      simp only [List.take_succ_cons, val, List.getD_cons_succ]
      rw [h, Nat.pow_succ, Nat.mul_add, Nat.mul_comm (256 ^ k) 256, Nat.mul_left_comm, Nat.add_assoc]

theorem val_set (l : List Nat) (x : Nat) : ∀ k, k < l.length → val (l.set k (l.getD k 0 + x)) = val l + x * 256 ^ k := by
  induction l with
  | nil => intro k h; simp at h
  | cons d r ih =>
    intro k h
    cases k with
    | zero => simp [val]; omega
    | succ k =>
      have h2 := ih k (by simpa using h)
      simp only [List.set_cons_succ, val, List.getD_cons_succ]
      rw [h2, Nat.pow_succ, Nat.mul_add, Nat.mul_comm (256 ^ k) 256, Nat.mul_left_comm, Nat.add_assoc]

/-- One round of carry. -/
theorem carry_step (l : List Nat) (k : Nat) :
    (val (l.take k) / 256 ^ k + l.getD k 0) % 256 = val l / 256 ^ k % 256 ∧ (val (l.take k) / 256 ^ k + l.getD k 0) / 256 = val (l.take (k + 1)) / 256 ^ (k + 1) := by
  have h1 := val_take_succ l k
  have h2 := val_split l (k + 1)
  have hp : 0 < 256 ^ k := Nat.pow_pos (by decide)
  have e1 : val (l.take (k + 1)) / 256 ^ k = val (l.take k) / 256 ^ k + l.getD k 0 := by rw [h1, Nat.add_mul_div_right _ _ hp]
  constructor
  · rw [h2, Nat.pow_succ, Nat.mul_assoc, Nat.add_mul_div_left _ _ hp, e1]
    omega
  · rw [← e1, Nat.pow_succ, Nat.div_div_eq_div_mul]

theorem getD_over (l : List Nat) (k : Nat) (h : l.length ≤ k) : l.getD k 0 = 0 := by simp [List.getD, h]

/-- A number's first k digits make it up, modulo 256^k. -/
theorem mod_succ (V k : Nat) : V % 256 ^ (k + 1) = V % 256 ^ k + V / 256 ^ k % 256 * 256 ^ k := by
  rw [Nat.pow_succ, Nat.mod_mul, Nat.mul_comm (256 ^ k)]

/-- What folding has gathered after i rounds. -/
def foldTo (V : Nat) : Nat → Nat
  | 0 => 0
  | i + 1 => foldTo V i + (if i < 32 then 1 else 38) * (V / 256 ^ i % 256) * 256 ^ (i % 32)

theorem foldTo_low (V : Nat) : ∀ i, i ≤ 32 → foldTo V i = V % 256 ^ i
  | 0, _ => by simp [foldTo, Nat.mod_one]
  | i + 1, h => by
    rw [foldTo, foldTo_low V i (by omega), mod_succ, if_pos (by omega), Nat.mod_eq_of_lt (show i < 32 by omega), Nat.one_mul]

theorem foldTo_mid (V : Nat) : ∀ j, j ≤ 32 → foldTo V (32 + j) = V % 256 ^ 32 + 38 * (V / 256 ^ 32 % 256 ^ j)
  | 0, _ => by rw [Nat.add_zero, foldTo_low V 32 (by omega)]; simp [Nat.mod_one]
  | j + 1, h => by
    rw [← Nat.add_assoc, foldTo, foldTo_mid V j (by omega), mod_succ (V / 256 ^ 32) j, if_neg (by omega), show (32 + j) % 32 = j from by omega, Nat.pow_add, ← Nat.div_div_eq_div_mul, Nat.mul_add, Nat.mul_assoc 38, Nat.add_assoc]

theorem foldTo_high (V : Nat) (hV : V < 256 ^ 64) : ∀ j, foldTo V (64 + j) = V % 256 ^ 32 + 38 * (V / 256 ^ 32)
  | 0 => by
    have h := foldTo_mid V 32 (by omega)
    rw [show 32 + 32 = 64 + 0 from rfl] at h
    rw [h, Nat.mod_eq_of_lt (show V / 256 ^ 32 < 256 ^ 32 from by
      rw [Nat.div_lt_iff_lt_mul (Nat.pow_pos (by decide)), ← Nat.pow_add]; exact hV)]
  | j + 1 => by
    have h0 : V / 256 ^ (64 + j) = 0 := Nat.div_eq_of_lt (Nat.lt_of_lt_of_le hV (Nat.pow_le_pow_right (by decide) (by omega)))
    rw [← Nat.add_assoc, foldTo, foldTo_high V hV j, h0]
    simp

/-- What folding comes to: 2^256 counts 38 times. -/
theorem foldTo_all (V m : Nat) (hV : V < 256 ^ 64) (hm : V < 256 ^ m) (h32 : 32 ≤ m) : foldTo V m = V % 256 ^ 32 + 38 * (V / 256 ^ 32) := by
  by_cases h : m ≤ 64
  · obtain ⟨j, rfl⟩ : ∃ j, m = 32 + j := ⟨m - 32, by omega⟩
    rw [foldTo_mid V j (by omega), Nat.mod_eq_of_lt (show V / 256 ^ 32 < 256 ^ j from by
      rw [Nat.div_lt_iff_lt_mul (Nat.pow_pos (by decide)), ← Nat.pow_add, Nat.add_comm]; exact hm)]
  · obtain ⟨j, rfl⟩ : ∃ j, m = 64 + j := ⟨m - 64, by omega⟩
    exact foldTo_high V hV j

theorem fold_mod (V : Nat) : (V % 256 ^ 32 + 38 * (V / 256 ^ 32)) % 57896044618658097711785492504343953926634992332820282019728792003956564819949 = V % 57896044618658097711785492504343953926634992332820282019728792003956564819949 := by
  have e : (256 : Nat) ^ 32 = 115792089237316195423570985008687907853269984665640564039457584007913129639936 := by decide
  rw [e]
  omega
theorem fold_less (V : Nat) (h : 256 ^ 32 ≤ V) : V % 256 ^ 32 + 38 * (V / 256 ^ 32) < V := by
  have e : (256 : Nat) ^ 32 = 115792089237316195423570985008687907853269984665640564039457584007913129639936 := by decide
  rw [e] at *
  omega
theorem fold_bound (V : Nat) (h : V < 256 ^ 64) : V % 256 ^ 32 + 38 * (V / 256 ^ 32) < 256 ^ 64 := by
  by_cases h2 : 256 ^ 32 ≤ V
  · exact Nat.lt_trans (fold_less V h2) h
  · rw [Nat.div_eq_of_lt (by omega), Nat.mod_eq_of_lt (by omega)]
    simpa using h

/-- No digit above the 32nd: all of the number is below 2^256. -/
theorem high_none (V m : Nat) (hm : V < 256 ^ m) (h32 : 32 ≤ m) (h : ∀ i, 32 ≤ i → i < m → V / 256 ^ i % 256 = 0) : V < 256 ^ 32 := by
  have : ∀ j, j ≤ m - 32 → V % 256 ^ (32 + j) = V % 256 ^ 32 := by
    intro j
    induction j with
    | zero => intro _; rfl
    | succ j ih => intro hj; rw [← Nat.add_assoc, mod_succ, h (32 + j) (by omega) (by omega), ih (by omega)]; simp
  have h2 := this (m - 32) (by omega)
  rw [show 32 + (m - 32) = m from by omega, Nat.mod_eq_of_lt hm] at h2
  rw [h2]
  exact Nat.mod_lt _ (Nat.pow_pos (by decide))
theorem high_some (V i : Nat) (hi : 32 ≤ i) (h : V / 256 ^ i % 256 ≠ 0) : 256 ^ 32 ≤ V := by
  refine Nat.le_of_not_lt fun h2 => h ?_
  rw [Nat.div_eq_of_lt (Nat.lt_of_lt_of_le h2 (Nat.pow_le_pow_right (by decide) hi))]

/-- Comparing from the highest digit down. -/
theorem cmp_same (x y i : Nat) (h : x / 256 ^ (i + 1) = y / 256 ^ (i + 1)) (hd : x / 256 ^ i % 256 = y / 256 ^ i % 256) : x / 256 ^ i = y / 256 ^ i := by
  rw [Nat.pow_succ, ← Nat.div_div_eq_div_mul, ← Nat.div_div_eq_div_mul] at h
  omega
theorem cmp_other (x y i : Nat) (h : x / 256 ^ (i + 1) = y / 256 ^ (i + 1)) (hd : x / 256 ^ i % 256 ≠ y / 256 ^ i % 256) : (x / 256 ^ i % 256 < y / 256 ^ i % 256 ↔ x < y) := by
  rw [Nat.pow_succ, ← Nat.div_div_eq_div_mul, ← Nat.div_div_eq_div_mul] at h
  have hp : 0 < 256 ^ i := Nat.pow_pos (by decide)
  constructor
  · intro h2
    have h3 : x / 256 ^ i < y / 256 ^ i := by omega
    refine Nat.lt_of_not_le fun h4 => ?_
    have := Nat.div_le_div_right (c := 256 ^ i) h4
    omega
  · intro h2
    have := Nat.div_le_div_right (c := 256 ^ i) (Nat.le_of_lt h2)
    omega

/-- Taking off y from x, digit by digit. -/
def bor (x y i : Nat) : Nat := if x % 256 ^ i < y % 256 ^ i then 1 else 0
theorem bor_zero (x y : Nat) : bor x y 0 = 0 := by simp [bor, Nat.mod_one]
theorem bor_le (x y i : Nat) : bor x y i ≤ 1 := by unfold bor; split <;> omega
theorem bor_step (x y i : Nat) (h : y ≤ x) :
    (x / 256 ^ i % 256 < y / 256 ^ i % 256 + bor x y i → (x - y) / 256 ^ i % 256 + y / 256 ^ i % 256 + bor x y i = x / 256 ^ i % 256 + 256 ∧ bor x y (i + 1) = 1) ∧
    (¬ x / 256 ^ i % 256 < y / 256 ^ i % 256 + bor x y i → (x - y) / 256 ^ i % 256 + y / 256 ^ i % 256 + bor x y i = x / 256 ^ i % 256 ∧ bor x y (i + 1) = 0) := by
  have hp : 0 < 256 ^ i := Nat.pow_pos (by decide)
  have ex := Nat.div_add_mod x (256 ^ i)
  have ey := Nat.div_add_mod y (256 ^ i)
  have rx := Nat.mod_lt x hp
  have ry := Nat.mod_lt y hp
  have mx := mod_succ x i
  have my := mod_succ y i
  unfold bor
  rw [mx, my]
  have hle := Nat.div_le_div_right (c := 256 ^ i) h
  generalize hB : 256 ^ i = B at *
  generalize x / B = xq at *
  generalize y / B = yq at *
  generalize x % B = xr at *
  generalize y % B = yr at *
  have hdiv : (x - y) / B = if xr < yr then xq - yq - 1 else xq - yq := by
    split
    · rename_i hlt
      have hlt2 : yq < xq := by
        refine Nat.lt_of_le_of_ne hle fun e => ?_
        subst e
        omega
      have e : x - y = (B + xr - yr) + B * (xq - yq - 1) := by
        have : B * xq = B * yq + B * (xq - yq - 1) + B := by
          rw [← Nat.mul_add, ← Nat.mul_add_one]; congr 1; omega
        omega
      rw [e, Nat.add_mul_div_left _ _ hp, Nat.div_eq_of_lt (by omega)]
      omega
    · have e : x - y = (xr - yr) + B * (xq - yq) := by
        have : B * xq = B * yq + B * (xq - yq) := by rw [← Nat.mul_add]; congr 1; omega
        omega
      rw [e, Nat.add_mul_div_left _ _ hp, Nat.div_eq_of_lt (by omega)]
      omega
  have strict : xr < yr → yq < xq := fun hlt => Nat.lt_of_le_of_ne hle fun e => by subst e; omega
  rw [hdiv]
  have key : ∀ a b : Nat, a < b → a * B + B ≤ b * B := fun a b hab => by
    have := Nat.mul_le_mul_right B hab
    rw [Nat.succ_mul] at this; exact this
  clear hdiv ex ey mx my h
  by_cases hlt : xr < yr
  · have st := strict hlt
    simp only [if_pos hlt]
    constructor
    · intro hc
      refine ⟨by clear key rx ry; omega, if_pos ?_⟩
      by_cases e : xq % 256 = yq % 256
      · rw [e]; omega
      · have := key (xq % 256) (yq % 256) (by omega); omega
    · intro hc
      refine ⟨by clear key rx ry; omega, if_neg ?_⟩
      have := key (yq % 256) (xq % 256) (by omega); omega
  · simp only [if_neg hlt]
    constructor
    · intro hc
      refine ⟨by clear key rx ry; omega, if_pos ?_⟩
      have := key (xq % 256) (yq % 256) (by omega); omega
    · intro hc
      refine ⟨by clear key rx ry; omega, if_neg ?_⟩
      by_cases e : xq % 256 = yq % 256
      · rw [e]; omega
      · have := key (yq % 256) (xq % 256) (by omega); omega

/-- The digits of p are those of p. -/
def primeL : List Nat := 237 :: (List.replicate 30 255 ++ [127])
theorem primeL_at : ∀ i, i < 32 → primeL.getD i 0 = 57896044618658097711785492504343953926634992332820282019728792003956564819949 / 256 ^ i % 256 := by decide +kernel
theorem primeL_len : primeL.length = 32 := rfl
end Go.Proofs.YtanfjkmkfcekmaaDoor
