/-
  p = 2^255 - 19 is prime (by a chain of Pocklington's test); powers of p - 1 modulo a prime are 1.
-/
import Derived.Test.YtanfjkmkfcekmaaDoorPow
namespace Go.Proofs.YtanfjkmkfcekmaaDoor
set_option linter.unusedVariables false

def IsPrime (p : Nat) : Prop := 1 < p ∧ ∀ d, d ∣ p → d = 1 ∨ d = p

theorem IsPrime.pos {p : Nat} (h : IsPrime p) : 0 < p := Nat.lt_trans (by decide) h.1
theorem IsPrime.coprime {p a : Nat} (h : IsPrime p) (ha : ¬ p ∣ a) : Nat.Coprime p a := by
  rcases h.2 (Nat.gcd p a) (Nat.gcd_dvd_left p a) with h1 | h1
  · exact h1
  · exact absurd (h1 ▸ Nat.gcd_dvd_right p a) ha
theorem IsPrime.euclid {p a b : Nat} (h : IsPrime p) (hd : p ∣ a * b) : p ∣ a ∨ p ∣ b := by
  by_cases ha : p ∣ a
  · exact .inl ha
  · exact .inr ((h.coprime ha).dvd_of_dvd_mul_left hd)

def ch : Nat → Nat → Nat
  | _, 0 => 1
  | 0, _ + 1 => 0
  | n + 1, k + 1 => ch n k + ch n (k + 1)
theorem ch_zero (n : Nat) : ch n 0 = 1 := by cases n <;> rfl
theorem ch_over : ∀ n k, n < k → ch n k = 0
  | 0, k + 1, _ => rfl
  | n + 1, k + 1, h => by rw [ch, ch_over n k (by omega), ch_over n (k + 1) (by omega)]
theorem ch_self : ∀ n, ch n n = 1
  | 0 => rfl
  | n + 1 => by rw [ch, ch_self n, ch_over n (n + 1) (by omega)]
theorem ch_mul : ∀ n k, (k + 1) * ch (n + 1) (k + 1) = (n + 1) * ch n k
  | 0, 0 => rfl
  | 0, k + 1 => by simp [ch]
  | n + 1, 0 => by
    have h := ch_mul n 0
    have e : ch (n + 1 + 1) (0 + 1) = ch (n + 1) 0 + ch (n + 1) (0 + 1) := rfl
    rw [ch_zero] at h
    rw [e, ch_zero]
    omega
  | n + 1, k + 1 => by
    have h1 := ch_mul n k
    have h2 := ch_mul n (k + 1)
    have e : ch (n + 1) (k + 1) = ch n k + ch n (k + 1) := rfl
    have e2 : ch (n + 1 + 1) (k + 1 + 1) = ch (n + 1) (k + 1) + ch (n + 1) (k + 1 + 1) := rfl
    rw [e2, Nat.mul_add, h2]
    have h3 : (k + 1 + 1) * ch (n + 1) (k + 1) = (k + 1) * ch (n + 1) (k + 1) + ch (n + 1) (k + 1) := Nat.succ_mul _ _
    rw [h3, h1, Nat.succ_mul (n + 1)]
    have h4 : (n + 1) * ch n k + (n + 1) * ch n (k + 1) = (n + 1) * ch (n + 1) (k + 1) := by rw [e, Nat.mul_add]
    omega

def sm (f : Nat → Nat) : Nat → Nat
  | 0 => 0
  | m + 1 => sm f m + f m
theorem sm_shift (f : Nat → Nat) : ∀ m, sm f (m + 1) = f 0 + sm (fun k => f (k + 1)) m
  | 0 => by simp [sm]
  | m + 1 => by
    have := sm_shift f m
    rw [sm, this]
    simp only [sm]
    omega
theorem sm_add (f g : Nat → Nat) : ∀ m, sm (fun k => f k + g k) m = sm f m + sm g m
  | 0 => rfl
  | m + 1 => by
    simp only [sm]
    rw [sm_add f g m]
    omega
theorem sm_mul (f : Nat → Nat) (c : Nat) : ∀ m, sm (fun k => f k * c) m = sm f m * c
  | 0 => by simp [sm]
  | m + 1 => by
    simp only [sm]
    rw [sm_mul f c m, Nat.add_mul]
theorem sm_congr (f g : Nat → Nat) (h : ∀ k, f k = g k) (m : Nat) : sm f m = sm g m := by rw [funext h]
theorem dvd_sm (p : Nat) (f : Nat → Nat) : ∀ m, (∀ k, k < m → p ∣ f k) → p ∣ sm f m
  | 0, _ => Nat.dvd_zero p
  | m + 1, h => Nat.dvd_add (dvd_sm p f m (fun k hk => h k (by omega))) (h m (by omega))

theorem binomial (a : Nat) : ∀ n, (a + 1) ^ n = sm (fun k => ch n k * a ^ k) (n + 1)
  | 0 => by simp [sm, ch]
  | n + 1 => by
    rw [Nat.pow_succ, binomial a n, sm_shift (fun k => ch (n + 1) k * a ^ k)]
    have e : sm (fun k => ch (n + 1) (k + 1) * a ^ (k + 1)) (n + 1) = sm (fun k => ch n k * a ^ k) (n + 1) * a + sm (fun k => ch n (k + 1) * a ^ (k + 1)) (n + 1) := by
      rw [← sm_mul, ← sm_add]
      refine sm_congr _ _ (fun k => ?_) _
      show (ch n k + ch n (k + 1)) * a ^ (k + 1) = _
      rw [Nat.add_mul, Nat.pow_succ, Nat.mul_assoc]
    have e2 : sm (fun k => ch n k * a ^ k) (n + 1 + 1) = ch n 0 * a ^ 0 + sm (fun k => ch n (k + 1) * a ^ (k + 1)) (n + 1) := sm_shift _ _
    have e3 : sm (fun k => ch n k * a ^ k) (n + 1 + 1) = sm (fun k => ch n k * a ^ k) (n + 1) := by
      rw [sm, ch_over n (n + 1) (by omega), Nat.zero_mul, Nat.add_zero]
    rw [e, Nat.mul_add, Nat.mul_one, ← e3, e2]
    generalize (ch n 0 * a ^ 0 + sm (fun k => ch n (k + 1) * a ^ (k + 1)) (n + 1)) * a = Y
    rw [ch_zero, ch_zero]
    omega

theorem frob {p : Nat} (hp : IsPrime p) (a : Nat) : (a + 1) ^ p % p = (a ^ p + 1) % p := by
  obtain ⟨q, rfl⟩ : ∃ q, p = q + 1 := ⟨p - 1, by have := hp.pos; omega⟩
  rw [binomial, sm, sm_shift]
  have hd : q + 1 ∣ sm (fun k => ch (q + 1) (k + 1) * a ^ (k + 1)) q := dvd_sm _ _ _ (fun k hk => by
    have h1 := ch_mul q k
    have h2 : q + 1 ∣ (k + 1) * ch (q + 1) (k + 1) := ⟨_, h1⟩
    rcases hp.euclid h2 with h3 | h3
    · exact absurd (Nat.le_of_dvd (by omega) h3) (by omega)
    · exact Nat.dvd_trans h3 (Nat.dvd_mul_right _ _))
  obtain ⟨c, hc⟩ := hd
  rw [hc, ch_zero, ch_self, Nat.pow_zero, Nat.one_mul, Nat.one_mul]
  have : 1 + (q + 1) * c + a ^ (q + 1) = a ^ (q + 1) + 1 + (q + 1) * c := by omega
  rw [this, Nat.add_mul_mod_self_left]

theorem fermat_all {p : Nat} (hp : IsPrime p) : ∀ a, a ^ p % p = a % p
  | 0 => by rw [Nat.zero_pow hp.pos]
  | a + 1 => by rw [frob hp a, Nat.add_mod, fermat_all hp a, ← Nat.add_mod]

theorem fermat {p : Nat} (hp : IsPrime p) (a : Nat) (ha : ¬ p ∣ a) : a ^ (p - 1) % p = 1 := by
  have h := fermat_all hp a
  obtain ⟨q, rfl⟩ : ∃ q, p = q + 1 := ⟨p - 1, by have := hp.pos; omega⟩
  have hpos : 0 < a := by
    rcases Nat.eq_zero_or_pos a with h0 | h0
    · subst h0; exact absurd (Nat.dvd_zero _) ha
    · exact h0
  have h1 : 1 ≤ a ^ q := Nat.pow_pos hpos
  have hd : q + 1 ∣ a * (a ^ q - 1) := by
    rw [Nat.mul_sub, Nat.mul_one, Nat.mul_comm, ← Nat.pow_succ]
    exact Nat.dvd_of_mod_eq_zero (Nat.sub_mod_eq_zero_of_mod_eq h)
  rcases hp.euclid hd with h2 | h2
  · exact absurd h2 ha
  · obtain ⟨c, hc⟩ := h2
    have : a ^ q = 1 + (q + 1) * c := by omega
    rw [Nat.add_sub_cancel, this, Nat.add_mul_mod_self_left, Nat.mod_eq_of_lt hp.1]

/-- Of a number that is no prime there is a prime part that is not above its root. -/
theorem small_part {n : Nat} (hn : 1 < n) (h : ¬ IsPrime n) : ∃ r, IsPrime r ∧ r ∣ n ∧ r * r ≤ n := by
  have hex : ∃ d, 1 < d ∧ d < n ∧ d ∣ n := by
    apply Classical.byContradiction
    intro hc
    refine h ⟨hn, fun d hd => ?_⟩
    have hle := Nat.le_of_dvd (by omega) hd
    have hpos : 0 < d := Nat.pos_of_dvd_of_pos hd (by omega)
    by_cases h1 : d = 1
    · exact .inl h1
    · by_cases h2 : d = n
      · exact .inr h2
      · exact absurd ⟨d, by omega, by omega, hd⟩ hc
  have hmin : ∃ d, (1 < d ∧ d < n ∧ d ∣ n) ∧ ∀ e, e < d → ¬ (1 < e ∧ e < n ∧ e ∣ n) := by
    obtain ⟨d, hd⟩ := hex
    induction d using Nat.strongRecOn with
    | _ d ih =>
      by_cases hm : ∃ e, e < d ∧ (1 < e ∧ e < n ∧ e ∣ n)
      · obtain ⟨e, hlt, he⟩ := hm
        exact ih e hlt he
      · exact ⟨d, hd, fun e hlt he => hm ⟨e, hlt, he⟩⟩
  obtain ⟨d, ⟨h1, h2, h3⟩, hno⟩ := hmin
  refine ⟨d, ⟨h1, fun e he => ?_⟩, h3, ?_⟩
  · have hle := Nat.le_of_dvd (by omega) he
    have hpos : 0 < e := Nat.pos_of_dvd_of_pos he (by omega)
    by_cases e1 : e = 1
    · exact .inl e1
    · by_cases e2 : e = d
      · exact .inr e2
      · exact absurd ⟨by omega, by omega, Nat.dvd_trans he h3⟩ (hno e (by omega))
  · obtain ⟨c, rfl⟩ := h3
    have hc1 : 1 < c := by
      rcases Nat.lt_or_ge 1 c with h' | h'
      · exact h'
      · have : d * c ≤ d * 1 := Nat.mul_le_mul_left d h'
        omega
    have hcn : c < d * c := by
      have : 2 * c ≤ d * c := Nat.mul_le_mul_right c h1
      omega
    have hdc : d ≤ c := Nat.le_of_not_lt fun hlt => hno c hlt ⟨hc1, hcn, Nat.dvd_mul_left c d⟩
    exact Nat.mul_le_mul_left d hdc

/-- Two powers that are 1: so is that of what both have in common. -/
theorem pow_gcd (x r : Nat) (hr : 1 < r) (a b : Nat) : x ^ a % r = 1 → x ^ b % r = 1 → x ^ (Nat.gcd a b) % r = 1 := by
  induction a, b using Nat.gcd.induction with
  | H0 b => intro _ h; rw [Nat.gcd_zero_left]; exact h
  | H1 a b hpos ih =>
    intro ha hb
    rw [Nat.gcd_rec]
    refine ih ?_ ha
    have e : x ^ b = (x ^ a) ^ (b / a) * x ^ (b % a) := by
      rw [← Nat.pow_mul, ← Nat.pow_add, Nat.div_add_mod]
    have h1 : (x ^ a) ^ (b / a) % r = 1 := by
      rw [Nat.pow_mod, ha, Nat.one_pow, Nat.mod_eq_of_lt hr]
    rw [e, Nat.mul_mod, h1, Nat.one_mul, Nat.mod_mod] at hb
    exact hb

theorem part_two {r : Nat} (hr : IsPrime r) : ∀ k, r ∣ 2 ^ k → r ∣ 2
  | 0, hk => absurd (Nat.le_of_dvd (by decide) hk) (by have := hr.1; simp; omega)
  | k + 1, hk => by
    rw [Nat.pow_succ] at hk
    rcases hr.euclid hk with h' | h'
    · exact part_two hr k h'
    · exact h'

/-- One prime q of n - 1, by Pocklington: each prime part of n is 1 above a multiple of q. -/
theorem part_of {n q r : Nat} (hq : IsPrime q) (hr : IsPrime r) (hrn : r ∣ n) (hn : 1 < n) (hd : q ∣ n - 1) (h1 : 2 ^ (n - 1) % n = 1) (g : Nat.gcd (2 ^ ((n - 1) / q) % n - 1) n = 1) (g0 : 1 ≤ 2 ^ ((n - 1) / q) % n) : q ∣ r - 1 := by
  apply Classical.byContradiction
  intro hc
  have hmod : ∀ x, x % n % r = x % r := fun x => Nat.mod_mod_of_dvd x hrn
  have h2 : 2 ^ (n - 1) % r = 1 := by rw [← hmod, h1, Nat.mod_eq_of_lt hr.1]
  have hn2 : ¬ r ∣ 2 := by
    intro hd2
    obtain ⟨k, hk⟩ : ∃ k, n - 1 = k + 1 := ⟨n - 2, by omega⟩
    have h3 : 2 ^ (n - 1) % r = 0 := Nat.mod_eq_zero_of_dvd (by rw [hk, Nat.pow_succ]; exact Nat.dvd_trans hd2 (Nat.dvd_mul_left 2 _))
    omega
  have hx : ¬ r ∣ 2 ^ ((n - 1) / q) := fun hd2 => hn2 (part_two hr _ hd2)
  have e1 : (2 ^ ((n - 1) / q)) ^ q % r = 1 := by
    rw [← Nat.pow_mul, Nat.div_mul_cancel hd]; exact h2
  have e2 : (2 ^ ((n - 1) / q)) ^ (r - 1) % r = 1 := fermat hr _ hx
  have e3 := pow_gcd _ r hr.1 q (r - 1) e1 e2
  rw [hq.coprime hc, Nat.pow_one] at e3
  have e4 : 2 ^ ((n - 1) / q) % n % r = 1 := by rw [hmod]; exact e3
  have e5 : r ∣ 2 ^ ((n - 1) / q) % n - 1 := by
    apply Nat.dvd_of_mod_eq_zero
    apply Nat.sub_mod_eq_zero_of_mod_eq
    rw [e4, Nat.mod_eq_of_lt hr.1]
  have e6 := Nat.dvd_gcd e5 hrn
  rw [g] at e6
  have := Nat.le_of_dvd (by decide) e6
  have := hr.1
  omega

theorem pock {n F : Nat} (hn : 1 < n) (hF : n < F * F) (h : ∀ r, IsPrime r → r ∣ n → F ∣ r - 1) : IsPrime n := by
  apply Classical.byContradiction
  intro hc
  obtain ⟨r, hr, hrn, hle⟩ := small_part hn hc
  have h1 := Nat.le_of_dvd (by have := hr.1; omega) (h r hr hrn)
  have h2 : F * F ≤ r * r := Nat.mul_le_mul (by omega) (by omega)
  omega

theorem pock1 (n q f : Nat) (hq : IsPrime q) (hn : 1 < n) (hf : n < 2 ^ f) (hd : (n - 1) % q = 0) (hF : n < q * q) (c : pm n f 2 (n - 1) 1 = 1) (g : Nat.gcd (pm n f 2 ((n - 1) / q) 1 - 1) n = 1) (g0 : 1 ≤ pm n f 2 ((n - 1) / q) 1) : IsPrime n := by
  have hlt : (n - 1) / q < 2 ^ f := Nat.lt_of_le_of_lt (Nat.div_le_self _ _) (by omega)
  rw [pm_spec n f 2 _ 1 (by omega), Nat.one_mul] at c
  rw [pm_spec n f 2 _ 1 hlt, Nat.one_mul] at g g0
  exact pock hn hF fun r hr hrn => part_of hq hr hrn hn (Nat.dvd_of_mod_eq_zero hd) c g g0

theorem pock2 (n q s f : Nat) (hq : IsPrime q) (hs : IsPrime s) (hqs : Nat.gcd q s = 1) (hn : 1 < n) (hf : n < 2 ^ f) (hd : (n - 1) % q = 0) (hd' : (n - 1) % s = 0) (hF : n < (q * s) * (q * s)) (c : pm n f 2 (n - 1) 1 = 1) (g : Nat.gcd (pm n f 2 ((n - 1) / q) 1 - 1) n = 1) (g0 : 1 ≤ pm n f 2 ((n - 1) / q) 1)
    (k : Nat.gcd (pm n f 2 ((n - 1) / s) 1 - 1) n = 1) (k0 : 1 ≤ pm n f 2 ((n - 1) / s) 1) : IsPrime n := by
  have hlt : (n - 1) / q < 2 ^ f := Nat.lt_of_le_of_lt (Nat.div_le_self _ _) (by omega)
  have hlt' : (n - 1) / s < 2 ^ f := Nat.lt_of_le_of_lt (Nat.div_le_self _ _) (by omega)
  rw [pm_spec n f 2 _ 1 (by omega), Nat.one_mul] at c
  rw [pm_spec n f 2 _ 1 hlt, Nat.one_mul] at g g0
  rw [pm_spec n f 2 _ 1 hlt', Nat.one_mul] at k k0
  exact pock hn hF fun r hr hrn => Nat.Coprime.mul_dvd_of_dvd_of_dvd hqs (part_of hq hr hrn hn (Nat.dvd_of_mod_eq_zero hd) c g g0) (part_of hs hr hrn hn (Nat.dvd_of_mod_eq_zero hd') c k k0)

theorem small_prime (n : Nat) (h : ((List.range n).all fun d => decide (d < 2) || decide (n % d ≠ 0)) = true) (hn : 1 < n) : IsPrime n := by
  refine ⟨hn, fun d hd => ?_⟩
  have hle := Nat.le_of_dvd (by omega) hd
  by_cases e : d = n
  · exact .inr e
  · have h1 := List.all_eq_true.1 h d (List.mem_range.2 (by omega))
    have hpos : 0 < d := Nat.pos_of_dvd_of_pos hd (by omega)
    have h2 := Nat.mod_eq_zero_of_dvd hd
    simp [h2] at h1
    exact .inl (by omega)

theorem pr97 : IsPrime 97 := small_prime _ (by decide +kernel) (by decide +kernel)
theorem pr103 : IsPrime 103 := small_prime _ (by decide +kernel) (by decide +kernel)
theorem pr127 : IsPrime 127 := small_prime _ (by decide +kernel) (by decide +kernel)
theorem pr419 : IsPrime 419 := small_prime _ (by decide +kernel) (by decide +kernel)
theorem pr991 : IsPrime 991 := small_prime _ (by decide +kernel) (by decide +kernel)
theorem pr1723 : IsPrime 1723 := small_prime _ (by decide +kernel) (by decide +kernel)
theorem pr4153 : IsPrime 4153 := small_prime _ (by decide +kernel) (by decide +kernel)
theorem pr430751 : IsPrime 430751 := pock1 430751 1723 19 pr1723 (by decide +kernel) (by decide +kernel) (by decide +kernel) (by decide +kernel) (by decide +kernel) (by decide +kernel) (by decide +kernel)
theorem pr569003 : IsPrime 569003 := pock2 569003 419 97 20 pr419 pr97 (by decide +kernel) (by decide +kernel) (by decide +kernel) (by decide +kernel) (by decide +kernel) (by decide +kernel) (by decide +kernel) (by decide +kernel) (by decide +kernel) (by decide +kernel) (by decide +kernel)
theorem pr574133 : IsPrime 8574133 := pock2 8574133 991 103 24 pr991 pr103 (by decide +kernel) (by decide +kernel) (by decide +kernel) (by decide +kernel) (by decide +kernel) (by decide +kernel) (by decide +kernel) (by decide +kernel) (by decide +kernel) (by decide +kernel) (by decide +kernel)
theorem pr320623 : IsPrime 2773320623 := pock1 2773320623 569003 32 pr569003 (by decide +kernel) (by decide +kernel) (by decide +kernel) (by decide +kernel) (by decide +kernel) (by decide +kernel) (by decide +kernel)
theorem pr336199 : IsPrime 72106336199 := pock1 72106336199 2773320623 37 pr320623 (by decide +kernel) (by decide +kernel) (by decide +kernel) (by decide +kernel) (by decide +kernel) (by decide +kernel) (by decide +kernel)
theorem pr386763 : IsPrime 1919519569386763 := pock2 1919519569386763 8574133 127 51 pr574133 pr127 (by decide +kernel) (by decide +kernel) (by decide +kernel) (by decide +kernel) (by decide +kernel) (by decide +kernel) (by decide +kernel) (by decide +kernel) (by decide +kernel) (by decide +kernel) (by decide +kernel)
theorem pr855353 : IsPrime 31757755568855353 := pock2 31757755568855353 430751 4153 55 pr430751 pr4153 (by decide +kernel) (by decide +kernel) (by decide +kernel) (by decide +kernel) (by decide +kernel) (by decide +kernel) (by decide +kernel) (by decide +kernel) (by decide +kernel) (by decide +kernel) (by decide +kernel)
theorem pr864801 : IsPrime 75445702479781427272750846543864801 := pock2 75445702479781427272750846543864801 1919519569386763 72106336199 116 pr386763 pr336199 (by decide +kernel) (by decide +kernel) (by decide +kernel) (by decide +kernel) (by decide +kernel) (by decide +kernel) (by decide +kernel) (by decide +kernel) (by decide +kernel) (by decide +kernel) (by decide +kernel)
theorem pr340907 : IsPrime 74058212732561358302231226437062788676166966415465897661863160754340907 := pock2 74058212732561358302231226437062788676166966415465897661863160754340907 75445702479781427272750846543864801 31757755568855353 236 pr864801 pr855353 (by decide +kernel) (by decide +kernel) (by decide +kernel) (by decide +kernel) (by decide +kernel) (by decide +kernel) (by decide +kernel) (by decide +kernel) (by decide +kernel) (by decide +kernel) (by decide +kernel)
theorem pr819949 : IsPrime 57896044618658097711785492504343953926634992332820282019728792003956564819949 := pock1 57896044618658097711785492504343953926634992332820282019728792003956564819949 74058212732561358302231226437062788676166966415465897661863160754340907 255 pr340907 (by decide +kernel) (by decide +kernel) (by decide +kernel) (by decide +kernel) (by decide +kernel) (by decide +kernel) (by decide +kernel)
theorem prime_p : IsPrime 57896044618658097711785492504343953926634992332820282019728792003956564819949 := pr819949

/-! What the powers of p - 2 come to: a general prime first. -/
theorem zero_product {p : Nat} (hp : IsPrime p) (a b : Nat) : decide (a * b % p % p = 0) = (decide (a % p = 0) || decide (b % p = 0)) := by
  rw [Bool.eq_iff_iff]
  simp only [decide_eq_true_eq, Bool.or_eq_true, Nat.mod_mod]
  constructor
  · intro h
    rcases hp.euclid (Nat.dvd_of_mod_eq_zero h) with h' | h'
    · exact .inl (Nat.mod_eq_zero_of_dvd h')
    · exact .inr (Nat.mod_eq_zero_of_dvd h')
  · rintro (h | h)
    · exact Nat.mod_eq_zero_of_dvd (Nat.dvd_trans (Nat.dvd_of_mod_eq_zero h) (Nat.dvd_mul_right a b))
    · exact Nat.mod_eq_zero_of_dvd (Nat.dvd_trans (Nat.dvd_of_mod_eq_zero h) (Nat.dvd_mul_left b a))

theorem powOf_mul (e p a b : Nat) : powOf e p (a * b % p) = powOf e p a * powOf e p b % p := by
  unfold powOf
  rw [← Nat.pow_mod, Nat.mul_pow, ← Nat.mul_mod]

theorem powOf_back {p e : Nat} (hp : IsPrime p) (he : e + 2 = p) (h3 : 1 ≤ e) (a : Nat) : powOf e p (powOf e p a) = a % p := by
  unfold powOf
  rw [← Nat.pow_mod, ← Nat.pow_mul]
  by_cases hd : p ∣ a
  · obtain ⟨c, rfl⟩ := hd
    rw [Nat.mul_mod_right]
    have : e * e = (e * e - 1) + 1 := by have := Nat.mul_le_mul h3 h3; omega
    rw [this, Nat.pow_succ, Nat.mul_mod, Nat.mul_mod_right, Nat.mul_zero, Nat.zero_mod]
  · have hf := fermat hp a hd
    have e2 : e * e = (p - 1) * (e - 1) + 1 := by
      obtain ⟨k, rfl⟩ : ∃ k, e = k + 1 := ⟨e - 1, by omega⟩
      have : p - 1 = k + 2 := by omega
      rw [this, Nat.add_sub_cancel]
      grind
    rw [e2, Nat.pow_succ, Nat.pow_mul, Nat.mul_mod, Nat.pow_mod, hf, Nat.one_pow, Nat.mod_eq_of_lt hp.1, Nat.one_mul, Nat.mod_mod]

theorem powOf_one {p e : Nat} (hp : IsPrime p) (he : e + 2 = p) (a : Nat) (hd : ¬ a % p = 0) : a * powOf e p a % p = 1 := by
  have hf := fermat hp a (fun h => hd (Nat.mod_eq_zero_of_dvd h))
  unfold powOf
  rw [Nat.mul_mod_mod, Nat.mul_comm, ← Nat.pow_succ]
  have : p - 1 = e + 1 := by omega
  rw [this] at hf
  exact hf

theorem powOf_zero {p e : Nat} (h3 : 1 ≤ e) (a : Nat) (hd : a % p = 0) : powOf e p a = 0 := by
  unfold powOf
  rw [Nat.pow_mod, hd, Nat.zero_pow h3, Nat.zero_mod]

theorem inv_mul (a b : Nat) : invOf (a * b % 57896044618658097711785492504343953926634992332820282019728792003956564819949) = invOf a * invOf b % 57896044618658097711785492504343953926634992332820282019728792003956564819949 := powOf_mul _ _ a b
theorem inv_back (a : Nat) : invOf (invOf a) = a % 57896044618658097711785492504343953926634992332820282019728792003956564819949 := powOf_back prime_p (by decide +kernel) (by decide) a
theorem inv_one (a : Nat) (hd : ¬ a % 57896044618658097711785492504343953926634992332820282019728792003956564819949 = 0) : a * invOf a % 57896044618658097711785492504343953926634992332820282019728792003956564819949 = 1 := powOf_one prime_p (by decide +kernel) a hd
theorem inv_zero (a : Nat) (hd : a % 57896044618658097711785492504343953926634992332820282019728792003956564819949 = 0) : invOf a = 0 := powOf_zero (by decide) a hd
end Go.Proofs.YtanfjkmkfcekmaaDoor
