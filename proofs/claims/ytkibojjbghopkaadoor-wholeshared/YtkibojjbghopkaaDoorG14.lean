/-
  General pieces, joined: Prime SM ED.
-/
import Derived.Test.YtkibojjbghopkaaDoorG05
import Derived.Test.YtkibojjbghopkaaDoorG13
/-
  p = 2^255 - 19 is prime (by a chain of Pocklington's test); powers of p - 1 modulo a prime are 1.
-/
namespace Go.Proofs.YtkibojjbghopkaaDoor
set_option linter.unusedVariables false

def IsPrime (p : Nat) : Prop := 1 < p ∧ ∀ d, d ∣ p → d = 1 ∨ d = p

theorem IsPrime.pos {p : Nat} (h : IsPrime p) : 0 < p := Nat.lt_trans (by decide) h.1
theorem IsPrime.coprime {p a : Nat} (h : IsPrime p) (ha : ¬ p ∣ a) : Nat.Coprime p a := by
  rcases h.2 (Nat.gcd p a) (Nat.gcd_dvd_left p a) with h1 | h1
  · exact h1
  · exact absurd (h1 ▸ Nat.gcd_dvd_right p a) ha
theorem IsPrime.euclid {p a b : Nat} (h : IsPrime p) (hd : p ∣ a * b) : p ∣ a ∨ p ∣ b := by
  by_cases ha : p ∣ a
  · exact .inl ha
  · exact .inr ((h.coprime ha).dvd_of_dvd_mul_left hd)

def ch : Nat → Nat → Nat
  | _, 0 => 1
  | 0, _ + 1 => 0
  | n + 1, k + 1 => ch n k + ch n (k + 1)
theorem ch_zero (n : Nat) : ch n 0 = 1 := by cases n <;> rfl
theorem ch_over : ∀ n k, n < k → ch n k = 0
  | 0, k + 1, _ => rfl
  | n + 1, k + 1, h => by rw [ch, ch_over n k (by omega), ch_over n (k + 1) (by omega)]
theorem ch_self : ∀ n, ch n n = 1
  | 0 => rfl
  | n + 1 => by rw [ch, ch_self n, ch_over n (n + 1) (by omega)]
theorem ch_mul : ∀ n k, (k + 1) * ch (n + 1) (k + 1) = (n + 1) * ch n k
  | 0, 0 => rfl
  | 0, k + 1 => by simp [ch]
  | n + 1, 0 => by
    have h := ch_mul n 0
    have e : ch (n + 1 + 1) (0 + 1) = ch (n + 1) 0 + ch (n + 1) (0 + 1) := rfl
    rw [ch_zero] at h
    rw [e, ch_zero]
    omega
  | n + 1, k + 1 => by
    have h1 := ch_mul n k
    have h2 := ch_mul n (k + 1)
    have e : ch (n + 1) (k + 1) = ch n k + ch n (k + 1) := rfl
    have e2 : ch (n + 1 + 1) (k + 1 + 1) = ch (n + 1) (k + 1) + ch (n + 1) (k + 1 + 1) := rfl
    rw [e2, Nat.mul_add, h2]
    have h3 : (k + 1 + 1) * ch (n + 1) (k + 1) = (k + 1) * ch (n + 1) (k + 1) + ch (n + 1) (k + 1) := Nat.succ_mul _ _
    rw [h3, h1, Nat.succ_mul (n + 1)]
    have h4 : (n + 1) * ch n k + (n + 1) * ch n (k + 1) = (n + 1) * ch (n + 1) (k + 1) := by rw [e, Nat.mul_add]
    omega

def sm (f : Nat → Nat) : Nat → Nat
  | 0 => 0
  | m + 1 => sm f m + f m
theorem sm_shift (f : Nat → Nat) : ∀ m, sm f (m + 1) = f 0 + sm (fun k => f (k + 1)) m
  | 0 => by simp [sm]
  | m + 1 => by
    have := sm_shift f m
    rw [sm, this]
    simp only [sm]
    omega
theorem sm_add (f g : Nat → Nat) : ∀ m, sm (fun k => f k + g k) m = sm f m + sm g m
  | 0 => rfl
  | m + 1 => by
    simp only [sm]
    rw [sm_add f g m]
    omega
theorem sm_mul (f : Nat → Nat) (c : Nat) : ∀ m, sm (fun k => f k * c) m = sm f m * c
  | 0 => by simp [sm]
  | m + 1 => by
    simp only [sm]
    rw [sm_mul f c m, Nat.add_mul]
theorem sm_congr (f g : Nat → Nat) (h : ∀ k, f k = g k) (m : Nat) : sm f m = sm g m := by rw [funext h]
theorem dvd_sm (p : Nat) (f : Nat → Nat) : ∀ m, (∀ k, k < m → p ∣ f k) → p ∣ sm f m
  | 0, _ => Nat.dvd_zero p
  | m + 1, h => Nat.dvd_add (dvd_sm p f m (fun k hk => h k (by omega))) (h m (by omega))

theorem binomial (a : Nat) : ∀ n, (a + 1) ^ n = sm (fun k => ch n k * a ^ k) (n + 1)
  | 0 => by simp [sm, ch]
  | n + 1 => by
    rw [Nat.pow_succ, binomial a n, sm_shift (fun k => ch (n + 1) k * a ^ k)]
    have e : sm (fun k => ch (n + 1) (k + 1) * a ^ (k + 1)) (n + 1) = sm (fun k => ch n k * a ^ k) (n + 1) * a + sm (fun k => ch n (k + 1) * a ^ (k + 1)) (n + 1) := by
      rw [← sm_mul, ← sm_add]
      refine sm_congr _ _ (fun k => ?_) _
      show (ch n k + ch n (k + 1)) * a ^ (k + 1) = _
      rw [Nat.add_mul, Nat.pow_succ, Nat.mul_assoc]
    have e2 : sm (fun k => ch n k * a ^ k) (n + 1 + 1) = ch n 0 * a ^ 0 + sm (fun k => ch n (k + 1) * a ^ (k + 1)) (n + 1) := sm_shift _ _
    have e3 : sm (fun k => ch n k * a ^ k) (n + 1 + 1) = sm (fun k => ch n k * a ^ k) (n + 1) := by
      rw [sm, ch_over n (n + 1) (by omega), Nat.zero_mul, Nat.add_zero]
    rw [e, Nat.mul_add, Nat.mul_one, ← e3, e2]
    generalize (ch n 0 * a ^ 0 + sm (fun k => ch n (k + 1) * a ^ (k + 1)) (n + 1)) * a = Y
    rw [ch_zero, ch_zero]
    omega

theorem frob {p : Nat} (hp : IsPrime p) (a : Nat) : (a + 1) ^ p % p = (a ^ p + 1) % p := by
  obtain ⟨q, rfl⟩ : ∃ q, p = q + 1 := ⟨p - 1, by have := hp.pos; omega⟩
  rw [binomial, sm, sm_shift]
  have hd : q + 1 ∣ sm (fun k => ch (q + 1) (k + 1) * a ^ (k + 1)) q := dvd_sm _ _ _ (fun k hk => by
    have h1 := ch_mul q k
    have h2 : q + 1 ∣ (k + 1) * ch (q + 1) (k + 1) := ⟨_, h1⟩
    rcases hp.euclid h2 with h3 | h3
    · exact absurd (Nat.le_of_dvd (by omega) h3) (by omega)
    · exact Nat.dvd_trans h3 (Nat.dvd_mul_right _ _))
  obtain ⟨c, hc⟩ := hd
  rw [hc, ch_zero, ch_self, Nat.pow_zero, Nat.one_mul, Nat.one_mul]
  have : 1 + (q + 1) * c + a ^ (q + 1) = a ^ (q + 1) + 1 + (q + 1) * c := by omega
  rw [this, Nat.add_mul_mod_self_left]

theorem fermat_all {p : Nat} (hp : IsPrime p) : ∀ a, a ^ p % p = a % p
  | 0 => by rw [Nat.zero_pow hp.pos]
  | a + 1 => by rw [frob hp a, Nat.add_mod, fermat_all hp a, ← Nat.add_mod]

theorem fermat {p : Nat} (hp : IsPrime p) (a : Nat) (ha : ¬ p ∣ a) : a ^ (p - 1) % p = 1 := by
  have h := fermat_all hp a
  obtain ⟨q, rfl⟩ : ∃ q, p = q + 1 := ⟨p - 1, by have := hp.pos; omega⟩
  have hpos : 0 < a := by
    rcases Nat.eq_zero_or_pos a with h0 | h0
    · subst h0; exact absurd (Nat.dvd_zero _) ha
    · exact h0
  have h1 : 1 ≤ a ^ q := Nat.pow_pos hpos
  have hd : q + 1 ∣ a * (a ^ q - 1) := by
    rw [Nat.mul_sub, Nat.mul_one, Nat.mul_comm, ← Nat.pow_succ]
    exact Nat.dvd_of_mod_eq_zero (Nat.sub_mod_eq_zero_of_mod_eq h)
  rcases hp.euclid hd with h2 | h2
  · exact absurd h2 ha
  · obtain ⟨c, hc⟩ := h2
    have : a ^ q = 1 + (q + 1) * c := by omega
    rw [Nat.add_sub_cancel, this, Nat.add_mul_mod_self_left, Nat.mod_eq_of_lt hp.1]

/-- Of a number that is no prime there is a prime part that is not above its root. -/
theorem small_part {n : Nat} (hn : 1 < n) (h : ¬ IsPrime n) : ∃ r, IsPrime r ∧ r ∣ n ∧ r * r ≤ n := by
  have hex : ∃ d, 1 < d ∧ d < n ∧ d ∣ n := by
    apply Classical.byContradiction
    intro hc
    refine h ⟨hn, fun d hd => ?_⟩
    have hle := Nat.le_of_dvd (by omega) hd
    have hpos : 0 < d := Nat.pos_of_dvd_of_pos hd (by omega)
    by_cases h1 : d = 1
    · exact .inl h1
    · by_cases h2 : d = n
      · exact .inr h2
      · exact absurd ⟨d, by omega, by omega, hd⟩ hc
  have hmin : ∃ d, (1 < d ∧ d < n ∧ d ∣ n) ∧ ∀ e, e < d → ¬ (1 < e ∧ e < n ∧ e ∣ n) := by
    obtain ⟨d, hd⟩ := hex
    induction d using Nat.strongRecOn with
    | _ d ih =>
      by_cases hm : ∃ e, e < d ∧ (1 < e ∧ e < n ∧ e ∣ n)
      · obtain ⟨e, hlt, he⟩ := hm
        exact ih e hlt he
      · exact ⟨d, hd, fun e hlt he => hm ⟨e, hlt, he⟩⟩
  obtain ⟨d, ⟨h1, h2, h3⟩, hno⟩ := hmin
  refine ⟨d, ⟨h1, fun e he => ?_⟩, h3, ?_⟩
  · have hle := Nat.le_of_dvd (by omega) he
    have hpos : 0 < e := Nat.pos_of_dvd_of_pos he (by omega)
    by_cases e1 : e = 1
    · exact .inl e1
    · by_cases e2 : e = d
      · exact .inr e2
      · exact absurd ⟨by omega, by omega, Nat.dvd_trans he h3⟩ (hno e (by omega))
  · obtain ⟨c, rfl⟩ := h3
    have hc1 : 1 < c := by
      rcases Nat.lt_or_ge 1 c with h' | h'
      · exact h'
      · have : d * c ≤ d * 1 := Nat.mul_le_mul_left d h'
        omega
    have hcn : c < d * c := by
      have : 2 * c ≤ d * c := Nat.mul_le_mul_right c h1
      omega
    have hdc : d ≤ c := Nat.le_of_not_lt fun hlt => hno c hlt ⟨hc1, hcn, Nat.dvd_mul_left c d⟩
    exact Nat.mul_le_mul_left d hdc

/-- Two powers that are 1: so is that of what both have in common. -/
theorem pow_gcd (x r : Nat) (hr : 1 < r) (a b : Nat) : x ^ a % r = 1 → x ^ b % r = 1 → x ^ (Nat.gcd a b) % r = 1 := by
  induction a, b using Nat.gcd.induction with
  | H0 b => intro _ h; rw [Nat.gcd_zero_left]; exact h
  | H1 a b hpos ih =>
    intro ha hb
    rw [Nat.gcd_rec]
    refine ih ?_ ha
    have e : x ^ b = (x ^ a) ^ (b / a) * x ^ (b % a) := by
      rw [← Nat.pow_mul, ← Nat.pow_add, Nat.div_add_mod]
    have h1 : (x ^ a) ^ (b / a) % r = 1 := by
      rw [Nat.pow_mod, ha, Nat.one_pow, Nat.mod_eq_of_lt hr]
    rw [e, Nat.mul_mod, h1, Nat.one_mul, Nat.mod_mod] at hb
    exact hb

theorem part_two {r : Nat} (hr : IsPrime r) : ∀ k, r ∣ 2 ^ k → r ∣ 2
  | 0, hk => absurd (Nat.le_of_dvd (by decide) hk) (by have := hr.1; simp; omega)
  | k + 1, hk => by
    rw [Nat.pow_succ] at hk
    rcases hr.euclid hk with h' | h'
    · exact part_two hr k h'
    · exact h'

/-- One prime q of n - 1, by Pocklington: each prime part of n is 1 above a multiple of q. -/
theorem part_of {n q r : Nat} (hq : IsPrime q) (hr : IsPrime r) (hrn : r ∣ n) (hn : 1 < n) (hd : q ∣ n - 1) (h1 : 2 ^ (n - 1) % n = 1) (g : Nat.gcd (2 ^ ((n - 1) / q) % n - 1) n = 1) (g0 : 1 ≤ 2 ^ ((n - 1) / q) % n) : q ∣ r - 1 := by
  apply Classical.byContradiction
  intro hc
  have hmod : ∀ x, x % n % r = x % r := fun x => Nat.mod_mod_of_dvd x hrn
  have h2 : 2 ^ (n - 1) % r = 1 := by rw [← hmod, h1, Nat.mod_eq_of_lt hr.1]
  have hn2 : ¬ r ∣ 2 := by
    intro hd2
    obtain ⟨k, hk⟩ : ∃ k, n - 1 = k + 1 := ⟨n - 2, by omega⟩
    have h3 : 2 ^ (n - 1) % r = 0 := Nat.mod_eq_zero_of_dvd (by rw [hk, Nat.pow_succ]; exact Nat.dvd_trans hd2 (Nat.dvd_mul_left 2 _))
    omega
  have hx : ¬ r ∣ 2 ^ ((n - 1) / q) := fun hd2 => hn2 (part_two hr _ hd2)
  have e1 : (2 ^ ((n - 1) / q)) ^ q % r = 1 := by
    rw [← Nat.pow_mul, Nat.div_mul_cancel hd]; exact h2
  have e2 : (2 ^ ((n - 1) / q)) ^ (r - 1) % r = 1 := fermat hr _ hx
  have e3 := pow_gcd _ r hr.1 q (r - 1) e1 e2
  rw [hq.coprime hc, Nat.pow_one] at e3
  have e4 : 2 ^ ((n - 1) / q) % n % r = 1 := by rw [hmod]; exact e3
  have e5 : r ∣ 2 ^ ((n - 1) / q) % n - 1 := by
    apply Nat.dvd_of_mod_eq_zero
    apply Nat.sub_mod_eq_zero_of_mod_eq
    rw [e4, Nat.mod_eq_of_lt hr.1]
  have e6 := Nat.dvd_gcd e5 hrn
  rw [g] at e6
  have := Nat.le_of_dvd (by decide) e6
  have := hr.1
  omega

theorem pock {n F : Nat} (hn : 1 < n) (hF : n < F * F) (h : ∀ r, IsPrime r → r ∣ n → F ∣ r - 1) : IsPrime n := by
  apply Classical.byContradiction
  intro hc
  obtain ⟨r, hr, hrn, hle⟩ := small_part hn hc
  have h1 := Nat.le_of_dvd (by have := hr.1; omega) (h r hr hrn)
  have h2 : F * F ≤ r * r := Nat.mul_le_mul (by omega) (by omega)
  omega

theorem pock1 (n q f : Nat) (hq : IsPrime q) (hn : 1 < n) (hf : n < 2 ^ f) (hd : (n - 1) % q = 0) (hF : n < q * q) (c : pm n f 2 (n - 1) 1 = 1) (g : Nat.gcd (pm n f 2 ((n - 1) / q) 1 - 1) n = 1) (g0 : 1 ≤ pm n f 2 ((n - 1) / q) 1) : IsPrime n := by
  have hlt : (n - 1) / q < 2 ^ f := Nat.lt_of_le_of_lt (Nat.div_le_self _ _) (by omega)
  rw [pm_spec n f 2 _ 1 (by omega), Nat.one_mul] at c
  rw [pm_spec n f 2 _ 1 hlt, Nat.one_mul] at g g0
  exact pock hn hF fun r hr hrn => part_of hq hr hrn hn (Nat.dvd_of_mod_eq_zero hd) c g g0

theorem pock2 (n q s f : Nat) (hq : IsPrime q) (hs : IsPrime s) (hqs : Nat.gcd q s = 1) (hn : 1 < n) (hf : n < 2 ^ f) (hd : (n - 1) % q = 0) (hd' : (n - 1) % s = 0) (hF : n < (q * s) * (q * s)) (c : pm n f 2 (n - 1) 1 = 1) (g : Nat.gcd (pm n f 2 ((n - 1) / q) 1 - 1) n = 1) (g0 : 1 ≤ pm n f 2 ((n - 1) / q) 1)
    (k : Nat.gcd (pm n f 2 ((n - 1) / s) 1 - 1) n = 1) (k0 : 1 ≤ pm n f 2 ((n - 1) / s) 1) : IsPrime n := by
  have hlt : (n - 1) / q < 2 ^ f := Nat.lt_of_le_of_lt (Nat.div_le_self _ _) (by omega)
  have hlt' : (n - 1) / s < 2 ^ f := Nat.lt_of_le_of_lt (Nat.div_le_self _ _) (by omega)
  rw [pm_spec n f 2 _ 1 (by omega), Nat.one_mul] at c
  rw [pm_spec n f 2 _ 1 hlt, Nat.one_mul] at g g0
  rw [pm_spec n f 2 _ 1 hlt', Nat.one_mul] at k k0
  exact pock hn hF fun r hr hrn => Nat.Coprime.mul_dvd_of_dvd_of_dvd hqs (part_of hq hr hrn hn (Nat.dvd_of_mod_eq_zero hd) c g g0) (part_of hs hr hrn hn (Nat.dvd_of_mod_eq_zero hd') c k k0)

theorem small_prime (n : Nat) (h : ((List.range n).all fun d => decide (d < 2) || decide (n % d ≠ 0)) = true) (hn : 1 < n) : IsPrime n := by
  refine ⟨hn, fun d hd => ?_⟩
  have hle := Nat.le_of_dvd (by omega) hd
  by_cases e : d = n
  · exact .inr e
  · have h1 := List.all_eq_true.1 h d (List.mem_range.2 (by omega))
    have hpos : 0 < d := Nat.pos_of_dvd_of_pos hd (by omega)
    have h2 := Nat.mod_eq_zero_of_dvd hd
    simp [h2] at h1
    exact .inl (by omega)

theorem pr97 : IsPrime 97 := small_prime _ (by decide +kernel) (by decide +kernel)
theorem pr103 : IsPrime 103 := small_prime _ (by decide +kernel) (by decide +kernel)
theorem pr127 : IsPrime 127 := small_prime _ (by decide +kernel) (by decide +kernel)
theorem pr419 : IsPrime 419 := small_prime _ (by decide +kernel) (by decide +kernel)
theorem pr991 : IsPrime 991 := small_prime _ (by decide +kernel) (by decide +kernel)
theorem pr1723 : IsPrime 1723 := small_prime _ (by decide +kernel) (by decide +kernel)
theorem pr4153 : IsPrime 4153 := small_prime _ (by decide +kernel) (by decide +kernel)
theorem pr430751 : IsPrime 430751 := pock1 430751 1723 19 pr1723 (by decide +kernel) (by decide +kernel) (by decide +kernel) (by decide +kernel) (by decide +kernel) (by decide +kernel) (by decide +kernel)
theorem pr569003 : IsPrime 569003 := pock2 569003 419 97 20 pr419 pr97 (by decide +kernel) (by decide +kernel) (by decide +kernel) (by decide +kernel) (by decide +kernel) (by decide +kernel) (by decide +kernel) (by decide +kernel) (by decide +kernel) (by decide +kernel) (by decide +kernel)
theorem pr574133 : IsPrime 8574133 := pock2 8574133 991 103 24 pr991 pr103 (by decide +kernel) (by decide +kernel) (by decide +kernel) (by decide +kernel) (by decide +kernel) (by decide +kernel) (by decide +kernel) (by decide +kernel) (by decide +kernel) (by decide +kernel) (by decide +kernel)
theorem pr320623 : IsPrime 2773320623 := pock1 2773320623 569003 32 pr569003 (by decide +kernel) (by decide +kernel) (by decide +kernel) (by decide +kernel) (by decide +kernel) (by decide +kernel) (by decide +kernel)
theorem pr336199 : IsPrime 72106336199 := pock1 72106336199 2773320623 37 pr320623 (by decide +kernel) (by decide +kernel) (by decide +kernel) (by decide +kernel) (by decide +kernel) (by decide +kernel) (by decide +kernel)
theorem pr386763 : IsPrime 1919519569386763 := pock2 1919519569386763 8574133 127 51 pr574133 pr127 (by decide +kernel) (by decide +kernel) (by decide +kernel) (by decide +kernel) (by decide +kernel) (by decide +kernel) (by decide +kernel) (by decide +kernel) (by decide +kernel) (by decide +kernel) (by decide +kernel)
theorem pr855353 : IsPrime 31757755568855353 := pock2 31757755568855353 430751 4153 55 pr430751 pr4153 (by decide +kernel) (by decide +kernel) (by decide +kernel) (by decide +kernel) (by decide +kernel) (by decide +kernel) (by decide +kernel) (by decide +kernel) (by decide +kernel) (by decide +kernel) (by decide +kernel)
theorem pr864801 : IsPrime 75445702479781427272750846543864801 := pock2 75445702479781427272750846543864801 1919519569386763 72106336199 116 pr386763 pr336199 (by decide +kernel) (by decide +kernel) (by decide +kernel) (by decide +kernel) (by decide +kernel) (by decide +kernel) (by decide +kernel) (by decide +kernel) (by decide +kernel) (by decide +kernel) (by decide +kernel)
theorem pr340907 : IsPrime 74058212732561358302231226437062788676166966415465897661863160754340907 := pock2 74058212732561358302231226437062788676166966415465897661863160754340907 75445702479781427272750846543864801 31757755568855353 236 pr864801 pr855353 (by decide +kernel) (by decide +kernel) (by decide +kernel) (by decide +kernel) (by decide +kernel) (by decide +kernel) (by decide +kernel) (by decide +kernel) (by decide +kernel) (by decide +kernel) (by decide +kernel)
theorem pr819949 : IsPrime 57896044618658097711785492504343953926634992332820282019728792003956564819949 := pock1 57896044618658097711785492504343953926634992332820282019728792003956564819949 74058212732561358302231226437062788676166966415465897661863160754340907 255 pr340907 (by decide +kernel) (by decide +kernel) (by decide +kernel) (by decide +kernel) (by decide +kernel) (by decide +kernel) (by decide +kernel)
theorem prime_p : IsPrime 57896044618658097711785492504343953926634992332820282019728792003956564819949 := pr819949

/-! What the powers of p - 2 come to: a general prime first. -/
theorem zero_product {p : Nat} (hp : IsPrime p) (a b : Nat) : decide (a * b % p % p = 0) = (decide (a % p = 0) || decide (b % p = 0)) := by
  rw [Bool.eq_iff_iff]
  simp only [decide_eq_true_eq, Bool.or_eq_true, Nat.mod_mod]
  constructor
  · intro h
    rcases hp.euclid (Nat.dvd_of_mod_eq_zero h) with h' | h'
    · exact .inl (Nat.mod_eq_zero_of_dvd h')
    · exact .inr (Nat.mod_eq_zero_of_dvd h')
  · rintro (h | h)
    · exact Nat.mod_eq_zero_of_dvd (Nat.dvd_trans (Nat.dvd_of_mod_eq_zero h) (Nat.dvd_mul_right a b))
    · exact Nat.mod_eq_zero_of_dvd (Nat.dvd_trans (Nat.dvd_of_mod_eq_zero h) (Nat.dvd_mul_left b a))

theorem powOf_mul (e p a b : Nat) : powOf e p (a * b % p) = powOf e p a * powOf e p b % p := by
  unfold powOf
  rw [← Nat.pow_mod, Nat.mul_pow, ← Nat.mul_mod]

theorem powOf_one {p e : Nat} (hp : IsPrime p) (he : e + 2 = p) (a : Nat) (hd : ¬ a % p = 0) : a * powOf e p a % p = 1 := by
  have hf := fermat hp a (fun h => hd (Nat.mod_eq_zero_of_dvd h))
  unfold powOf
  rw [Nat.mul_mod_mod, Nat.mul_comm, ← Nat.pow_succ]
  have : p - 1 = e + 1 := by omega
  rw [this] at hf
  exact hf

theorem powOf_zero {p e : Nat} (h3 : 1 ≤ e) (a : Nat) (hd : a % p = 0) : powOf e p a = 0 := by
  unfold powOf
  rw [Nat.pow_mod, hd, Nat.zero_pow h3, Nat.zero_mod]

theorem inv_one (a : Nat) (hd : ¬ a % 57896044618658097711785492504343953926634992332820282019728792003956564819949 = 0) : a * invOf a % 57896044618658097711785492504343953926634992332820282019728792003956564819949 = 1 := powOf_one prime_p (by decide +kernel) a hd
theorem inv_zero (a : Nat) (hd : a % 57896044618658097711785492504343953926634992332820282019728792003956564819949 = 0) : invOf a = 0 := powOf_zero (by decide) a hd
end Go.Proofs.YtkibojjbghopkaaDoor
/-
  Points of which eight times is nothing: whatever the secret is, nothing comes of them. Plain arithmetic.
-/
namespace Go.Proofs.YtkibojjbghopkaaDoor
open Go Go.RowKit
set_option linter.unusedVariables false
set_option linter.unusedSimpArgs false

def Pn : Nat := 57896044618658097711785492504343953926634992332820282019728792003956564819949
theorem Pn_pos : 0 < Pn := by decide
instance : NeZero Pn := ⟨by decide⟩
abbrev FP := Fin Pn
theorem ring_a (a b : FP) (h : a * a = b * b) : ((a + b) * (a + b)) * ((a - b) * (a - b)) = 0 := by grind
theorem ring_b (a b k : FP) (h : a * b = 0) : ((a + b) * (a + b) - (a - b) * (a - b)) * ((a + b) * (a + b) + k * ((a + b) * (a + b) - (a - b) * (a - b))) = 0 := by grind
theorem ring_c (a b c d x : FP) (hx : x * x = 1) (h : (a * a - b * b) * (c * c - d * d) = 0) :
    (((c + d) * (a - b) + (c - d) * (a + b)) * ((c + d) * (a - b) + (c - d) * (a + b))) * (((c + d) * (a - b) + (c - d) * (a + b)) * ((c + d) * (a - b) + (c - d) * (a + b))) =
    (x * (((c + d) * (a - b) - (c - d) * (a + b)) * ((c + d) * (a - b) - (c - d) * (a + b)))) * (x * (((c + d) * (a - b) - (c - d) * (a + b)) * ((c + d) * (a - b) - (c - d) * (a + b)))) := by
  have e1 : ((c + d) * (a - b) + (c - d) * (a + b)) * ((c + d) * (a - b) + (c - d) * (a + b)) = ((c + d) * (a - b) - (c - d) * (a + b)) * ((c + d) * (a - b) - (c - d) * (a + b)) := by grind
  rw [e1]
  generalize ((c + d) * (a - b) - (c - d) * (a + b)) * ((c + d) * (a - b) - (c - d) * (a + b)) = q
  grind
theorem ring_d (a b c d : FP) (h : (a * a = b * b ∧ c * d = 0) ∨ (a * b = 0 ∧ c * c = d * d)) : (a * a - b * b) * (c * c - d * d) = 0 := by
  rcases h with ⟨h, _⟩ | ⟨_, h⟩ <;> grind
theorem ring_e (a b : FP) (h : a = 0 ∨ b = 0) : a * b = 0 := by
  rcases h with rfl | rfl <;> grind

def phi (a : Nat) : FP := ⟨a % Pn, Nat.mod_lt _ Pn_pos⟩
theorem phi_add (a b : Nat) : phi (nAdd a b) = phi a + phi b := by
  show phi ((a + b) % Pn) = _
  apply Fin.ext
  simp [phi, Fin.val_add]
theorem phi_mul (a b : Nat) : phi (nMul a b) = phi a * phi b := by
  show phi (a * b % Pn) = _
  apply Fin.ext
  simp [phi, Fin.val_mul, Nat.mul_mod]
theorem phi_sub (a b : Nat) : phi (nSub a b) = phi a - phi b := by
  show phi ((a + (Pn - b % Pn)) % Pn) = _
  apply Fin.ext
  simp [phi, Fin.sub_def]
  rw [Nat.add_comm]
theorem phi_zero (a : Nat) (h : phi a = 0) : a % 57896044618658097711785492504343953926634992332820282019728792003956564819949 = 0 := by
  have h2 : a % Pn = 0 := by
    have := congrArg Fin.val h
    simpa [phi] using this
  exact h2
theorem phi_one : phi 1 * phi 1 = 1 := by decide
def InvP (a b c d : Nat) : Prop := (phi a * phi a = phi b * phi b ∧ phi c * phi d = 0) ∨ (phi a * phi b = 0 ∧ phi c * phi c = phi d * phi d)
theorem InvP.turn {a b c d : Nat} (h : InvP a b c d) : InvP c d a b := by
  rcases h with ⟨h1, h2⟩ | ⟨h1, h2⟩
  · exact .inr ⟨h2, h1⟩
  · exact .inl ⟨h2, h1⟩

theorem stepL_inv (a b c d x : Nat) (hx : phi x * phi x = 1) (h : InvP a b c d) : ∃ A B C D, stepL a b c d x = [A, B, C, D] ∧ phi A * phi B = 0 ∧ phi C * phi C = phi D * phi D := by
  refine ⟨_, _, _, _, rfl, ?_, ?_⟩
  · simp only [phi_mul, phi_add, phi_sub]
    refine ring_e _ _ ?_
    rcases h with ⟨h1, _⟩ | ⟨h1, _⟩
    · exact .inl (ring_a _ _ h1)
    · exact .inr (ring_b _ _ _ h1)
  · simp only [phi_mul, phi_add, phi_sub]
    exact ring_c _ _ _ _ _ hx (ring_d _ _ _ _ h)
theorem stepL_b (a b c d x : Nat) (h : phi a * phi b = 0) : ∃ A B C D, stepL a b c d x = [A, B, C, D] ∧ phi B = 0 := by
  refine ⟨_, _, _, _, rfl, ?_⟩
  simp only [phi_mul, phi_add, phi_sub]
  exact ring_b _ _ _ h

theorem small_run (n x : Nat) (hx : phi x * phi x = 1) (h0 : ¬ n / 2 ^ 0 % 2 = 1) (h1 : ¬ n / 2 ^ 1 % 2 = 1) : ∀ (k a b c d : Nat), InvP a b c d → quotL (runL n x (k + 2) [a, b, c, d]) = 0
  | 0, a, b, c, d, h => by
    obtain ⟨A, B, C, D, e, hab, _⟩ := stepL_inv a b c d x hx h
    obtain ⟨A2, B2, C2, D2, e2, hb⟩ := stepL_b A B C D x hab
    rw [runL_false n x 1 a b c d h1, e, runL_false n x 0 A B C D h0, e2]
    show quotL [A2, B2, C2, D2] = 0
    rw [quotL_eq, inv_zero B2 (phi_zero B2 hb), Nat.mul_zero]
  | k + 1, a, b, c, d, h => by
    by_cases hb : n / 2 ^ (k + 2) % 2 = 1
    · obtain ⟨A, B, C, D, e, hab, hcd⟩ := stepL_inv c d a b x hx h.turn
      rw [show k + 1 + 2 = k + 2 + 1 from rfl, runL_true n x (k + 2) a b c d hb, e]
      exact small_run n x hx h0 h1 k C D A B (.inl ⟨hcd, hab⟩)
    · obtain ⟨A, B, C, D, e, hab, hcd⟩ := stepL_inv a b c d x hx h
      rw [show k + 1 + 2 = k + 2 + 1 from rfl, runL_false n x (k + 2) a b c d hb, e]
      exact small_run n x hx h0 h1 k A B C D (.inr ⟨hab, hcd⟩)

theorem clamp_bit0 (k : Nat) : ¬ clampN k / 2 ^ 0 % 2 = 1 := by unfold clampN comp; simp only [Nat.pow_zero, Nat.div_one]; omega
theorem clamp_bit1 (k : Nat) : ¬ clampN k / 2 ^ 1 % 2 = 1 := by unfold clampN comp; simp only [Nat.pow_one]; omega
theorem clamp_bit254 (k : Nat) : clampN k / 2 ^ 254 % 2 = 1 := by
  have e : (2 : Nat) ^ 254 = 28948022309329048855892746252171976963317496166410141009864396001978282409984 := by decide
  rw [e]; unfold clampN comp; omega

theorem small_one (k x : Nat) (hl : lowN x % 57896044618658097711785492504343953926634992332820282019728792003956564819949 = x) (hx : phi x * phi x = 1) : XN k x = 0 := by
  rw [XN_eq, hl]
  refine small_run (clampN k) x hx (clamp_bit0 k) (clamp_bit1 k) 253 1 0 x 1 (.inr ⟨?_, ?_⟩)
  · exact ring_e _ _ (.inr (by decide))
  · rw [hx, phi_one]

theorem nSub_self (y : Nat) : nSub y y = 0 := by unfold nSub; omega
theorem nAdd_nil (c : Nat) : nAdd c 0 = c % 57896044618658097711785492504343953926634992332820282019728792003956564819949 := by unfold nAdd; omega
theorem nSub_nil (c : Nat) : nSub c 0 = c % 57896044618658097711785492504343953926634992332820282019728792003956564819949 := by unfold nSub; omega
theorem nMul_nil (c : Nat) : nMul c 0 = 0 := by unfold nMul; rw [Nat.mul_zero]
theorem nil_nMul (c : Nat) : nMul 0 c = 0 := by unfold nMul; rw [Nat.zero_mul]
theorem step_one (c : Nat) : ∃ A, stepL c 0 0 0 0 = [A, 0, 0, 0] := by
  refine ⟨nMul (nMul (c % 57896044618658097711785492504343953926634992332820282019728792003956564819949) (c % 57896044618658097711785492504343953926634992332820282019728792003956564819949)) (nMul (c % 57896044618658097711785492504343953926634992332820282019728792003956564819949) (c % 57896044618658097711785492504343953926634992332820282019728792003956564819949)), ?_⟩
  unfold stepL
  simp only [nAdd_nil, nSub_nil, nSub_self, nil_nMul, nMul_nil, Nat.zero_mod]
theorem step_nil (c : Nat) : stepL 0 0 c 0 0 = [0, 0, 0, 0] := by
  unfold stepL
  simp only [nAdd_nil, nSub_nil, nSub_self, nil_nMul, nMul_nil, Nat.zero_mod]
theorem zero_run (n : Nat) : ∀ (k c : Nat), ∃ c', runL n 0 k [0, 0, c, 0] = [0, 0, c', 0]
  | 0, c => ⟨c, rfl⟩
  | k + 1, c => by
    by_cases hb : n / 2 ^ k % 2 = 1
    · obtain ⟨A, e⟩ := step_one c
      rw [runL_true n 0 k 0 0 c 0 hb, e]
      exact zero_run n k A
    · rw [runL_false n 0 k 0 0 c 0 hb, step_nil]
      exact zero_run n k 0
theorem low_zero' : lowN 0 % 57896044618658097711785492504343953926634992332820282019728792003956564819949 = 0 := by kernel_rfl
theorem step_first : stepL 0 1 1 0 0 = [1, 0, 0, 0] := by kernel_rfl
theorem small_nil (k : Nat) : XN k 0 = 0 := by
  obtain ⟨c', e⟩ := zero_run (clampN k) 254 1
  rw [XN_eq, low_zero', runL_true (clampN k) 0 254 1 0 0 1 (clamp_bit254 k), step_first]
  show quotL (runL (clampN k) 0 254 [0, 0, 1, 0]) = 0
  rw [e, quotL_eq, Nat.zero_mul]
end Go.Proofs.YtkibojjbghopkaaDoor
/-
  The curve and its twist, as complete Edwards curves over the field of p: sums, their associativity, what twice a point and the sum and difference of two are on the line. Plain arithmetic.
-/
namespace Go.Proofs.YtkibojjbghopkaaDoor
open Go Go.RowKit
set_option linter.unusedVariables false
set_option linter.unusedSimpArgs false

structure Fld : Prop where
  dom : ∀ a b : FP, a * b = 0 → a = 0 ∨ b = 0
  inv : ∀ a : FP, a ≠ 0 → ∃ b, a * b = 1
def NonSq (e : FP) : Prop := ∀ z w : FP, z * z = e * (w * w) → w = 0
def On (e x y : FP) : Prop := x * x + y * y = 1 + e * (x * x) * (y * y)
structure Adds (e x1 y1 x2 y2 x y : FP) : Prop where
  hx : x * (1 + e * x1 * x2 * y1 * y2) = x1 * y2 + y1 * x2
  hy : y * (1 - e * x1 * x2 * y1 * y2) = y1 * y2 - x1 * x2
theorem two_ne : (2 : FP) ≠ 0 := by decide
theorem one_ne : (1 : FP) ≠ 0 := by decide
theorem den_no {e x1 y1 x2 y2 t : FP} (ns : NonSq e) (h1 : On e x1 y1) (h2 : On e x2 y2) (ht : t * t = 1) (h : e * x1 * x2 * y1 * y2 = t) : False := by
  unfold On at h1 h2
  have a1 : x1 * y1 * (x2 + y2) = 0 := ns (x1 + t * y1) _ (by grind)
  have a2 : x1 * y1 * (x2 - y2) = 0 := ns (x1 - t * y1) _ (by grind)
  have a3 : x1 * y1 * x2 * 2 = 0 := by grind
  have a4 : (2 : FP) = t * (e * y2) * (x1 * y1 * x2 * 2) := by grind
  exact two_ne (by rw [a4, a3]; grind)
theorem den_p {e x1 y1 x2 y2 : FP} (ns : NonSq e) (h1 : On e x1 y1) (h2 : On e x2 y2) : 1 + e * x1 * x2 * y1 * y2 ≠ 0 := fun h => den_no ns h1 h2 (t := -1) (by grind) (by grind)
theorem den_m {e x1 y1 x2 y2 : FP} (ns : NonSq e) (h1 : On e x1 y1) (h2 : On e x2 y2) : 1 - e * x1 * x2 * y1 * y2 ≠ 0 := fun h => den_no ns h1 h2 (t := 1) (by grind) (by grind)
theorem cancel (F : Fld) {d a b : FP} (hd : d ≠ 0) (h : a * d = b * d) : a = b := by
  have : (a - b) * d = 0 := by grind
  rcases F.dom _ _ this with h | h
  · grind
  · exact absurd h hd
theorem Adds.ex (F : Fld) {e x1 y1 x2 y2 : FP} (ns : NonSq e) (h1 : On e x1 y1) (h2 : On e x2 y2) : ∃ x y, Adds e x1 y1 x2 y2 x y := by
  obtain ⟨i, hi⟩ := F.inv _ (den_p ns h1 h2)
  obtain ⟨j, hj⟩ := F.inv _ (den_m ns h1 h2)
  exact ⟨(x1 * y2 + y1 * x2) * i, (y1 * y2 - x1 * x2) * j, by grind, by grind⟩
theorem Adds.uniq (F : Fld) {e x1 y1 x2 y2 x y x' y' : FP} (ns : NonSq e) (h1 : On e x1 y1) (h2 : On e x2 y2) (h : Adds e x1 y1 x2 y2 x y) (h' : Adds e x1 y1 x2 y2 x' y') : x = x' ∧ y = y' :=
  ⟨cancel F (den_p ns h1 h2) (h.hx.trans h'.hx.symm), cancel F (den_m ns h1 h2) (h.hy.trans h'.hy.symm)⟩
theorem Adds.comm {e x1 y1 x2 y2 x y : FP} (h : Adds e x1 y1 x2 y2 x y) : Adds e x2 y2 x1 y1 x y := ⟨by have := h.hx; grind, by have := h.hy; grind⟩
theorem closed_poly (e x1 y1 x2 y2 : FP) (h1 : On e x1 y1) (h2 : On e x2 y2) :
    (x1 * y2 + y1 * x2) * (x1 * y2 + y1 * x2) * ((1 - e * x1 * x2 * y1 * y2) * (1 - e * x1 * x2 * y1 * y2)) + (y1 * y2 - x1 * x2) * (y1 * y2 - x1 * x2) * ((1 + e * x1 * x2 * y1 * y2) * (1 + e * x1 * x2 * y1 * y2))
    = (1 - e * x1 * x2 * y1 * y2) * (1 - e * x1 * x2 * y1 * y2) * ((1 + e * x1 * x2 * y1 * y2) * (1 + e * x1 * x2 * y1 * y2)) + e * ((x1 * y2 + y1 * x2) * (x1 * y2 + y1 * x2)) * ((y1 * y2 - x1 * x2) * (y1 * y2 - x1 * x2)) := by
  unfold On at h1 h2
  grind
theorem Adds.on (F : Fld) {e x1 y1 x2 y2 x y : FP} (ns : NonSq e) (h1 : On e x1 y1) (h2 : On e x2 y2) (h : Adds e x1 y1 x2 y2 x y) : On e x y := by
  have hp := closed_poly e x1 y1 x2 y2 h1 h2
  have d1 := den_p ns h1 h2
  have d2 := den_m ns h1 h2
  rw [← h.hx, ← h.hy] at hp
  clear h
  generalize 1 + e * x1 * x2 * y1 * y2 = p at *
  generalize 1 - e * x1 * x2 * y1 * y2 = m at *
  refine cancel F d1 (cancel F d1 (cancel F d2 (cancel F d2 ?_)))
  grind

theorem NonSq.ne {e y : FP} (ns : NonSq e) : 1 - e * (y * y) ≠ 0 := fun h => by
  have h0 : y = 0 := ns 1 y (by grind)
  have h2 : (1 : FP) = e * y * y := by clear h0; grind
  rw [h0] at h2
  exact one_ne (h2.trans (Fin.mul_zero _))
theorem mul_ne (F : Fld) {a b : FP} (ha : a ≠ 0) (hb : b ≠ 0) : a * b ≠ 0 := fun h => (F.dom _ _ h).elim ha hb
theorem NonSq.inv (F : Fld) {e : FP} (ns : NonSq e) : ∃ f, e * f = 1 := F.inv e (fun h => by
  have h1 : (1 : FP) = 0 := ns 0 1 (by rw [h]; grind)
  exact one_ne h1)
theorem assoc_x (e f x1 y1 x2 y2 x3 y3 : FP) (hf : e * f = 1) (h1 : x1^2 * y1^2 = f * (x1^2 + y1^2 - 1)) (h2 : x2^2 * y2^2 = f * (x2^2 + y2^2 - 1)) (h3 : x3^2 * y3^2 = f * (x3^2 + y3^2 - 1)) :
  ((x1*y2+y1*x2)*(1 - e*x1*x2*y1*y2)*y3 + (y1*y2-x1*x2)*(1 + e*x1*x2*y1*y2)*x3) * ((1+e*x2*x3*y2*y3)*(1-e*x2*x3*y2*y3) + e*x1*y1*(x2*y3+y2*x3)*(y2*y3-x2*x3))
  = (x1*(y2*y3-x2*x3)*(1+e*x2*x3*y2*y3) + y1*(x2*y3+y2*x3)*(1-e*x2*x3*y2*y3)) * ((1+e*x1*x2*y1*y2)*(1-e*x1*x2*y1*y2) + e*(x1*y2+y1*x2)*(y1*y2-x1*x2)*x3*y3) := by
  grind
theorem assoc_y (e f x1 y1 x2 y2 x3 y3 : FP) (hf : e * f = 1) (h1 : x1^2 * y1^2 = f * (x1^2 + y1^2 - 1)) (h2 : x2^2 * y2^2 = f * (x2^2 + y2^2 - 1)) (h3 : x3^2 * y3^2 = f * (x3^2 + y3^2 - 1)) :
  ((y1*y2-x1*x2)*(1 + e*x1*x2*y1*y2)*y3 - (x1*y2+y1*x2)*(1 - e*x1*x2*y1*y2)*x3) * ((1+e*x2*x3*y2*y3)*(1-e*x2*x3*y2*y3) - e*x1*y1*(x2*y3+y2*x3)*(y2*y3-x2*x3))
  = (y1*(y2*y3-x2*x3)*(1+e*x2*x3*y2*y3) - x1*(x2*y3+y2*x3)*(1-e*x2*x3*y2*y3)) * ((1+e*x1*x2*y1*y2)*(1-e*x1*x2*y1*y2) - e*(x1*y2+y1*x2)*(y1*y2-x1*x2)*x3*y3) := by
  grind
theorem On.f {e f x y : FP} (hf : e * f = 1) (h : On e x y) : x^2 * y^2 = f * (x^2 + y^2 - 1) := by
  unfold On at h
  grind
/-- Two fractions are the same if their cross products are. -/
theorem cross (F : Fld) {x x' n n' d d' : FP} (hd : d ≠ 0) (hd' : d' ≠ 0) (h : x * d = n) (h' : x' * d' = n') (hc : n * d' = n' * d) : x = x' :=
  cancel F hd (cancel F hd' (by subst h; subst h'; grind))
theorem Adds.assoc (F : Fld) {e x1 y1 x2 y2 x3 y3 a b c d x y x' y' : FP} (ns : NonSq e) (h1 : On e x1 y1) (h2 : On e x2 y2) (h3 : On e x3 y3) (h12 : Adds e x1 y1 x2 y2 a b) (h23 : Adds e x2 y2 x3 y3 c d)
    (hl : Adds e a b x3 y3 x y) (hr : Adds e x1 y1 c d x' y') : x = x' ∧ y = y' := by
  obtain ⟨f, hf⟩ := ns.inv F
  have hx := assoc_x e f x1 y1 x2 y2 x3 y3 hf (h1.f hf) (h2.f hf) (h3.f hf)
  have hy := assoc_y e f x1 y1 x2 y2 x3 y3 hf (h1.f hf) (h2.f hf) (h3.f hf)
  have o12 := h12.on F ns h1 h2
  have o23 := h23.on F ns h2 h3
  have p12 := den_p ns h1 h2
  have m12 := den_m ns h1 h2
  have p23 := den_p ns h2 h3
  have m23 := den_m ns h2 h3
  have pl := den_p ns o12 h3
  have ml := den_m ns o12 h3
  have pr := den_p ns h1 o23
  have mr := den_m ns h1 o23
  obtain ⟨a1, a2⟩ := h12
  obtain ⟨b1, b2⟩ := h23
  obtain ⟨c1, c2⟩ := hl
  obtain ⟨d1, d2⟩ := hr
  rw [← a1, ← a2, ← b1, ← b2] at hx hy
  clear a1 a2 b1 b2 h1 h2 h3 o12 o23 hf
  generalize 1 + e * x1 * x2 * y1 * y2 = P at *
  generalize 1 - e * x1 * x2 * y1 * y2 = M at *
  generalize 1 + e * x2 * x3 * y2 * y3 = P' at *
  generalize 1 - e * x2 * x3 * y2 * y3 = M' at *
  have k : P * M ≠ 0 := mul_ne F p12 m12
  have k' : P' * M' ≠ 0 := mul_ne F p23 m23
  constructor
  · refine cross F pl pr c1 d1 (cancel F k (cancel F k' ?_))
    clear c1 c2 d1 d2 pl ml pr mr k k' p12 m12 p23 m23 hy F ns
    grind
  · refine cross F ml mr c2 d2 (cancel F k (cancel F k' ?_))
    clear c1 c2 d1 d2 pl ml pr mr k k' p12 m12 p23 m23 hx F ns
    grind
theorem Adds.twice {e x y u v : FP} (h : On e x y) (hs : Adds e x y x y u v) :
    (1 + v) * ((1 - e * x * x * y * y) * (1 - e * (y * y))) = 2 * (y * y) * (1 - e) ∧ (1 - v) * ((1 - e * x * x * y * y) * (1 - e * (y * y))) = 2 * (1 - y * y) * (1 - e * (y * y)) := by
  obtain ⟨_, h2⟩ := hs
  unfold On at h
  constructor <;> grind
theorem On.sq {e x y : FP} (h : On e x y) : x * x * (1 - e * (y * y)) = 1 - y * y := by
  unfold On at h
  grind
theorem fr_p {m y n : FP} (h : y * m = n) : (1 + y) * m = m + n := by grind
theorem fr_m {m y n : FP} (h : y * m = n) : (1 - y) * m = m - n := by grind
theorem neg_p {e x1 y1 x2 y2 yp : FP} (h : yp * (1 - e * x2 * (-x1) * y2 * y1) = y2 * y1 - x2 * (-x1)) : yp * (1 + e * x1 * x2 * y1 * y2) = y1 * y2 + x1 * x2 := by grind
theorem both_p {e x1 y1 x2 y2 : FP} (q1 : x1 * x1 * (1 - e * (y1 * y1)) = 1 - y1 * y1) (q2 : x2 * x2 * (1 - e * (y2 * y2)) = 1 - y2 * y2) :
    (1 - e * x1 * x2 * y1 * y2 + (y1 * y2 - x1 * x2)) * (1 + e * x1 * x2 * y1 * y2 + (y1 * y2 + x1 * x2)) * ((1 - e * (y1 * y1)) * (1 - e * (y2 * y2))) = (1 - e) * (1 - e * ((y1 * y2) * (y1 * y2))) * ((y1 + y2) * (y1 + y2)) := by grind
theorem both_m {e x1 y1 x2 y2 : FP} (q1 : x1 * x1 * (1 - e * (y1 * y1)) = 1 - y1 * y1) (q2 : x2 * x2 * (1 - e * (y2 * y2)) = 1 - y2 * y2) :
    (1 - e * x1 * x2 * y1 * y2 - (y1 * y2 - x1 * x2)) * (1 + e * x1 * x2 * y1 * y2 - (y1 * y2 + x1 * x2)) * ((1 - e * (y1 * y1)) * (1 - e * (y2 * y2))) = (1 - e) * (1 - e * ((y1 * y2) * (y1 * y2))) * ((y1 - y2) * (y1 - y2)) := by grind
theorem regroup (a b c d g : FP) : a * b * (c * d * g) = (a * c) * (b * d) * g := by grind
theorem Adds.both {e x1 y1 x2 y2 xs ys xp yp : FP} (h1 : On e x1 y1) (h2 : On e x2 y2) (hs : Adds e x1 y1 x2 y2 xs ys) (hp : Adds e x2 y2 (-x1) y1 xp yp) :
    (1 + ys) * (1 + yp) * ((1 - e * x1 * x2 * y1 * y2) * (1 + e * x1 * x2 * y1 * y2) * ((1 - e * (y1 * y1)) * (1 - e * (y2 * y2)))) = (1 - e) * (1 - e * ((y1 * y2) * (y1 * y2))) * ((y1 + y2) * (y1 + y2)) ∧
    (1 - ys) * (1 - yp) * ((1 - e * x1 * x2 * y1 * y2) * (1 + e * x1 * x2 * y1 * y2) * ((1 - e * (y1 * y1)) * (1 - e * (y2 * y2)))) = (1 - e) * (1 - e * ((y1 * y2) * (y1 * y2))) * ((y1 - y2) * (y1 - y2)) := by
  have p3 := neg_p hp.hy
  rw [regroup, regroup, fr_p hs.hy, fr_m hs.hy, fr_p p3, fr_m p3]
  exact ⟨both_p h1.sq h2.sq, both_m h1.sq h2.sq⟩
end Go.Proofs.YtkibojjbghopkaaDoor
