/-
  ChaCha20 as lists of numbers: quarters, rounds, blocks, and bytes that are turned by blocks.
-/
import Derived.Test.YthieljiplhhdeaaBaseB
namespace Go.Proofs.Ythieljiplhhdeaa.sh
open Go Go.RowKit
set_option linter.unusedVariables false
set_option linter.unusedSimpArgs false

/-- A word turned to the left. -/
def rotl (x n : Nat) : Nat := x * 2 ^ n % 4294967296 ||| x / 2 ^ (32 - n)
theorem rotl_lt (x n : Nat) (h : x < 4294967296) : rotl x n < 4294967296 := by
  unfold rotl
  exact Nat.or_lt_two_pow (n := 32) (Nat.mod_lt _ (by decide)) (Nat.lt_of_le_of_lt (Nat.div_le_self _ _) h)
def rotA (x n : Nat) : Nat := x * 2 ^ n % 4294967296 + x / 2 ^ (32 - n)
theorem rotl_add (x n : Nat) (h : x < 4294967296) (hn : n ≤ 32) : rotl x n = rotA x n := by
  have e : (4294967296 : Nat) = 2 ^ n * 2 ^ (32 - n) := by rw [← Nat.pow_add, show n + (32 - n) = 32 from by omega]
  have hl : x / 2 ^ (32 - n) < 2 ^ n := by
    rw [Nat.div_lt_iff_lt_mul (Nat.pow_pos (by decide)), ← e]
    exact h
  unfold rotl rotA
  rw [e, Nat.mul_comm x, Nat.mul_mod_mul_left, Nat.two_pow_add_eq_or_of_lt hl]
/-- The reference's step: a word turned by one bit. -/
def turn1 (x : Nat) : Nat := (x * 2 % 4294967296 + x / 2147483648) % 4294967296
def turnT (x : Nat) : Nat → Nat
  | 0 => x
  | n + 1 => turn1 (turnT x n)
theorem turn1_lt (x : Nat) : turn1 x < 4294967296 := Nat.mod_lt _ (by decide)
theorem turnT_lt (x n : Nat) (h : x < 4294967296) : turnT x n < 4294967296 := by
  cases n with
  | zero => exact h
  | succ n => exact turn1_lt _
theorem rot_arith (P Q x : Nat) (hP : 0 < P) (hQ : 0 < Q) (hx : x < 2 * (P * Q)) :
    ((P * (x % (2 * Q)) + x / (2 * Q)) * 2 % (2 * (P * Q)) + (P * (x % (2 * Q)) + x / (2 * Q)) / (P * Q)) % (2 * (P * Q)) = 2 * P * (x % Q) + x / Q := by
  obtain ⟨q, hq⟩ : ∃ q, q = x / (2 * Q) := ⟨_, rfl⟩
  obtain ⟨r, hr⟩ : ∃ r, r = x % (2 * Q) := ⟨_, rfl⟩
  have h1 : 2 * Q * q + r = x := by rw [hq, hr]; exact Nat.div_add_mod x (2 * Q)
  have h2 : r < 2 * Q := by rw [hr]; exact Nat.mod_lt _ (by omega)
  have h3 : q < P := by
    rw [hq, Nat.div_lt_iff_lt_mul (by omega)]
    calc x < 2 * (P * Q) := hx
      _ = P * (2 * Q) := by rw [Nat.mul_left_comm]
  rw [← hq, ← hr]
  obtain ⟨b, t, hb, ht, e⟩ : ∃ b t, b < 2 ∧ t < Q ∧ r = Q * b + t := by
    by_cases h : r < Q
    · exact ⟨0, r, by omega, h, by omega⟩
    · exact ⟨1, r - Q, by omega, by omega, by omega⟩
  have e2 : x = Q * (2 * q + b) + t := by rw [← h1, e, Nat.mul_add, ← Nat.mul_assoc, Nat.mul_comm Q 2]; omega
  have e3 : x % Q = t := by rw [e2, Nat.mul_add_mod]; exact Nat.mod_eq_of_lt ht
  have e4 : x / Q = 2 * q + b := by rw [e2, Nat.mul_add_div hQ, Nat.div_eq_of_lt ht, Nat.add_zero]
  have h5 : P * t + q < P * Q := by
    have := Nat.mul_le_mul_left P (show t + 1 ≤ Q from ht)
    rw [Nat.mul_add, Nat.mul_one] at this
    omega
  obtain ⟨s, hs⟩ : ∃ s, s = P * t + q := ⟨_, rfl⟩
  obtain ⟨N, hN⟩ : ∃ N, N = P * Q := ⟨_, rfl⟩
  have e5 : P * r + q = N * b + s := by rw [e, Nat.mul_add, ← Nat.mul_assoc, ← hN, hs]; omega
  rw [e3, e4, e5, ← hN]
  rw [← hs, ← hN] at h5
  have hN0 : 0 < N := by omega
  have e6 : (N * b + s) / N = b := by rw [Nat.mul_add_div hN0, Nat.div_eq_of_lt h5, Nat.add_zero]
  have e7 : (N * b + s) * 2 % (2 * N) = s * 2 := by
    rw [show (N * b + s) * 2 = 2 * N * b + s * 2 by rw [Nat.add_mul, Nat.mul_right_comm, Nat.mul_comm N 2], Nat.mul_add_mod]
    exact Nat.mod_eq_of_lt (by omega)
  rw [e6, e7, Nat.mod_eq_of_lt (by omega), hs, Nat.add_mul, Nat.mul_assoc 2 P t]
  omega
theorem rotA_form (x n P Q : Nat) (hP : P = 2 ^ n) (hQ : 2 * Q = 2 ^ (32 - n)) (hM : 4294967296 = 2 * (P * Q)) : rotA x n = P * (x % (2 * Q)) + x / (2 * Q) := by
  unfold rotA
  rw [← hP, ← hQ, hM, Nat.mul_comm x, show 2 * (P * Q) = P * (2 * Q) by rw [Nat.mul_left_comm], Nat.mul_mod_mul_left]
theorem rotA_step (x n : Nat) (h : x < 4294967296) (hn : n < 32) : turn1 (rotA x n) = rotA x (n + 1) := by
  have e1 : (2147483648 : Nat) = 2 ^ n * 2 ^ (31 - n) := by rw [← Nat.pow_add, show n + (31 - n) = 31 from by omega]
  have eQ : 2 * 2 ^ (31 - n) = 2 ^ (32 - n) := by rw [Nat.mul_comm, ← Nat.pow_succ, show (31 - n).succ = 32 - n from by omega]
  have e2 : (4294967296 : Nat) = 2 * (2 ^ n * 2 ^ (31 - n)) := by rw [← e1]
  have hP : 0 < 2 ^ n := Nat.pow_pos (by decide)
  have hQ : 0 < 2 ^ (31 - n) := Nat.pow_pos (by decide)
  rw [rotA_form x n _ _ rfl eQ e2]
  obtain ⟨P, hP'⟩ : ∃ P, P = 2 ^ n := ⟨_, rfl⟩
  obtain ⟨Q, hQ'⟩ : ∃ Q, Q = 2 ^ (31 - n) := ⟨_, rfl⟩
  unfold turn1 rotA
  rw [show 32 - (n + 1) = 31 - n by omega, Nat.pow_succ]
  rw [← hP', ← hQ'] at e1 e2 ⊢
  rw [← hP'] at hP
  rw [← hQ'] at hQ
  have := rot_arith P Q x hP hQ (by rw [← e2]; exact h)
  rw [e1, e2, this, Nat.mul_comm x, show 2 * (P * Q) = P * 2 * Q by rw [← Nat.mul_assoc, Nat.mul_comm 2 P], Nat.mul_mod_mul_left, Nat.mul_comm P 2]
theorem turnT_rotA (x : Nat) (h : x < 4294967296) : ∀ n, n ≤ 16 → turnT x n = rotA x n
  | 0, _ => by unfold turnT rotA; simp only [Nat.reducePow, Nat.reduceSub]; omega
  | n + 1, hn => by
    show turn1 (turnT x n) = _
    rw [turnT_rotA x h n (by omega), rotA_step x n h (by omega)]
theorem turnT_rotl (x n : Nat) (h : x < 4294967296) (hn : n ≤ 16) : turnT x n = rotl x n := by rw [turnT_rotA x h n hn, rotl_add x n h (by omega)]

/-- The four words of a quarter. -/
def qa (a b c d : Nat) : Nat := (a + b) % 4294967296
def qd (a b c d : Nat) : Nat := rotl (d ^^^ qa a b c d) 16
def qc (a b c d : Nat) : Nat := (c + qd a b c d) % 4294967296
def qb (a b c d : Nat) : Nat := rotl (b ^^^ qc a b c d) 12
def qa2 (a b c d : Nat) : Nat := (qa a b c d + qb a b c d) % 4294967296
def qd2 (a b c d : Nat) : Nat := rotl (qd a b c d ^^^ qa2 a b c d) 8
def qc2 (a b c d : Nat) : Nat := (qc a b c d + qd2 a b c d) % 4294967296
def qb2 (a b c d : Nat) : Nat := rotl (qb a b c d ^^^ qc2 a b c d) 7
theorem xor_lt32 {m n : Nat} (h : m < 4294967296) (h' : n < 4294967296) : m ^^^ n < 4294967296 := Nat.xor_lt_two_pow (n := 32) h h'
structure Four (a b c d : Nat) : Prop where
  a : a < 4294967296
  b : b < 4294967296
  c : c < 4294967296
  d : d < 4294967296
theorem four_q {a b c d : Nat} (h : Four a b c d) : Four (qa a b c d) (qb a b c d) (qc a b c d) (qd a b c d) := by
  have ha : qa a b c d < 4294967296 := Nat.mod_lt _ (by decide)
  have hd : qd a b c d < 4294967296 := rotl_lt _ _ (xor_lt32 h.d ha)
  have hc : qc a b c d < 4294967296 := Nat.mod_lt _ (by decide)
  exact ⟨ha, rotl_lt _ _ (xor_lt32 h.b hc), hc, hd⟩
theorem four_q2 {a b c d : Nat} (h : Four a b c d) : Four (qa2 a b c d) (qb2 a b c d) (qc2 a b c d) (qd2 a b c d) := by
  have h1 := four_q h
  have ha : qa2 a b c d < 4294967296 := Nat.mod_lt _ (by decide)
  have hd : qd2 a b c d < 4294967296 := rotl_lt _ _ (xor_lt32 h1.d ha)
  have hc : qc2 a b c d < 4294967296 := Nat.mod_lt _ (by decide)
  exact ⟨ha, rotl_lt _ _ (xor_lt32 h1.b hc), hc, hd⟩
/-- Sixteen words. -/
structure Ws (w : List Nat) : Prop where
  len : w.length = 16
  lt : ∀ (i x : Nat), w[i]? = some x → x < 4294967296
theorem Ws.get {w : List Nat} (h : Ws w) (i : Nat) (hi : i < 16) : w[i]? = some (w.getD i 0) := by
  rw [List.getD_eq_getElem?_getD, List.getElem?_eq_getElem (by have := h.len; omega)]
  rfl
theorem Ws.small {w : List Nat} (h : Ws w) (i : Nat) : w.getD i 0 < 4294967296 := by
  rw [List.getD_eq_getElem?_getD]
  cases e : w[i]? with
  | none => decide
  | some x => exact h.lt i x e
theorem Ws.set {w : List Nat} (h : Ws w) (i x : Nat) (hx : x < 4294967296) : Ws (w.set i x) := by
  refine ⟨by rw [List.length_set]; exact h.len, fun j y hy => ?_⟩
  rw [List.getElem?_set] at hy
  split at hy
  · split at hy
    · cases hy; exact hx
    · cases hy
  · exact h.lt j y hy
/-- A quarter of four words of some. -/
def qL (w : List Nat) (i j k l : Nat) : List Nat :=
  (((w.set i (qa2 (w.getD i 0) (w.getD j 0) (w.getD k 0) (w.getD l 0))).set j (qb2 (w.getD i 0) (w.getD j 0) (w.getD k 0) (w.getD l 0))).set k (qc2 (w.getD i 0) (w.getD j 0) (w.getD k 0) (w.getD l 0))).set l (qd2 (w.getD i 0) (w.getD j 0) (w.getD k 0) (w.getD l 0))
theorem Ws.four {w : List Nat} (h : Ws w) (i j k l : Nat) : Four (w.getD i 0) (w.getD j 0) (w.getD k 0) (w.getD l 0) := ⟨h.small i, h.small j, h.small k, h.small l⟩
theorem Ws.q {w : List Nat} (h : Ws w) (i j k l : Nat) : Ws (qL w i j k l) := by
  have f := four_q2 (h.four i j k l)
  unfold qL
  exact (((h.set i _ f.a).set j _ f.b).set k _ f.c).set l _ f.d
/-- The first four quarters, one by one, and the other ones. -/
def colL (w : List Nat) : Nat → List Nat
  | 0 => w
  | i + 1 => qL (colL w i) i (i + 4) (i + 8) (i + 12)
def diaL (w : List Nat) : Nat → List Nat
  | 0 => w
  | i + 1 => qL (diaL w i) i ((i + 1) % 4 + 4) ((i + 2) % 4 + 8) ((i + 3) % 4 + 12)
def dblL (w : List Nat) : List Nat := diaL (colL w 4) 4
def mixT (w : List Nat) : Nat → List Nat
  | 0 => w
  | n + 1 => dblL (mixT w n)
theorem Ws.col {w : List Nat} (h : Ws w) : ∀ i, Ws (colL w i)
  | 0 => h
  | i + 1 => (h.col i).q _ _ _ _
theorem Ws.dia {w : List Nat} (h : Ws w) : ∀ i, Ws (diaL w i)
  | 0 => h
  | i + 1 => (h.dia i).q _ _ _ _
theorem Ws.dbl {w : List Nat} (h : Ws w) : Ws (dblL w) := (h.col 4).dia 4
theorem Ws.mix {w : List Nat} (h : Ws w) : ∀ n, Ws (mixT w n)
  | 0 => h
  | n + 1 => (h.mix n).dbl
/-- A word of four bytes, the lowest first: of the first m of them. -/
def part (b : List Nat) (j : Nat) : Nat → Nat
  | 0 => 0
  | m + 1 => part b j m + b.getD (4 * j + m) 0 * 256 ^ m
theorem byte_getD {b : List Nat} (h : Bytes b) (i : Nat) : b.getD i 0 < 256 := by
  rw [List.getD_eq_getElem?_getD]
  cases e : b[i]? with
  | none => decide
  | some x => exact h i x e
theorem part_lt (b : List Nat) (h : Bytes b) (j : Nat) : ∀ m, part b j m < 256 ^ m
  | 0 => by show 0 < 1; decide
  | m + 1 => by
    have h1 := part_lt b h j m
    have h2 : b.getD (4 * j + m) 0 * 256 ^ m ≤ 255 * 256 ^ m := Nat.mul_le_mul_right _ (by have := byte_getD h (4 * j + m); omega)
    show part b j m + b.getD (4 * j + m) 0 * 256 ^ m < _
    rw [Nat.pow_succ]
    omega
def wsL (b : List Nat) (n : Nat) : List Nat := (List.range n).map fun j => part b j 4
theorem wsL_len (b : List Nat) (n : Nat) : (wsL b n).length = n := by simp [wsL]
theorem wsL_lt (b : List Nat) (h : Bytes b) (n : Nat) : ∀ (i x : Nat), (wsL b n)[i]? = some x → x < 4294967296 := fun i x hx => by
  unfold wsL at hx
  rw [List.getElem?_map] at hx
  obtain ⟨y, _, rfl⟩ := Option.map_eq_some_iff.1 hx
  exact part_lt b h y 4
def nameL : List Nat := [101, 120, 112, 97, 110, 100, 32, 51, 50, 45, 98, 121, 116, 101, 32, 107]
theorem nameL_bytes : Bytes nameL := fun i x hx => by
  have h : ∀ y ∈ nameL, y < 256 := by decide
  exact h x (List.mem_of_getElem? hx)
/-- The words of a block at first. -/
def frstL (key nonce : List Nat) (count : Nat) : List Nat := wsL (nameL ++ key) 12 ++ [count] ++ wsL nonce 3
theorem Ws.frst {key nonce : List Nat} {count : Nat} (hk : Bytes key) (hn : Bytes nonce) (hc : count < 4294967296) : Ws (frstL key nonce count) := by
  refine ⟨by simp [frstL, wsL_len], fun i x hx => ?_⟩
  unfold frstL at hx
  rw [List.getElem?_append] at hx
  split at hx
  · rw [List.getElem?_append] at hx
    split at hx
    · exact wsL_lt _ (nameL_bytes.append hk) 12 i x hx
    · have : x ∈ [count] := List.mem_of_getElem? hx
      simp at this
      omega
  · exact wsL_lt _ hn 3 _ x hx
theorem Ws.plus {a b : List Nat} (ha : Ws a) (hb : Ws b) : Ws (plusL a b) := by
  refine ⟨by rw [plusL_len a b (by rw [ha.len, hb.len]), ha.len], fun i x hx => ?_⟩
  unfold plusL at hx
  rw [List.getElem?_zipWith] at hx
  split at hx
  · cases hx
    exact Nat.mod_lt _ (by decide)
  · cases hx
/-- The words one behind the other, the lowest byte of each first. -/
def leL (s : List Nat) : List Nat := (List.range 64).map fun i => s.getD (i / 4) 0 / 2 ^ (i % 4 * 8) % 256
theorem leL_len (s : List Nat) : (leL s).length = 64 := by simp [leL]
theorem leL_bytes (s : List Nat) : Bytes (leL s) := fun i x hx => by
  unfold leL at hx
  rw [List.getElem?_map] at hx
  obtain ⟨y, _, rfl⟩ := Option.map_eq_some_iff.1 hx
  exact Nat.mod_lt _ (by decide)
theorem leL_get (s : List Nat) (i x : Nat) (hi : i < 64) (hx : s[i / 4]? = some x) : (leL s)[i]? = some (x / 2 ^ (i % 4 * 8) % 256) := by
  simp [leL, hi, hx]
/-- The block of a key, a nonce and a count. -/
def blockL (key nonce : List Nat) (count : Nat) : List Nat := leL (plusL (frstL key nonce count) (mixT (frstL key nonce count) 10))
theorem blockL_len (key nonce : List Nat) (count : Nat) : (blockL key nonce count).length = 64 := leL_len _
theorem blockL_bytes (key nonce : List Nat) (count : Nat) : Bytes (blockL key nonce count) := leL_bytes _
/-- The byte of the blocks at a place. -/
def padB (key nonce : List Nat) (count i : Nat) : Nat := (blockL key nonce (count + i / 64)).getD (i % 64) 0
theorem padB_lt (key nonce : List Nat) (count i : Nat) : padB key nonce count i < 256 := byte_getD (blockL_bytes _ _ _) _
/-- Bytes turned by blocks. -/
def encL (key nonce : List Nat) (count : Nat) (b : List Nat) : List Nat := (List.range b.length).map fun i => b.getD i 0 ^^^ padB key nonce count i
theorem encL_len (key nonce : List Nat) (count : Nat) (b : List Nat) : (encL key nonce count b).length = b.length := by simp [encL]
theorem encL_get (key nonce : List Nat) (count : Nat) (b : List Nat) (i x : Nat) (h : b[i]? = some x) : (encL key nonce count b)[i]? = some (x ^^^ padB key nonce count i) := by
  have hi : i < b.length := (List.getElem?_eq_some_iff.1 h).1
  simp [encL, hi]
  have := (List.getElem?_eq_some_iff.1 h).2
  rw [this]
theorem encL_bytes (key nonce : List Nat) (count : Nat) {b : List Nat} (h : Bytes b) : Bytes (encL key nonce count b) := fun i x hx => by
  unfold encL at hx
  rw [List.getElem?_map] at hx
  obtain ⟨y, _, rfl⟩ := Option.map_eq_some_iff.1 hx
  exact xor_lt8 (byte_getD h _) (padB_lt _ _ _ _)
/-- Turned twice bytes are as they were. -/
theorem encL_back (key nonce : List Nat) (count : Nat) (b : List Nat) : encL key nonce count (encL key nonce count b) = b := by
  apply List.ext_getElem?
  intro i
  by_cases hi : i < b.length
  · have e : b[i]? = some b[i] := List.getElem?_eq_getElem hi
    rw [encL_get _ _ _ _ i _ (encL_get _ _ _ b i _ e), e, Nat.xor_assoc, Nat.xor_self, Nat.xor_zero]
  · rw [List.getElem?_eq_none (by rw [encL_len, encL_len]; omega), List.getElem?_eq_none (by omega)]
theorem encL_take (key nonce : List Nat) (count : Nat) (b : List Nat) (k : Nat) : encL key nonce count (b.take k) = (encL key nonce count b).take k := by
  apply List.ext_getElem?
  intro i
  rw [List.getElem?_take]
  by_cases hi : i < b.length
  · have e : b[i]? = some b[i] := List.getElem?_eq_getElem hi
    split
    next h =>
      rw [encL_get _ _ _ b i _ e]
      exact encL_get _ _ _ _ i _ (by rw [List.getElem?_take_of_lt h, e])
    next h => exact List.getElem?_eq_none (by rw [encL_len, List.length_take]; omega)
  · rw [List.getElem?_eq_none (by rw [encL_len, List.length_take]; omega)]
    split
    · rw [List.getElem?_eq_none (by rw [encL_len]; omega)]
    · rfl
theorem encL_drop (key nonce : List Nat) (count : Nat) (b : List Nat) (m : Nat) : encL key nonce (count + m) (b.drop (64 * m)) = (encL key nonce count b).drop (64 * m) := by
  apply List.ext_getElem?
  intro i
  rw [List.getElem?_drop]
  by_cases hi : 64 * m + i < b.length
  · have e : b[64 * m + i]? = some b[64 * m + i] := List.getElem?_eq_getElem hi
    rw [encL_get _ _ _ b _ _ e, encL_get _ _ _ _ i b[64 * m + i] (by rw [List.getElem?_drop, e])]
    unfold padB
    rw [show (64 * m + i) % 64 = i % 64 by omega, show count + m + i / 64 = count + (64 * m + i) / 64 by omega]
  · rw [List.getElem?_eq_none (by rw [encL_len, List.length_drop]; omega), List.getElem?_eq_none (by rw [encL_len]; omega)]
end Go.Proofs.Ythieljiplhhdeaa.sh
