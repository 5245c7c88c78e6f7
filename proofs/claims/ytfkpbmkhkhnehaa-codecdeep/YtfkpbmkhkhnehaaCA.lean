/-
  Texts of texts in one form, as lists of bytes: joined, cut; numbers, the highest byte first.
-/
import Derived.Test.YtfkpbmkhkhnehaaSA
namespace Go.Proofs.Ytfkpbmkhkhnehaa.sh
open Go Go.RowKit
set_option linter.unusedVariables false
set_option linter.unusedSimpArgs false

/-- A text, with how many bytes it has ahead of it. -/
def itemL (l : List Nat) : List Nat := l.length / 256 :: l.length % 256 :: l
def itemsL (ll : List (List Nat)) : List Nat := (ll.map itemL).flatten
def joinL (kind : Nat) (ll : List (List Nat)) : List Nat := 1 :: kind :: ll.length :: itemsL ll
def Fits (ll : List (List Nat)) : Prop := ll.length ≤ 255 ∧ (∀ l ∈ ll, l.length ≤ 4000) ∧ (itemsL ll).length ≤ 29997
theorem itemL_len (l : List Nat) : (itemL l).length = l.length + 2 := rfl
theorem itemsL_nil : itemsL [] = [] := rfl
theorem itemsL_cons (l : List Nat) (ll : List (List Nat)) : itemsL (l :: ll) = itemL l ++ itemsL ll := by simp [itemsL]
theorem itemsL_append (ll mm : List (List Nat)) : itemsL (ll ++ mm) = itemsL ll ++ itemsL mm := by simp [itemsL]
theorem itemsL_snoc (ll : List (List Nat)) (l : List Nat) : itemsL (ll ++ [l]) = itemsL ll ++ itemL l := by simp [itemsL]
theorem itemL_bytes {l : List Nat} (h : Bytes l) (hl : l.length < 65536) : Bytes (itemL l) := bytes_of_all (fun x hx => by
  rcases List.mem_cons.1 hx with rfl | hx
  · omega
  rcases List.mem_cons.1 hx with rfl | hx
  · omega
  · exact h.all x hx)
theorem itemsL_bytes : ∀ {ll : List (List Nat)}, (∀ l ∈ ll, Bytes l ∧ l.length < 65536) → Bytes (itemsL ll)
  | [], _ => nil_bytes
  | l :: ll, h => by
    rw [itemsL_cons]
    exact (itemL_bytes (h l List.mem_cons_self).1 (h l List.mem_cons_self).2).append (itemsL_bytes fun x hx => h x (List.mem_cons_of_mem _ hx))
theorem joinL_len (kind : Nat) (ll : List (List Nat)) : (joinL kind ll).length = (itemsL ll).length + 3 := rfl
theorem itemsL_len : ∀ ll : List (List Nat), (itemsL ll).length = (ll.map fun l => l.length + 2).sum
  | [] => rfl
  | l :: ll => by rw [itemsL_cons, List.length_append, itemL_len, itemsL_len ll]; rfl
theorem joinL_bytes {kind : Nat} {ll : List (List Nat)} (hk : kind < 256) (h : ∀ l ∈ ll, Bytes l) (hf : Fits ll) : Bytes (joinL kind ll) := bytes_of_all (fun x hx => by
  rcases List.mem_cons.1 hx with rfl | hx
  · decide
  rcases List.mem_cons.1 hx with rfl | hx
  · exact hk
  rcases List.mem_cons.1 hx with rfl | hx
  · have := hf.1; omega
  · exact (itemsL_bytes fun l hl => ⟨h l hl, by have := hf.2.1 l hl; omega⟩).all x hx)

/-- So many texts, and nothing behind them. -/
def cutL : Nat → List Nat → Option (List (List Nat))
  | 0, s => if s = [] then some [] else none
  | n + 1, a :: b :: r => if r.length < 256 * a + b then none else (cutL n (r.drop (256 * a + b))).map (r.take (256 * a + b) :: ·)
  | _ + 1, _ => none
theorem cutL_items : ∀ ll : List (List Nat), cutL ll.length (itemsL ll) = some ll
  | [] => rfl
  | l :: ll => by
    have hm : 256 * (l.length / 256) + l.length % 256 = l.length := Nat.div_add_mod _ _
    rw [itemsL_cons, List.length_cons]
    show cutL (ll.length + 1) (l.length / 256 :: l.length % 256 :: (l ++ itemsL ll)) = _
    rw [cutL, hm, if_neg (by rw [List.length_append]; omega), List.drop_left, List.take_left, cutL_items ll]
    rfl
theorem cutL_some : ∀ {n : Nat} {s : List Nat} {ll : List (List Nat)}, cutL n s = some ll → Bytes s → ll.length = n ∧ itemsL ll = s ∧ ∀ l ∈ ll, Bytes l
  | 0, s, ll, h, _ => by
    unfold cutL at h
    by_cases hs : s = []
    · rw [if_pos hs] at h
      cases h
      exact ⟨rfl, by rw [hs]; rfl, fun l hl => by cases hl⟩
    · rw [if_neg hs] at h; cases h
  | n + 1, [], ll, h, _ => by simp [cutL] at h
  | n + 1, [a], ll, h, _ => by simp [cutL] at h
  | n + 1, a :: b :: r, ll, h, hy => by
    rw [cutL] at h
    by_cases hm : r.length < 256 * a + b
    · rw [if_pos hm] at h; cases h
    · rw [if_neg hm] at h
      obtain ⟨mm, h1, h2⟩ := Option.map_eq_some_iff.1 h
      subst h2
      have hb : b < 256 := hy 1 b rfl
      have hr : Bytes r := fun i x hx => hy (i + 2) x hx
      obtain ⟨e1, e2, e3⟩ := cutL_some h1 (hr.drop _)
      have hl : (r.take (256 * a + b)).length = 256 * a + b := by rw [List.length_take]; omega
      refine ⟨by rw [List.length_cons, e1], ?_, fun l hl2 => ?_⟩
      · rw [itemsL_cons, e2, itemL, hl, show (256 * a + b) / 256 = a by omega, show (256 * a + b) % 256 = b by omega]
        simp
      · rcases List.mem_cons.1 hl2 with rfl | hl2
        · exact hr.take _
        · exact e3 l hl2
theorem items_one {ll mm : List (List Nat)} (hn : ll.length = mm.length) (h : itemsL ll = itemsL mm) : ll = mm := by
  have h1 := cutL_items ll
  have h2 := cutL_items mm
  rw [hn, h, h2] at h1
  exact (Option.some.inj h1).symm
theorem join_one {k j : Nat} {ll mm : List (List Nat)} (h : joinL k ll = joinL j mm) : k = j ∧ ll = mm := by
  unfold joinL at h
  simp only [List.cons.injEq, true_and] at h
  exact ⟨h.1, items_one h.2.1 h.2.2⟩

/-- What a text of texts says, if it is one. -/
def Says (s : List Nat) (k : Nat) (ll : List (List Nat)) : Prop := s = joinL k ll ∧ Fits ll
theorem Says.one {s : List Nat} {k j : Nat} {ll mm : List (List Nat)} (h : Says s k ll) (h2 : Says s j mm) : k = j ∧ ll = mm := join_one (h.1.symm.trans h2.1)
theorem says_len {s : List Nat} {k : Nat} {ll : List (List Nat)} (h : Says s k ll) : 3 ≤ s.length ∧ s.length ≤ 30000 := by
  have := h.2.2.2
  rw [h.1, joinL_len]
  omega

/-- A number's bytes, the highest first. -/
def numT (n : Nat) : Nat → List Nat
  | 0 => []
  | k + 1 => if n = 0 then [] else numT (n / 256) k ++ [n % 256]
def numL (n : Nat) : List Nat := numT n 8
def readT (s : List Nat) : Nat := s.foldl (fun a x => a * 256 + x) 0
theorem readT_snoc (s : List Nat) (x : Nat) : readT (s ++ [x]) = readT s * 256 + x := by simp [readT]
theorem numT_zero (k : Nat) : numT 0 k = [] := by cases k <;> simp [numT]
theorem readT_numT : ∀ (k n : Nat), n < 256 ^ k → readT (numT n k) = n
  | 0, n, h => by simp at h; subst h; rfl
  | k + 1, n, h => by
    unfold numT
    by_cases h0 : n = 0
    · rw [if_pos h0, h0]; rfl
    · rw [if_neg h0, readT_snoc, readT_numT k (n / 256) (by rw [Nat.pow_succ] at h; omega)]
      omega
theorem numT_len : ∀ (k n : Nat), (numT n k).length ≤ k
  | 0, _ => Nat.le_refl _
  | k + 1, n => by
    unfold numT
    split
    · exact Nat.zero_le _
    · rw [List.length_append]; have := numT_len k (n / 256); simp; omega
theorem numT_bytes : ∀ (k n : Nat), Bytes (numT n k)
  | 0, _ => nil_bytes
  | k + 1, n => by
    unfold numT
    split
    · exact nil_bytes
    · exact (numT_bytes k _).append (bytes_of_all (fun x hx => by simp at hx; omega))
theorem numT_more : ∀ (k m n : Nat), n < 256 ^ k → numT n (k + m) = numT n k
  | 0, m, n, h => by simp at h; subst h; rw [numT_zero, numT_zero]
  | k + 1, m, n, h => by
    rw [show k + 1 + m = (k + m) + 1 by omega]
    unfold numT
    by_cases h0 : n = 0
    · rw [if_pos h0, if_pos h0]
    · rw [if_neg h0, if_neg h0, numT_more k m (n / 256) (by rw [Nat.pow_succ] at h; omega)]
/-- Bytes without bytes 0 ahead are those of their number. -/
theorem numT_readN : ∀ (n : Nat) (s : List Nat), s.length = n → Bytes s → s.head? ≠ some 0 → numT (readT s) n = s
  | 0, s, hn, _, _ => by
    have : s = [] := List.eq_nil_of_length_eq_zero hn
    subst this
    rfl
  | n + 1, s', hn, hy, h0 => by
    have hne : s' ≠ [] := by intro e; rw [e] at hn; cases hn
    obtain ⟨s, x, rfl⟩ : ∃ s x, s' = s ++ [x] := ⟨_, _, (List.dropLast_concat_getLast hne).symm⟩
    have hsn : s.length = n := by rw [List.length_append] at hn; simpa using hn
    have hx : x < 256 := hy s.length x (by simp)
    have hs : Bytes s := fun i y hi => hy i y (by rw [List.getElem?_append_left (List.getElem?_eq_some_iff.1 hi).1]; exact hi)
    rw [readT_snoc]
    unfold numT
    cases s with
    | nil =>
      have hx0 : x ≠ 0 := fun e => h0 (by rw [e]; rfl)
      have e1 : readT ([] : List Nat) = 0 := rfl
      rw [e1, if_neg (by omega), show (0 * 256 + x) / 256 = 0 by omega, show (0 * 256 + x) % 256 = x by omega, numT_zero]
    | cons y r =>
      have ih' := numT_readN n (y :: r) hsn hs (fun e => h0 (by simpa using e))
      have hz : readT (y :: r) ≠ 0 := fun e => by
        rw [e, numT_zero] at ih'
        cases ih'
      rw [if_neg (by omega), show (readT (y :: r) * 256 + x) / 256 = readT (y :: r) by omega, show (readT (y :: r) * 256 + x) % 256 = x by omega, ih']
theorem readT_lt : ∀ (n : Nat) (s : List Nat), s.length = n → Bytes s → readT s < 256 ^ n
  | 0, s, hn, _ => by
    have : s = [] := List.eq_nil_of_length_eq_zero hn
    subst this
    decide
  | n + 1, s', hn, hy => by
    have hne : s' ≠ [] := by intro e; rw [e] at hn; cases hn
    obtain ⟨s, x, rfl⟩ : ∃ s x, s' = s ++ [x] := ⟨_, _, (List.dropLast_concat_getLast hne).symm⟩
    have hsn : s.length = n := by rw [List.length_append] at hn; simpa using hn
    have hx : x < 256 := hy s.length x (by simp)
    have hs : Bytes s := fun i y hi => hy i y (by rw [List.getElem?_append_left (List.getElem?_eq_some_iff.1 hi).1]; exact hi)
    have := readT_lt n s hsn hs
    rw [readT_snoc, Nat.pow_succ]
    omega
theorem numL_read (n : Nat) (h : n < 18446744073709551616) : readT (numL n) = n := readT_numT 8 n h
theorem numL_len (n : Nat) : (numL n).length ≤ 8 := numT_len 8 n
theorem numL_bytes (n : Nat) : Bytes (numL n) := numT_bytes 8 n
theorem numT_head : ∀ (k n : Nat), n < 256 ^ k → (numT n k).head? ≠ some 0
  | 0, _, _ => by simp [numT]
  | k + 1, n, h => by
    have hd : n / 256 < 256 ^ k := by rw [Nat.pow_succ] at h; omega
    unfold numT
    by_cases h0 : n = 0
    · rw [if_pos h0]; simp
    · rw [if_neg h0]
      have ih := numT_head k (n / 256) hd
      have hr := readT_numT k (n / 256) hd
      cases hq : numT (n / 256) k with
      | nil =>
        rw [hq] at hr
        have hr0 : 0 = n / 256 := hr
        rw [List.nil_append]
        intro e
        simp at e
        omega
      | cons y r => rw [hq] at ih; simpa using ih
theorem numL_head (n : Nat) (h : n < 18446744073709551616) : (numL n).head? ≠ some 0 := numT_head 8 n h
/-- Bytes are those of a number just if there are at most eight, and no byte 0 ahead. -/
theorem numL_of (s : List Nat) (hy : Bytes s) (hl : s.length ≤ 8) (h0 : s.head? ≠ some 0) : numL (readT s) = s := by
  have h1 := numT_readN s.length s rfl hy h0
  have h2 := numT_more s.length (8 - s.length) (readT s) (readT_lt s.length s rfl hy)
  rw [show s.length + (8 - s.length) = 8 by omega] at h2
  unfold numL
  rw [h2, h1]
theorem numT_len_of : ∀ (k n : Nat), n < 256 ^ k → (0 < n → 256 ^ (numT n k).length ≤ 256 * n) ∧ n < 256 ^ (numT n k).length
  | 0, n, h => by simp at h; subst h; simp [numT]
  | k + 1, n, h => by
    have hd : n / 256 < 256 ^ k := by rw [Nat.pow_succ] at h; omega
    obtain ⟨h1, h2⟩ := numT_len_of k (n / 256) hd
    unfold numT
    by_cases h0 : n = 0
    · rw [if_pos h0, h0]; simp
    · rw [if_neg h0, List.length_append]
      simp only [List.length_singleton, Nat.pow_succ]
      by_cases hq : n / 256 = 0
      · rw [hq, numT_zero] at h1 h2 ⊢
        simp at h2 ⊢
        omega
      · have h1' := h1 (by omega)
        generalize 256 ^ (numT (n / 256) k).length = P at *
        omega
theorem lessL_irrefl : ∀ l : List Nat, lessL l l = false
  | [] => rfl
  | x :: l => by simp [lessL, lessL_irrefl l]
theorem lessL_snoc : ∀ (l m : List Nat) (x y : Nat), l.length = m.length → lessL (l ++ [x]) (m ++ [y]) = (lessL l m || (decide (l = m) && decide (x < y)))
  | [], [], x, y, _ => by simp [lessL]
  | [], _ :: _, _, _, h => by cases h
  | _ :: _, [], _, _, h => by cases h
  | a :: l, b :: m, x, y, h => by
    have ih := lessL_snoc l m x y (by simpa using h)
    simp only [List.cons_append, lessL, ih]
    by_cases hab : a = b
    · subst hab; simp
    · simp [hab]
theorem lessL_total : ∀ (s t : List Nat), s.length = t.length → lessL s t = false → lessL t s = false → s = t
  | [], [], _, _, _ => rfl
  | [], _ :: _, h, _, _ => by cases h
  | _ :: _, [], h, _, _ => by cases h
  | a :: s, b :: t, h, h1, h2 => by
    simp only [lessL, Bool.or_eq_false_iff, decide_eq_false_iff_not, Bool.and_eq_false_iff] at h1 h2
    have hab : a = b := by omega
    subst hab
    have e1 : lessL s t = false := by rcases h1.2 with h | h; exact absurd rfl h; exact h
    have e2 : lessL t s = false := by rcases h2.2 with h | h; exact absurd rfl h; exact h
    rw [lessL_total s t (by simpa using h) e1 e2]
/-- Of bytes as many, those of the lesser number are the lesser ones. -/
theorem lessL_read : ∀ (n : Nat) (s t : List Nat), s.length = n → t.length = n → Bytes s → Bytes t → lessL s t = decide (readT s < readT t)
  | 0, s, t, hs, ht, _, _ => by
    have e1 : s = [] := List.eq_nil_of_length_eq_zero hs
    have e2 : t = [] := List.eq_nil_of_length_eq_zero ht
    subst e1 e2
    rfl
  | n + 1, s', t', hs, ht, hy, hz => by
    have hne : s' ≠ [] := by intro e; rw [e] at hs; cases hs
    have hne2 : t' ≠ [] := by intro e; rw [e] at ht; cases ht
    obtain ⟨s, x, rfl⟩ : ∃ s x, s' = s ++ [x] := ⟨_, _, (List.dropLast_concat_getLast hne).symm⟩
    obtain ⟨t, y, rfl⟩ : ∃ s x, t' = s ++ [x] := ⟨_, _, (List.dropLast_concat_getLast hne2).symm⟩
    have hsn : s.length = n := by rw [List.length_append] at hs; simpa using hs
    have htn : t.length = n := by rw [List.length_append] at ht; simpa using ht
    have hx : x < 256 := hy s.length x (by simp)
    have hy8 : y < 256 := hz t.length y (by simp)
    have bs : Bytes s := fun i y hi => hy i y (by rw [List.getElem?_append_left (List.getElem?_eq_some_iff.1 hi).1]; exact hi)
    have bt : Bytes t := fun i y hi => hz i y (by rw [List.getElem?_append_left (List.getElem?_eq_some_iff.1 hi).1]; exact hi)
    have ih := lessL_read n s t hsn htn bs bt
    rw [lessL_snoc s t x y (by omega), ih, readT_snoc, readT_snoc]
    by_cases hst : s = t
    · subst hst
      simp
    · have hne3 : readT s ≠ readT t := fun e => by
        have h1 := lessL_read n t s htn hsn bt bs
        rw [e, decide_eq_false (Nat.lt_irrefl _)] at ih
        rw [e, decide_eq_false (Nat.lt_irrefl _)] at h1
        exact hst (lessL_total s t (by omega) ih h1)
      rw [decide_eq_false hst, Bool.false_and, Bool.or_false]
      exact decide_eq_decide.2 (by omega)
/-- Numbers rise as their bytes do. -/
theorem numL_less (n m : Nat) (hn : n < 18446744073709551616) (hm : m < 18446744073709551616) : (decide ((numL n).length < (numL m).length) || (decide ((numL n).length = (numL m).length) && lessL (numL n) (numL m))) = decide (n < m) := by
  have h1 := numT_len_of 8 n hn
  have h2 := numT_len_of 8 m hm
  have r1 := numL_read n hn
  have r2 := numL_read m hm
  change (0 < n → 256 ^ (numL n).length ≤ 256 * n) ∧ n < 256 ^ (numL n).length at h1
  change (0 < m → 256 ^ (numL m).length ≤ 256 * m) ∧ m < 256 ^ (numL m).length at h2
  by_cases he : (numL n).length = (numL m).length
  · rw [lessL_read _ _ _ rfl he.symm (numL_bytes n) (numL_bytes m), r1, r2, decide_eq_true he, decide_eq_false (by omega), Bool.false_or, Bool.true_and]
  · rw [decide_eq_false he, Bool.false_and, Bool.or_false]
    refine decide_eq_decide.2 ⟨fun hlt => ?_, fun hlt => ?_⟩
    · by_cases hm0 : 0 < m
      · have h3 := h2.1 hm0
        have h4 : 256 ^ ((numL n).length + 1) ≤ 256 ^ (numL m).length := Nat.pow_le_pow_right (by decide) (by omega)
        rw [Nat.pow_succ] at h4
        omega
      · have : m = 0 := by omega
        subst this
        simp [numL, numT_zero] at hlt
    · by_cases hc : (numL n).length < (numL m).length
      · exact hc
      · have hn0 : 0 < n ∨ n = 0 := by omega
        rcases hn0 with hn0 | hn0
        · have h3 := h1.1 hn0
          have h4 : 256 ^ ((numL m).length + 1) ≤ 256 ^ (numL n).length := Nat.pow_le_pow_right (by decide) (by omega)
          rw [Nat.pow_succ] at h4
          omega
        · subst hn0
          have e0 : (numL 0).length = 0 := by rw [show numL 0 = [] from numT_zero 8]; rfl
          have e1 : (numL m).length = 0 := by omega
          omega
end Go.Proofs.Ytfkpbmkhkhnehaa.sh
