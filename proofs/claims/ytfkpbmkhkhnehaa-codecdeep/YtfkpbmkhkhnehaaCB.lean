/-
  Texts of texts: cut one after another; a byte more or fewer is none; what is split is what is said.
-/
import Derived.Test.YtfkpbmkhkhnehaaCA
namespace Go.Proofs.Ytfkpbmkhkhnehaa.sh
open Go Go.RowKit
set_option linter.unusedVariables false
set_option linter.unusedSimpArgs false

theorem item_prefix {l m r q : List Nat} (h : itemL l ++ r = itemL m ++ q) : l = m ∧ r = q := by
  simp only [itemL, List.cons_append, List.cons.injEq] at h
  obtain ⟨h1, h2, h3⟩ := h
  have hl : l.length = m.length := by omega
  exact List.append_inj h3 hl
theorem items_prefix : ∀ {ll mm : List (List Nat)} {r q : List Nat}, ll.length = mm.length → itemsL ll ++ r = itemsL mm ++ q → ll = mm ∧ r = q
  | [], [], r, q, _, h => ⟨rfl, by simpa [itemsL] using h⟩
  | [], m :: mm, r, q, hn, _ => by simp at hn
  | l :: ll, [], r, q, hn, _ => by simp at hn
  | l :: ll, m :: mm, r, q, hn, h => by
    rw [itemsL_cons, itemsL_cons, List.append_assoc, List.append_assoc] at h
    obtain ⟨h1, h2⟩ := item_prefix h
    obtain ⟨h3, h4⟩ := items_prefix (by simpa using hn) h2
    exact ⟨by rw [h1, h3], h4⟩
/-- Texts that were cut, and what lies behind them: the next one. -/
theorem cut_next {done ll : List (List Nat)} {rest q : List Nat} (h : itemsL ll ++ q = itemsL done ++ rest) (hn : done.length < ll.length) : ∃ l more, ll = done ++ l :: more ∧ rest = itemL l ++ (itemsL more ++ q) := by
  have h1 : itemsL (ll.take done.length) ++ (itemsL (ll.drop done.length) ++ q) = itemsL done ++ rest := by
    rw [← List.append_assoc, ← itemsL_append, List.take_append_drop]
    exact h
  obtain ⟨h2, h3⟩ := items_prefix (by rw [List.length_take]; omega) h1
  cases hd : ll.drop done.length with
  | nil =>
    have := congrArg List.length hd
    simp at this
    omega
  | cons l more =>
    refine ⟨l, more, ?_, ?_⟩
    · rw [← hd]
      conv => lhs; rw [← List.take_append_drop done.length ll, h2]
    · rw [← h3, hd, itemsL_cons, List.append_assoc]
theorem cut_stuck {done ll : List (List Nat)} {rest q : List Nat} (h : itemsL ll ++ q = itemsL done ++ rest) (hn : done.length < ll.length) : ∃ l : List Nat, rest[0]? = some (l.length / 256) ∧ rest[1]? = some (l.length % 256) ∧ l.length + 2 ≤ rest.length ∧ (rest.drop 2).take l.length = l := by
  obtain ⟨l, more, _, h2⟩ := cut_next h hn
  subst h2
  refine ⟨l, rfl, rfl, ?_, ?_⟩
  · rw [List.length_append, itemL_len]; omega
  · simp [itemL]
/-- The next text, as it is cut. -/
theorem cut_step {done : List (List Nat)} {rest : List Nat} {a b n : Nat} (h0 : rest[0]? = some a) (h1 : rest[1]? = some b) (hb : b < 256) (hn : n = 256 * a + b) (hl : n + 2 ≤ rest.length) : itemsL done ++ rest = itemsL (done ++ [(rest.drop 2).take n]) ++ rest.drop (n + 2) := by
  cases rest with
  | nil => cases h0
  | cons x r1 =>
  cases r1 with
  | nil => simp at hl
  | cons y r =>
  simp only [List.getElem?_cons_zero, List.getElem?_cons_succ, Option.some.injEq] at h0 h1
  subst h0 h1
  simp only [List.length_cons] at hl
  have hl2 : (r.take n).length = n := by rw [List.length_take]; omega
  simp only [List.drop_succ_cons, List.drop_zero]
  rw [itemsL_snoc, List.append_assoc]
  unfold itemL
  rw [hl2, hn, show (256 * x + y) / 256 = x by omega, show (256 * x + y) % 256 = y by omega, ← hn]
  simp
theorem says_more {s : List Nat} {k j c : Nat} {ll mm : List (List Nat)} (h : Says s k ll) (h2 : Says (s ++ [c]) j mm) : False := by
  have h3 := h2.1
  rw [h.1] at h3
  unfold joinL at h3
  simp only [List.cons_append, List.cons.injEq, true_and] at h3
  have h4 := (items_prefix (ll := ll) (mm := mm) (r := [c]) (q := []) h3.2.1 (by rw [List.append_nil]; exact h3.2.2)).2
  cases h4
theorem says_fewer {s : List Nat} {k j n : Nat} {ll mm : List (List Nat)} (h : Says s k ll) (hn : n + 1 = s.length) (h2 : Says (s.take n) j mm) : False := by
  have hx : s = s.take n ++ [s[n]'(by omega)] := by
    exact (List.take_of_length_le (by omega)).symm.trans (List.take_succ_eq_append_getElem (i := n) (by omega))
  rw [hx] at h
  exact says_more h2 h
instance decFits (ll : List (List Nat)) : Decidable (Fits ll) := inferInstanceAs (Decidable (_ ∧ _ ∧ _))
/-- What a text of texts says. -/
def splitL (s : List Nat) : Option (Nat × List (List Nat)) :=
  if s[0]? = some 1 then
    match s[1]?, s[2]? with
    | some k, some n => match cutL n (s.drop 3) with
      | some ll => if Fits ll then some (k, ll) else none
      | none => none
    | _, _ => none
  else none
theorem splitL_join {k : Nat} {ll : List (List Nat)} (hf : Fits ll) : splitL (joinL k ll) = some (k, ll) := by
  unfold splitL joinL
  simp [cutL_items, hf]
theorem splitL_says {s : List Nat} (hy : Bytes s) {k : Nat} {ll : List (List Nat)} : splitL s = some (k, ll) ↔ Says s k ll := by
  constructor
  · intro h
    unfold splitL at h
    by_cases h0 : s[0]? = some 1
    · rw [if_pos h0] at h
      cases s with
      | nil => cases h0
      | cons a r =>
      cases r with
      | nil => simp at h
      | cons b r =>
      cases r with
      | nil => simp at h
      | cons n r =>
      simp only [List.getElem?_cons_zero, List.getElem?_cons_succ, List.drop_succ_cons, List.drop_zero, Option.some.injEq] at h h0
      cases hc : cutL n r with
      | none => rw [hc] at h; cases h
      | some mm =>
        rw [hc] at h
        simp only at h
        by_cases hf : Fits mm
        · rw [if_pos hf] at h
          cases h
          obtain ⟨e1, e2, _⟩ := cutL_some hc (fun i x hx => hy (i + 3) x hx)
          refine ⟨?_, hf⟩
          unfold joinL
          rw [h0, e1, e2]
        · rw [if_neg hf] at h; cases h
    · rw [if_neg h0] at h; cases h
  · intro h
    rw [h.1]
    exact splitL_join h.2
theorem says_bytes {s : List Nat} (hy : Bytes s) {k : Nat} {ll : List (List Nat)} (h : Says s k ll) : k < 256 ∧ ∀ l ∈ ll, Bytes l := by
  refine ⟨hy 1 k (by rw [h.1]; rfl), ?_⟩
  have h1 : Bytes (itemsL ll) := by
    intro i x hx
    refine hy (i + 3) x ?_
    rw [h.1]
    exact hx
  exact (cutL_some (cutL_items ll) h1).2.2
end Go.Proofs.Ytfkpbmkhkhnehaa.sh
