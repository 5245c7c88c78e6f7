/-
  General pieces, joined: DX DY DZ KA KB KC.
-/
import Derived.Test.YtniogaimhkcedaaDoorBaseE
/-
  FOR LAYER 10, the mathematics: texts that tell nothing, terms whose parts tell elder terms alone, the statements' acts; boxes, shared secrets, hashes.
-/
namespace Go.Proofs.YtniogaimhkcedaaDoor.sh
open Go Go.RowKit
set_option linter.unusedVariables false
set_option linter.unusedSimpArgs false

/-- In whatever table, a text tells terms ahead of i alone. -/
def LowP (p : List Nat) (i : Nat) : Prop := ∀ ts : List TermL, ts.length < 1000000 → ∀ n, Leaf ts p n → n < i
theorem LowP.mono {p : List Nat} {i j : Nat} (h : LowP p i) (hj : i ≤ j) : LowP p j := fun ts hl n hn => Nat.lt_of_lt_of_le (h ts hl n hn) hj
/-- A text that tells nothing. -/
def Mute (p : List Nat) : Prop := LowP p 0
theorem Mute.low {p : List Nat} (h : Mute p) (i : Nat) : LowP p i := LowP.mono h (Nat.zero_le i)
theorem Mute.known {ts : List TermL} {H : Nat → Prop} {p : List Nat} (h : Mute p) (hl : ts.length < 1000000) : KnownS ts H p := fun n hn => absurd (h ts hl n hn) (Nat.not_lt_zero _)
theorem find_len {N : Nat} {s : List Nat} (h : s.length ≠ 32) : findN N s = 0 := findN_none fun i _ _ e => h (by rw [← e, termN_len])
theorem find_head {N : Nat} {s : List Nat} (h : s[0]? ≠ some 116) : findN N s = 0 := findN_none fun i _ _ e => h (by rw [← e]; rfl)
theorem split_head {s : List Nat} (h : s[0]? ≠ some 1) : splitL s = none := by unfold splitL; rw [if_neg h]
theorem split_few {s : List Nat} (h : s.length < 3) : splitL s = none := by
  unfold splitL
  by_cases h0 : s[0]? = some 1
  · rw [if_pos h0]
    have : s[2]? = none := List.getElem?_eq_none (by omega)
    rw [this]
    cases s[1]? <;> rfl
  · rw [if_neg h0]
theorem mute_of {s : List Nat} (h : ∀ N, findN N s = 0) (h2 : splitL s = none) : Mute s := fun ts _ n hn => absurd hn (leaf_none (h _) h2)
theorem mute_short {s : List Nat} (h : s.length < 3) : Mute s := mute_of (fun N => find_len (by omega)) (split_few h)
theorem mute_head {s : List Nat} (h : s[0]? ≠ some 1) (h2 : s[0]? ≠ some 116) : Mute s := mute_of (fun N => find_head h2) (split_head h)
theorem split_name (n : Nat) : splitL (termN n) = none := split_head (by show some 116 ≠ some 1; decide)
theorem leaf_termN {ts : List TermL} {i n : Nat} (hl : ts.length < 1000000) (hi : i < 1000000) (h : Leaf ts (termN (i + 1)) n) : n = i := by
  cases h with
  | name h2 =>
    have h3 := findN_name ts.length (termN (i + 1)) (by omega)
    have h4 := findN_le ts.length (termN (i + 1))
    rw [h2] at h3
    have := termN_inj (by omega) (by omega) h3
    omega
  | part h2 h3 => rw [split_name] at h3; cases h3
theorem leaf_at {ts : List TermL} {i n : Nat} (hl : ts.length < 1000000) (hi : i < ts.length) : Leaf ts (termN (i + 1)) n ↔ n = i := leaf_name (findN_at _ _ (by omega) (by omega) (by omega))
theorem known_at {ts : List TermL} {H : Nat → Prop} {i : Nat} (hl : ts.length < 1000000) (hi : i < ts.length) : KnownS ts H (termN (i + 1)) ↔ H i := known_name (findN_at _ _ (by omega) (by omega) (by omega))
theorem low_name {i j : Nat} (hi : i < 1000000) (hj : i < j) : LowP (termN (i + 1)) j := fun ts hl n hn => by rw [leaf_termN hl hi hn]; exact hj
theorem leaf_join {ts : List TermL} {k n : Nat} {ll : List (List Nat)} (hF : Fits ll) : Leaf ts (joinL k ll) n ↔ ∃ l ∈ ll, Leaf ts l n := leaf_part (find_head (by show some 1 ≠ some 116; decide)) (splitL_join hF)
theorem known_join {ts : List TermL} {H : Nat → Prop} {k : Nat} {ll : List (List Nat)} (hF : Fits ll) : KnownS ts H (joinL k ll) ↔ ∀ l ∈ ll, KnownS ts H l := known_part (find_head (by show some 1 ≠ some 116; decide)) (splitL_join hF)
theorem low_join {k i : Nat} {ll : List (List Nat)} (hF : Fits ll) (h : ∀ l ∈ ll, LowP l i) : LowP (joinL k ll) i := fun ts hl n hn => by
  obtain ⟨l, h1, h2⟩ := (leaf_join hF).1 hn
  exact h l h1 ts hl n h2

/-- A text without the four bytes that names begin with. -/
def NoTerm (s : List Nat) : Prop := ¬ [116, 101, 114, 109] <:+: s
theorem item_infix : ∀ {ll : List (List Nat)} {l : List Nat}, l ∈ ll → l <:+: itemsL ll
  | x :: ll, l, h => by
    rw [itemsL_cons]
    rcases List.mem_cons.1 h with rfl | h
    · exact ⟨[l.length / 256, l.length % 256], itemsL ll, by simp [itemL]⟩
    · obtain ⟨a, b, e⟩ := item_infix h
      exact ⟨itemL x ++ a, b, by rw [← e]; simp⟩
theorem noTerm_part {s l : List Nat} {k : Nat} {ll : List (List Nat)} (hy : Bytes s) (h : NoTerm s) (h2 : splitL s = some (k, ll)) (hl : l ∈ ll) : NoTerm l := fun hi => by
  have e := ((splitL_says hy).1 h2).1
  have h3 := item_infix hl
  refine h (hi.trans (h3.trans ?_))
  rw [e]
  exact ⟨[1, k, ll.length], [], by simp [joinL]⟩
theorem noTerm_name {n : Nat} : ¬ NoTerm (termN n) := fun h => h ⟨[], List.replicate 20 0 ++ bigL n 8, by simp [termN]⟩
theorem noTerm_mute {s : List Nat} (hy : Bytes s) (h : NoTerm s) : Mute s := fun ts hl n hn => by
  exfalso
  induction hn with
  | @name s n h2 =>
    have h3 := findN_name ts.length s (by omega)
    rw [← h3] at h
    exact noTerm_name h
  | part h2 h3 h4 _ ih => exact ih (split_bytes hy h3 _ h4) (noTerm_part hy h h3 h4)
theorem noTerm_of {s : List Nat} (h : ∀ i, i + 4 ≤ s.length → (s.drop i).take 4 ≠ [116, 101, 114, 109]) : NoTerm s := by
  rintro ⟨a, b, rfl⟩
  refine h a.length (by simp) ?_
  simp
theorem num_mute {n : Nat} (h : n ≤ 300) : Mute (numL n) := mute_short (by
  by_cases h0 : n = 0
  · subst h0; decide
  · have h1 := (numT_len_of 8 n (Nat.lt_of_le_of_lt h (by decide))).1 (by omega)
    by_cases h3 : (numL n).length < 3
    · exact h3
    · have h2 : 256 ^ 3 ≤ 256 ^ (numT n 8).length := Nat.pow_le_pow_right (by decide) (by have : (numL n).length = (numT n 8).length := rfl; omega)
      omega)

/-- Every term's parts tell elder terms alone. -/
def LowT (ts : List TermL) : Prop := ∀ i t, ts[i]? = some t → ∀ p ∈ t.2, LowP p i
theorem low_nil : LowT [] := fun i t h => by simp at h
theorem low_snoc {ts : List TermL} {t : TermL} (h : LowT ts) (ht : ∀ p ∈ t.2, LowP p ts.length) : LowT (ts ++ [t]) := fun i u hu p hp => by
  by_cases hi : i < ts.length
  · rw [List.getElem?_append_left hi] at hu
    exact h i u hu p hp
  · have h2 := (List.getElem?_eq_some_iff.1 hu).1
    rw [List.length_append, List.length_singleton] at h2
    obtain rfl : i = ts.length := by omega
    rw [List.getElem?_append_right (Nat.le_refl _), Nat.sub_self] at hu
    simp at hu
    subst hu
    exact ht p hp
theorem low_put {ts : List TermL} {t : TermL} (h : LowT ts) (ht : ∀ p ∈ t.2, LowP p ts.length) : LowT (putL ts t).1 := by
  by_cases hF : Fits t.2
  · by_cases hm : t ∈ ts
    · rw [putL_old hF hm]; exact h
    · rw [putL_new hF hm]; exact low_snoc h ht
  · rw [putL_not hF]; exact h
theorem low_dh {ts : List TermL} {a b : List Nat} (h : LowT ts) (ha : LowP a ts.length) : LowT (dhL ts a b).1 := by
  unfold dhL
  split
  · next y e =>
    split
    · exact h
    · have hy := h _ _ e y (by simp)
      have hlt := (List.getElem?_eq_some_iff.1 e).1
      refine low_put h fun p hp => ?_
      have hp : p ∈ sort2 a y := hp
      unfold sort2 at hp
      split at hp <;> simp at hp <;> rcases hp with rfl | rfl <;> first | exact ha | exact hy.mono (Nat.le_of_lt hlt)
  · exact h

/-- The bound: what is known of new terms is as P says, where the elder ones are all in P and tell elder ones alone. -/
theorem kn_bound {ts : List TermL} {told : List (List Nat)} {K : Nat} {P : Nat → Prop} (hl : ts.length < 1000000) (hlow : ∀ i t, i < K → ts[i]? = some t → ∀ p ∈ t.2, LowP p i) (hP : ∀ n, n < K → P n) (htold : ∀ s ∈ told, ∀ j, Leaf ts s j → P j)
    (hnew : ∀ i t, K ≤ i → ts[i]? = some t → MakesK ts P t → P i) (hbox : ∀ i k n a x, K ≤ i → ts[i]? = some (5, [k, n, a, x]) → P i → KnownS ts P k → ∀ j, Leaf ts x j → P j) : ∀ n, KN ts told n → P n :=
  kn_least htold
    { made := fun i t ht hm => by
        by_cases hi : i < K
        · exact hP i hi
        · exact hnew i t (by omega) ht hm
      told := fun i k n a x ht hi hk j hj => by
        by_cases hK : i < K
        · have := hlow i _ hK ht x (by simp) ts hl j hj
          exact hP j (by omega)
        · exact hbox i k n a x (by omega) ht hi hk j hj }
end Go.Proofs.YtniogaimhkcedaaDoor.sh
/-
  FOR LAYER 10, the mathematics: the statements' acts; boxes, shared secrets, hashes.
-/
namespace Go.Proofs.YtniogaimhkcedaaDoor.sh
open Go Go.RowKit
set_option linter.unusedVariables false
set_option linter.unusedSimpArgs false

/-- An act of layer 10's statements. -/
structure ActK where
  kind : Nat
  a : Nat
  b : Nat
  s : List Nat
  both : Bool
def nameK (ts : List TermL) (n : Nat) : List Nat := termN (n % ts.length + 1)
def textK (ts : List TermL) (x : ActK) : List Nat := if x.both = true then joinS 9 [nameK ts x.a, nameK ts x.b, x.s] else nameK ts x.b
def actK (ts : List TermL) (x : ActK) : List TermL :=
  if 300 < x.s.length then ts else if ts.length = 0 then (putL ts (1, [x.s])).1 else
  if x.kind % 5 = 0 then (putL ts (1, [x.s])).1 else if x.kind % 5 = 1 then (putL ts (2, [nameK ts x.a])).1 else
  if x.kind % 5 = 2 then (dhL ts (nameK ts x.a) (nameK ts x.b)).1 else
  if x.kind % 5 = 3 then (putL ts (4, [x.s, nameK ts x.a, textK ts x])).1 else
  (putL ts (5, [nameK ts x.a, numL x.s.length, x.s, textK ts x])).1
def actsK (ts : List TermL) (l : List ActK) : List TermL := l.foldl actK ts
theorem actsK_snoc (ts : List TermL) (l : List ActK) (x : ActK) : actsK ts (l ++ [x]) = actK (actsK ts l) x := by simp [actsK]
theorem nameK_bytes (ts : List TermL) (n : Nat) : Bytes (nameK ts n) := termN_bytes _
theorem fits_text {ts : List TermL} {x : ActK} (h : x.s.length ≤ 300) : Fits [nameK ts x.a, nameK ts x.b, x.s] := by
  have h1 : (nameK ts x.a).length = 32 := termN_len _
  have h2 : (nameK ts x.b).length = 32 := termN_len _
  refine ⟨by simp, fun l hl => ?_, ?_⟩
  · simp at hl
    rcases hl with rfl | rfl | rfl <;> omega
  · rw [itemsL_len]
    simp
    omega
theorem textK_bytes {ts : List TermL} {x : ActK} (hs : Bytes x.s) (h : x.s.length ≤ 300) : Bytes (textK ts x) := by
  unfold textK
  split
  · rw [joinS_fits (fits_text h)]
    exact joinL_bytes (by decide) (fun l hl => by
      simp at hl
      rcases hl with rfl | rfl | rfl
      · exact nameK_bytes _ _
      · exact nameK_bytes _ _
      · exact hs) (fits_text h)
  · exact nameK_bytes _ _
/-- What the acts' terms are: formed, boxes of four parts, atoms of few bytes. -/
structure TermsK (ts : List TermL) : Prop where
  terms : Terms ts
  box : ∀ ll, ((5, ll) : TermL) ∈ ts → ∃ k n a x, ll = [k, n, a, x]
  atom : ∀ s, ((1, [s]) : TermL) ∈ ts → s.length ≤ 300
theorem put_mem {ts : List TermL} {t u : TermL} (h : u ∈ (putL ts t).1) : u ∈ ts ∨ u = t := by
  by_cases hF : Fits t.2
  · by_cases hm : t ∈ ts
    · rw [putL_old hF hm] at h; exact .inl h
    · rw [putL_new hF hm] at h; simpa using h
  · rw [putL_not hF] at h; exact .inl h
theorem TermsK.put {ts : List TermL} {t : TermL} (h : TermsK ts) (ht : Formed t) (hb : t.1 = 5 → ∃ k n a x, t.2 = [k, n, a, x]) (ha : t.1 = 1 → ∀ s, t.2 = [s] → s.length ≤ 300) : TermsK (putL ts t).1 where
  terms := putL_terms h.terms ht
  box ll hm := by
    rcases put_mem hm with hm | rfl
    · exact h.box ll hm
    · exact hb rfl
  atom s hm := by
    rcases put_mem hm with hm | rfl
    · exact h.atom s hm
    · exact ha rfl s rfl
theorem TermsK.dh {ts : List TermL} {a b : List Nat} (h : TermsK ts) (ha : Bytes a) : TermsK (dhL ts a b).1 := by
  unfold dhL
  split
  · next y e =>
    split
    · exact h
    · have hy : Bytes y := (h.terms.2 _ (List.mem_of_getElem? e)).1 y (by simp)
      exact h.put ⟨sort2_bytes ha hy, .inr (.inr (.inl ⟨rfl, sort2_two a y⟩))⟩ (fun e => by cases e) (fun e => by cases e)
  · exact h
theorem TermsK.act {ts : List TermL} {x : ActK} (h : TermsK ts) (hs : Bytes x.s) : TermsK (actK ts x) := by
  unfold actK
  split
  · exact h
  · next h3 =>
    have h3 : x.s.length ≤ 300 := by omega
    have hA : TermsK (putL ts (1, [x.s])).1 := h.put ⟨fun p hp => by simp at hp; subst hp; exact hs, .inl ⟨rfl, _, rfl⟩⟩ (fun e => by cases e) (fun _ s e => by cases e; exact h3)
    repeat' split
    · exact hA
    · exact hA
    · exact h.put ⟨fun p hp => by simp at hp; subst hp; exact nameK_bytes _ _, .inr (.inl ⟨rfl, _, rfl⟩)⟩ (fun e => by cases e) (fun e => by cases e)
    · exact h.dh (nameK_bytes _ _)
    · exact h.put ⟨fun p hp => by
        simp at hp
        rcases hp with rfl | rfl | rfl
        · exact hs
        · exact nameK_bytes _ _
        · exact textK_bytes hs h3, .inr (.inr (.inr (.inl rfl)))⟩ (fun e => by cases e) (fun e => by cases e)
    · exact h.put ⟨fun p hp => by
        simp at hp
        rcases hp with rfl | rfl | rfl | rfl
        · exact nameK_bytes _ _
        · exact numL_bytes _
        · exact hs
        · exact textK_bytes hs h3, .inr (.inr (.inr (.inr rfl)))⟩ (fun _ => ⟨_, _, _, _, rfl⟩) (fun e => by cases e)
theorem termsK_nil : TermsK [] := ⟨terms_nil, (fun _ h => by cases h), (fun _ h => by cases h)⟩
theorem TermsK.acts : ∀ {l : List ActK} {ts : List TermL}, TermsK ts → (∀ x ∈ l, Bytes x.s) → TermsK (actsK ts l)
  | [], ts, h, _ => h
  | x :: l, ts, h, hx => TermsK.acts (l := l) (h.act (hx x List.mem_cons_self)) (fun y hy => hx y (List.mem_cons_of_mem _ hy))
theorem actK_len (ts : List TermL) (x : ActK) : (actK ts x).length ≤ ts.length + 1 := by
  unfold actK
  repeat' split
  · exact Nat.le_succ _
  · exact putL_len _ _
  · exact putL_len _ _
  · exact putL_len _ _
  · exact (dhL_grows _ _ _).2
  · exact putL_len _ _
  · exact putL_len _ _
theorem actsK_len : ∀ (l : List ActK) (ts : List TermL), (actsK ts l).length ≤ ts.length + l.length
  | [], ts => Nat.le_refl _
  | x :: l, ts => by
    have h1 := actK_len ts x
    have h2 := actsK_len l (actK ts x)
    show (actsK (actK ts x) l).length ≤ _
    rw [List.length_cons]
    omega
theorem low_nameK {ts : List TermL} (h : ts.length ≠ 0) (hl : ts.length < 1000000) (n : Nat) : LowP (nameK ts n) ts.length := by
  have := Nat.mod_lt n (show 0 < ts.length by omega)
  exact low_name (by omega) this
theorem low_act {ts : List TermL} {x : ActK} (h : LowT ts) (hl : ts.length < 1000000) (hs : Bytes x.s) (hn : NoTerm x.s) : LowT (actK ts x) := by
  have hm := (noTerm_mute hs hn).low ts.length
  unfold actK
  split
  · exact h
  · next h3 =>
    have h3 : x.s.length ≤ 300 := by omega
    have hA : LowT (putL ts (1, [x.s])).1 := low_put h fun p hp => by simp at hp; subst hp; exact hm
    split
    · exact hA
    · next h0 =>
      have hT : LowP (textK ts x) ts.length := by
        unfold textK
        split
        · rw [joinS_fits (fits_text h3)]
          exact low_join (fits_text h3) fun l hl' => by
            simp at hl'
            rcases hl' with rfl | rfl | rfl
            · exact low_nameK h0 hl _
            · exact low_nameK h0 hl _
            · exact hm
        · exact low_nameK h0 hl _
      repeat' split
      · exact hA
      · exact low_put h fun p hp => by simp at hp; subst hp; exact low_nameK h0 hl _
      · exact low_dh h (low_nameK h0 hl _)
      · exact low_put h fun p hp => by
          simp at hp
          rcases hp with rfl | rfl | rfl
          · exact hm
          · exact low_nameK h0 hl _
          · exact hT
      · exact low_put h fun p hp => by
          simp at hp
          rcases hp with rfl | rfl | rfl | rfl
          · exact low_nameK h0 hl _
          · exact (num_mute h3).low _
          · exact hm
          · exact hT
theorem low_acts : ∀ {l : List ActK} {ts : List TermL}, LowT ts → ts.length + l.length < 1000000 → (∀ x ∈ l, Bytes x.s ∧ NoTerm x.s) → LowT (actsK ts l)
  | [], ts, h, _, _ => h
  | x :: l, ts, h, hl, hx => by
    have h1 := actK_len ts x
    rw [List.length_cons] at hl
    exact low_acts (l := l) (low_act h (by omega) (hx x List.mem_cons_self).1 (hx x List.mem_cons_self).2) (by omega) (fun y hy => hx y (List.mem_cons_of_mem _ hy))
end Go.Proofs.YtniogaimhkcedaaDoor.sh
/-
  FOR LAYER 10, the mathematics: boxes, shared secrets, hashes.
-/
namespace Go.Proofs.YtniogaimhkcedaaDoor.sh
open Go Go.RowKit
set_option linter.unusedVariables false
set_option linter.unusedSimpArgs false
set_option linter.unusedSectionVars false

/-- A table of the acts, and what the statement adds to it: the terms from K on are more's. -/
structure Added (ts more us : List TermL) : Prop where
  eq : us = ts ++ more
  low : LowT ts
  len : us.length < 1000000
theorem Added.elder {ts more us : List TermL} (h : Added ts more us) {i : Nat} {t : TermL} (hi : i < ts.length) (ht : us[i]? = some t) : ∀ p ∈ t.2, LowP p i := by
  rw [h.eq, List.getElem?_append_left hi] at ht
  exact h.low i t ht
theorem Added.later {ts more us : List TermL} (h : Added ts more us) {i : Nat} {t : TermL} (hi : ts.length ≤ i) (ht : us[i]? = some t) : more[i - ts.length]? = some t := by
  rw [h.eq, List.getElem?_append_right hi] at ht
  exact ht
theorem Added.at {ts more us : List TermL} (h : Added ts more us) {j : Nat} {t : TermL} (ht : more[j]? = some t) : us[ts.length + j]? = some t := by
  rw [h.eq, List.getElem?_append_right (Nat.le_add_right _ _), Nat.add_sub_cancel_left]
  exact ht
theorem Added.size {ts more us : List TermL} (h : Added ts more us) : us.length = ts.length + more.length := by rw [h.eq, List.length_append]
/-- Names of elder terms. -/
def Elder (K : Nat) (l : List (List Nat)) : Prop := ∀ s ∈ l, ∃ j, j < K ∧ s = termN (j + 1)
theorem Elder.leaf {ts more us : List TermL} (h : Added ts more us) {l : List (List Nat)} (hl : Elder ts.length l) {s : List Nat} (hs : s ∈ l) {j : Nat} (hj : Leaf us s j) : j < ts.length := by
  obtain ⟨i, hi, rfl⟩ := hl s hs
  have h2 := h.size
  have h3 := h.len
  rw [leaf_termN h.len (by omega) hj]
  exact hi
theorem Added.bound {ts more us : List TermL} (h : Added ts more us) {told : List (List Nat)} {P : Nat → Prop} (hP : ∀ n, n < ts.length → P n) (htold : ∀ s ∈ told, ∀ j, Leaf us s j → P j)
    (hnew : ∀ j t, more[j]? = some t → MakesK us P t → P (ts.length + j)) (hbox : ∀ j k n a x, more[j]? = some (5, [k, n, a, x]) → P (ts.length + j) → KnownS us P k → ∀ i, Leaf us x i → P i) : ∀ n, KN us told n → P n :=
  kn_bound h.len (fun i t hi ht => h.elder hi ht) hP htold
    (fun i t hi ht hm => by
      have := hnew _ _ (h.later hi ht) hm
      rwa [Nat.add_sub_cancel' hi] at this)
    (fun i k n a x hi ht hp hk j hj => hbox (i - ts.length) k n a x (h.later hi ht) (by rwa [Nat.add_sub_cancel' hi]) hk j hj)

/-- KnowBoxes: key, two texts, the box. -/
def boxT (K : Nat) (ka xa ya s : List Nat) : List TermL := [(1, [ka]), (1, [xa]), (1, [ya]), (5, [termN (K + 1), numL 7, s, joinL 3 [termN (K + 2), termN (K + 3), s]])]
theorem fits_both {K : Nat} {s : List Nat} (h : s.length ≤ 300) : Fits [termN (K + 2), termN (K + 3), s] := by
  have h1 := termN_len (K + 2)
  have h2 := termN_len (K + 3)
  refine ⟨by simp, fun l hl => ?_, ?_⟩
  · simp at hl
    rcases hl with rfl | rfl | rfl <;> omega
  · rw [itemsL_len]
    simp
    omega
section
variable {ts us : List TermL} {ka xa ya s : List Nat} {given : List (List Nat)} (h : Added ts (boxT ts.length ka xa ya s) us) (hs : s.length ≤ 300) (hg : Elder ts.length given)
include h
theorem box_len : us.length = ts.length + 4 := h.size
theorem box_name {j n : Nat} (hj : j < 4) (hn : Leaf us (termN (ts.length + j + 1)) n) : n = ts.length + j := leaf_termN h.len (by have := box_len h; have := h.len; omega) hn
theorem box_known {j : Nat} {H : Nat → Prop} (hj : j < 4) : KnownS us H (termN (ts.length + j + 1)) ↔ H (ts.length + j) := known_at h.len (by have := box_len h; omega)
include hs
theorem box_both {H : Nat → Prop} (hk : KnownS us H (joinL 3 [termN (ts.length + 2), termN (ts.length + 3), s])) : H (ts.length + 1) ∧ H (ts.length + 2) := by
  have h2 := (known_join (fits_both hs)).1 hk
  exact ⟨(box_known h (j := 1) (by decide)).1 (h2 _ (by simp)), (box_known h (j := 2) (by decide)).1 (h2 _ (by simp))⟩
include hg
theorem boxes_a : ∀ n, KN us (given ++ [termN (ts.length + 4)]) n → n < ts.length ∨ n = ts.length + 3 :=
  h.bound (P := fun n => n < ts.length ∨ n = ts.length + 3) (fun n hn => .inl hn) (fun t ht j hj => by
    rcases List.mem_append.1 ht with ht | ht
    · exact .inl (hg.leaf h ht hj)
    · simp at ht
      subst ht
      exact .inr (box_name h (j := 3) (by decide) hj))
  (fun j t ht hm => by
    match j, ht with
    | 0, ht => simp [boxT] at ht; subst ht; exact absurd rfl (makes_not_atom hm)
    | 1, ht => simp [boxT] at ht; subst ht; exact absurd rfl (makes_not_atom hm)
    | 2, ht => simp [boxT] at ht; subst ht; exact absurd rfl (makes_not_atom hm)
    | 3, ht => exact .inr rfl
    | j + 4, ht => simp [boxT] at ht)
  (fun j k n a x ht hp hk i hi => by
    match j, ht with
    | 0, ht => simp [boxT] at ht
    | 1, ht => simp [boxT] at ht
    | 2, ht => simp [boxT] at ht
    | 3, ht =>
      simp [boxT] at ht
      obtain ⟨rfl, rfl, rfl, rfl⟩ := ht
      have := (box_known h (j := 0) (by decide)).1 hk
      omega
    | j + 4, ht => simp [boxT] at ht)
theorem boxes_c : ∀ n, KN us (given ++ [termN (ts.length + 1)]) n → n < ts.length ∨ n = ts.length :=
  h.bound (P := fun n => n < ts.length ∨ n = ts.length) (fun n hn => .inl hn) (fun t ht j hj => by
    rcases List.mem_append.1 ht with ht | ht
    · exact .inl (hg.leaf h ht hj)
    · simp at ht
      subst ht
      exact .inr (box_name h (j := 0) (by decide) hj))
  (fun j t ht hm => by
    match j, ht with
    | 0, ht => simp [boxT] at ht; subst ht; exact absurd rfl (makes_not_atom hm)
    | 1, ht => simp [boxT] at ht; subst ht; exact absurd rfl (makes_not_atom hm)
    | 2, ht => simp [boxT] at ht; subst ht; exact absurd rfl (makes_not_atom hm)
    | 3, ht =>
      simp [boxT] at ht
      subst ht
      cases hm with
      | box _ _ hx =>
        have := (box_both h hs hx).1
        omega
    | j + 4, ht => simp [boxT] at ht)
  (fun j k n a x ht hp hk i hi => by
    match j, ht with
    | 0, ht => simp [boxT] at ht
    | 1, ht => simp [boxT] at ht
    | 2, ht => simp [boxT] at ht
    | 3, ht => omega
    | j + 4, ht => simp [boxT] at ht)
/-- Who is told the box and its key is told its text. -/
theorem boxes_b : ∀ i, Leaf us (joinL 3 [termN (ts.length + 2), termN (ts.length + 3), s]) i → KN us (given ++ [termN (ts.length + 4), termN (ts.length + 1)]) i := fun i hi => by
  have hb : KN us (given ++ [termN (ts.length + 4), termN (ts.length + 1)]) (ts.length + 3) := kn_told (s := termN (ts.length + 4)) (by simp) ((leaf_at h.len (by have := box_len h; omega)).2 rfl)
  have hk : KN us (given ++ [termN (ts.length + 4), termN (ts.length + 1)]) ts.length := kn_told (s := termN (ts.length + 1)) (by simp) ((leaf_at h.len (by have := box_len h; omega)).2 rfl)
  exact (kn_closed us _).told (ts.length + 3) _ _ _ _ (h.at (j := 3) rfl) hb ((box_known h (j := 0) (by decide)).2 hk) i hi
end
end Go.Proofs.YtniogaimhkcedaaDoor.sh
/-
  FOR LAYER 10, the mathematics: shared secrets, hashes.
-/
namespace Go.Proofs.YtniogaimhkcedaaDoor.sh
open Go Go.RowKit
set_option linter.unusedVariables false
set_option linter.unusedSimpArgs false
set_option linter.unusedSectionVars false

theorem Added.named {ts more us : List TermL} (h : Added ts more us) {j n : Nat} (hj : j < more.length) (hn : Leaf us (termN (ts.length + j + 1)) n) : n = ts.length + j := leaf_termN h.len (by have := h.size; have := h.len; omega) hn
theorem Added.known {ts more us : List TermL} (h : Added ts more us) {j : Nat} {H : Nat → Prop} (hj : j < more.length) : KnownS us H (termN (ts.length + j + 1)) ↔ H (ts.length + j) := known_at h.len (by have := h.size; omega)
theorem Added.told {ts more us : List TermL} (h : Added ts more us) {j : Nat} {told : List (List Nat)} (hj : j < more.length) (ht : termN (ts.length + j + 1) ∈ told) : KN us told (ts.length + j) := kn_told ht ((leaf_at h.len (by have := h.size; omega)).2 rfl)
theorem Added.made {ts more us : List TermL} (h : Added ts more us) {j : Nat} {t : TermL} {told : List (List Nat)} (ht : more[j]? = some t) (hm : MakesK us (KN us told) t) : KN us told (ts.length + j) := (kn_closed us told).made _ t (h.at ht) hm
/-- KnowShared: two secrets, their public keys, what they come to, a digest of it. -/
def sharedT (K : Nat) (aa ba o : List Nat) : List TermL := [(1, [aa]), (1, [ba]), (2, [termN (K + 1)]), (2, [termN (K + 2)]), (3, sort2 (termN (K + 1)) (termN (K + 2))), (4, [o, termN (K + 5)])]
theorem sort2_or (a y : List Nat) : sort2 a y = [a, y] ∨ sort2 a y = [y, a] := by
  unfold sort2
  split
  · exact .inr rfl
  · exact .inl rfl
section
variable {ts us : List TermL} {aa ba o : List Nat} {given : List (List Nat)} (h : Added ts (sharedT ts.length aa ba o) us) (hg : Elder ts.length given) (ho : Mute o)
include h
theorem dh_needs {H : Nat → Prop} (hm : MakesK us H (3, sort2 (termN (ts.length + 1)) (termN (ts.length + 2)))) : H ts.length ∨ H (ts.length + 1) := by
  have k0 := fun {H : Nat → Prop} => h.known (j := 0) (H := H) (by simp [sharedT])
  have k1 := fun {H : Nat → Prop} => h.known (j := 1) (H := H) (by simp [sharedT])
  rcases sort2_or (termN (ts.length + 1)) (termN (ts.length + 2)) with e | e <;> rw [e] at hm <;> cases hm with
  | dh1 h1 h2 => first | exact .inl (k0.1 h1) | exact .inr (k1.1 h1)
  | dh2 h1 h2 => first | exact .inl (k0.1 h1) | exact .inr (k1.1 h1)
theorem dh_makes {H : Nat → Prop} (hm : H ts.length ∧ H (ts.length + 3) ∨ H (ts.length + 1) ∧ H (ts.length + 2)) : MakesK us H (3, sort2 (termN (ts.length + 1)) (termN (ts.length + 2))) := by
  have k0 := fun {H : Nat → Prop} => h.known (j := 0) (H := H) (by simp [sharedT])
  have k1 := fun {H : Nat → Prop} => h.known (j := 1) (H := H) (by simp [sharedT])
  have pa : H (ts.length + 2) → PubK us H (termN (ts.length + 1)) := fun h2 => .inl ⟨_, h.at (j := 2) rfl, h2⟩
  have pb : H (ts.length + 3) → PubK us H (termN (ts.length + 2)) := fun h2 => .inl ⟨_, h.at (j := 3) rfl, h2⟩
  rcases sort2_or (termN (ts.length + 1)) (termN (ts.length + 2)) with e | e <;> rw [e] <;> rcases hm with ⟨h1, h2⟩ | ⟨h1, h2⟩
  · exact .dh1 (k0.2 h1) (pb h2)
  · exact .dh2 (k1.2 h1) (pa h2)
  · exact .dh2 (k0.2 h1) (pb h2)
  · exact .dh1 (k1.2 h1) (pa h2)
include hg
theorem shared_none : ∀ n, KN us (given ++ [termN (ts.length + 3), termN (ts.length + 4)]) n → n < ts.length ∨ n = ts.length + 2 ∨ n = ts.length + 3 :=
  h.bound (P := fun n => n < ts.length ∨ n = ts.length + 2 ∨ n = ts.length + 3) (fun n hn => .inl hn) (fun t ht j hj => by
    rcases List.mem_append.1 ht with ht | ht
    · exact .inl (hg.leaf h ht hj)
    · simp at ht
      rcases ht with rfl | rfl
      · exact .inr (.inl (h.named (j := 2) (by simp [sharedT]) hj))
      · exact .inr (.inr (h.named (j := 3) (by simp [sharedT]) hj)))
  (fun j t ht hm => by
    match j, ht with
    | 0, ht => simp [sharedT] at ht; subst ht; exact absurd rfl (makes_not_atom hm)
    | 1, ht => simp [sharedT] at ht; subst ht; exact absurd rfl (makes_not_atom hm)
    | 2, ht => exact .inr (.inl rfl)
    | 3, ht => exact .inr (.inr rfl)
    | 4, ht =>
      simp [sharedT] at ht
      subst ht
      have := dh_needs h hm
      omega
    | 5, ht =>
      simp [sharedT] at ht
      subst ht
      cases hm with
      | hash hp =>
        have := (h.known (j := 4) (by simp [sharedT])).1 (hp (termN (ts.length + 5)) (by simp))
        omega
    | j + 6, ht => simp [sharedT] at ht)
  (fun j k n a x ht hp hk i hi => by
    match j, ht with
    | 0, ht => simp [sharedT] at ht
    | 1, ht => simp [sharedT] at ht
    | 2, ht => simp [sharedT] at ht
    | 3, ht => simp [sharedT] at ht
    | 4, ht => simp [sharedT] at ht
    | 5, ht => simp [sharedT] at ht
    | j + 6, ht => simp [sharedT] at ht)
/-- Who has the first secret and the second's public key does not know the second. -/
theorem shared_one_not : ∀ n, KN us (given ++ [termN (ts.length + 1), termN (ts.length + 4)]) n → n ≠ ts.length + 1 :=
  h.bound (P := fun n => n ≠ ts.length + 1) (fun n hn => by omega) (fun t ht j hj => by
    rcases List.mem_append.1 ht with ht | ht
    · have := hg.leaf h ht hj
      omega
    · simp at ht
      rcases ht with rfl | rfl
      · have := h.named (j := 0) (by simp [sharedT]) hj
        omega
      · have := h.named (j := 3) (by simp [sharedT]) hj
        omega)
  (fun j t ht hm => by
    match j, ht with
    | 1, ht => simp [sharedT] at ht; subst ht; exact absurd rfl (makes_not_atom hm)
    | 0, ht => show ts.length + 0 ≠ ts.length + 1; omega
    | j + 2, ht => show ts.length + (j + 2) ≠ ts.length + 1; omega)
  (fun j k n a x ht hp hk i hi => by
    match j, ht with
    | 0, ht => simp [sharedT] at ht
    | 1, ht => simp [sharedT] at ht
    | 2, ht => simp [sharedT] at ht
    | 3, ht => simp [sharedT] at ht
    | 4, ht => simp [sharedT] at ht
    | 5, ht => simp [sharedT] at ht
    | j + 6, ht => simp [sharedT] at ht)
omit hg in
include ho in
theorem shared_one : KN us (given ++ [termN (ts.length + 1), termN (ts.length + 4)]) (ts.length + 4) ∧ KN us (given ++ [termN (ts.length + 1), termN (ts.length + 4)]) (ts.length + 5) ∧ KN us (given ++ [termN (ts.length + 1), termN (ts.length + 4)]) (ts.length + 2) := by
  have h0 : KN us (given ++ [termN (ts.length + 1), termN (ts.length + 4)]) ts.length := h.told (j := 0) (by simp [sharedT]) (by simp)
  have h3 : KN us (given ++ [termN (ts.length + 1), termN (ts.length + 4)]) (ts.length + 3) := h.told (j := 3) (by simp [sharedT]) (by simp)
  have h4 : KN us (given ++ [termN (ts.length + 1), termN (ts.length + 4)]) (ts.length + 4) := h.made (j := 4) rfl (dh_makes h (.inl ⟨h0, h3⟩))
  refine ⟨h4, h.made (j := 5) rfl (.hash fun p hp => ?_), h.made (j := 2) rfl (.pub ((h.known (j := 0) (by simp [sharedT])).2 h0))⟩
  simp at hp
  rcases hp with rfl | rfl
  · exact ho.known h.len
  · exact (h.known (j := 4) (by simp [sharedT])).2 h4
omit hg in
theorem shared_other : KN us (given ++ [termN (ts.length + 3), termN (ts.length + 2)]) (ts.length + 4) ∧ KN us (given ++ [termN (ts.length + 3), termN (ts.length + 2)]) (ts.length + 3) := by
  have h1 : KN us (given ++ [termN (ts.length + 3), termN (ts.length + 2)]) (ts.length + 1) := h.told (j := 1) (by simp [sharedT]) (by simp)
  have h2 : KN us (given ++ [termN (ts.length + 3), termN (ts.length + 2)]) (ts.length + 2) := h.told (j := 2) (by simp [sharedT]) (by simp)
  exact ⟨h.made (j := 4) rfl (dh_makes h (.inr ⟨h1, h2⟩)), h.made (j := 3) rfl (.pub ((h.known (j := 1) (by simp [sharedT])).2 h1))⟩
end

/-- KnowHashes: two parts, a digest of them, a digest of that. -/
def hashT (K : Nat) (aa ba mo : List Nat) : List TermL := [(1, [aa]), (1, [ba]), (4, [termN (K + 1), termN (K + 2)]), (4, [termN (K + 3), mo])]
section
variable {ts us : List TermL} {aa ba mo : List Nat} {given : List (List Nat)} (h : Added ts (hashT ts.length aa ba mo) us) (hg : Elder ts.length given) (ho : Mute mo)
include h
include hg in
theorem hash_one : ∀ n, KN us (given ++ [termN (ts.length + 1)]) n → n < ts.length ∨ n = ts.length :=
  h.bound (P := fun n => n < ts.length ∨ n = ts.length) (fun n hn => .inl hn) (fun t ht j hj => by
    rcases List.mem_append.1 ht with ht | ht
    · exact .inl (hg.leaf h ht hj)
    · simp at ht
      subst ht
      exact .inr (h.named (j := 0) (by simp [hashT]) hj))
  (fun j t ht hm => by
    match j, ht with
    | 0, ht => simp [hashT] at ht; subst ht; exact absurd rfl (makes_not_atom hm)
    | 1, ht => simp [hashT] at ht; subst ht; exact absurd rfl (makes_not_atom hm)
    | 2, ht =>
      simp [hashT] at ht
      subst ht
      cases hm with
      | hash hp =>
        have := (h.known (j := 1) (by simp [hashT])).1 (hp (termN (ts.length + 2)) (by simp))
        omega
    | 3, ht =>
      simp [hashT] at ht
      subst ht
      cases hm with
      | hash hp =>
        have := (h.known (j := 2) (by simp [hashT])).1 (hp (termN (ts.length + 3)) (by simp))
        omega
    | j + 4, ht => simp [hashT] at ht)
  (fun j k n a x ht hp hk i hi => by
    match j, ht with
    | 0, ht => simp [hashT] at ht
    | 1, ht => simp [hashT] at ht
    | 2, ht => simp [hashT] at ht
    | 3, ht => simp [hashT] at ht
    | j + 4, ht => simp [hashT] at ht)
include hg in
theorem hash_hash_not : ∀ n, KN us (given ++ [termN (ts.length + 3)]) n → n < ts.length ∨ n = ts.length + 2 ∨ n = ts.length + 3 :=
  h.bound (P := fun n => n < ts.length ∨ n = ts.length + 2 ∨ n = ts.length + 3) (fun n hn => .inl hn) (fun t ht j hj => by
    rcases List.mem_append.1 ht with ht | ht
    · exact .inl (hg.leaf h ht hj)
    · simp at ht
      subst ht
      exact .inr (.inl (h.named (j := 2) (by simp [hashT]) hj)))
  (fun j t ht hm => by
    match j, ht with
    | 0, ht => simp [hashT] at ht; subst ht; exact absurd rfl (makes_not_atom hm)
    | 1, ht => simp [hashT] at ht; subst ht; exact absurd rfl (makes_not_atom hm)
    | 2, ht => exact .inr (.inl rfl)
    | 3, ht => exact .inr (.inr rfl)
    | j + 4, ht => simp [hashT] at ht)
  (fun j k n a x ht hp hk i hi => by
    match j, ht with
    | 0, ht => simp [hashT] at ht
    | 1, ht => simp [hashT] at ht
    | 2, ht => simp [hashT] at ht
    | 3, ht => simp [hashT] at ht
    | j + 4, ht => simp [hashT] at ht)
include ho in
theorem hash_next {told : List (List Nat)} (h2 : KN us told (ts.length + 2)) : KN us told (ts.length + 3) := h.made (j := 3) rfl (.hash fun p hp => by
  simp at hp
  rcases hp with rfl | rfl
  · exact (h.known (j := 2) (by simp [hashT])).2 h2
  · exact ho.known h.len)
include ho in
theorem hash_both : KN us (given ++ [termN (ts.length + 1), termN (ts.length + 2)]) (ts.length + 2) ∧ KN us (given ++ [termN (ts.length + 1), termN (ts.length + 2)]) (ts.length + 3) := by
  have h0 : KN us (given ++ [termN (ts.length + 1), termN (ts.length + 2)]) ts.length := h.told (j := 0) (by simp [hashT]) (by simp)
  have h1 : KN us (given ++ [termN (ts.length + 1), termN (ts.length + 2)]) (ts.length + 1) := h.told (j := 1) (by simp [hashT]) (by simp)
  have h2 : KN us (given ++ [termN (ts.length + 1), termN (ts.length + 2)]) (ts.length + 2) := h.made (j := 2) rfl (.hash fun p hp => by
    simp at hp
    rcases hp with rfl | rfl
    · exact (h.known (j := 0) (by simp [hashT])).2 h0
    · exact (h.known (j := 1) (by simp [hashT])).2 h1)
  exact ⟨h2, hash_next h ho h2⟩
include ho in
theorem hash_hash : KN us (given ++ [termN (ts.length + 3)]) (ts.length + 3) := hash_next h ho (h.told (j := 2) (by simp [hashT]) (by simp))
end
end Go.Proofs.YtniogaimhkcedaaDoor.sh
/-
  FOR LAYER 10, the mathematics: the passes of the reference; what the statements add is new.
-/
namespace Go.Proofs.YtniogaimhkcedaaDoor.sh
open Go Go.RowKit
set_option linter.unusedVariables false
set_option linter.unusedSimpArgs false

/-- A list of bools that holds what was told, and nothing that is not known. -/
structure HadI (ts : List TermL) (told : List (List Nat)) (b : List Bool) : Prop where
  len : b.length = ts.length
  sound : ∀ n, hadP b n → KN ts told n
  has : ∀ s ∈ told, ∀ j, Leaf ts s j → hadP b j
theorem HadI.first {ts : List TermL} {told : List (List Nat)} {b : List Bool} (hl : b.length = ts.length) (h : ∀ n, hadP b n ↔ ∃ s ∈ told, Leaf ts s n) : HadI ts told b where
  len := hl
  sound n hn := by
    obtain ⟨s, h1, h2⟩ := (h n).1 hn
    exact kn_told h1 h2
  has s hs j hj := (h j).2 ⟨s, hs, hj⟩
theorem HadI.make {ts : List TermL} {told : List (List Nat)} {b : List Bool} {i : Nat} {t : TermL} (h : HadI ts told b) (ht : ts[i]? = some t) (hm : MakesK ts (hadP b) t) : HadI ts told (b.set i true) := by
  have hi : i < b.length := by rw [h.len]; exact (List.getElem?_eq_some_iff.1 ht).1
  exact
  { len := by rw [List.length_set]; exact h.len
    sound := fun n hn => by
      rcases (had_set hi).1 hn with rfl | hn
      · exact (kn_closed ts told).made n t ht (hm.mono h.sound)
      · exact h.sound n hn
    has := fun s hs j hj => (had_set hi).2 (.inr (h.has s hs j hj)) }
theorem HadI.tell {ts : List TermL} {told : List (List Nat)} {b c : List Bool} {i : Nat} {k n a x : List Nat} (h : HadI ts told b) (ht : ts[i]? = some (5, [k, n, a, x])) (hi : hadP b i) (hk : KnownS ts (hadP b) k) (hl : c.length = b.length) (hc : ∀ j, hadP c j ↔ hadP b j ∨ Leaf ts x j) : HadI ts told c where
  len := hl.trans h.len
  sound j hj := by
    rcases (hc j).1 hj with hj | hj
    · exact h.sound j hj
    · exact (kn_closed ts told).told i k n a x ht (h.sound i hi) (hk.mono h.sound) j hj
  has s hs j hj := (hc j).2 (.inl (h.has s hs j hj))
/-- What a place in the table asks. -/
def ClosedAt (ts : List TermL) (H : Nat → Prop) (i : Nat) : Prop := (∀ t, ts[i]? = some t → MakesK ts H t → H i) ∧ ∀ k n a x, ts[i]? = some (5, [k, n, a, x]) → H i → KnownS ts H k → ∀ j, Leaf ts x j → H j
theorem closed_all {ts : List TermL} {H : Nat → Prop} (h : ∀ i, i < ts.length → ClosedAt ts H i) : ClosedK ts H where
  made i t ht hm := (h i (List.getElem?_eq_some_iff.1 ht).1).1 t ht hm
  told i k n a x ht hi hk j hj := (h i (List.getElem?_eq_some_iff.1 ht).1).2 k n a x ht hi hk j hj
theorem HadI.done {ts : List TermL} {told : List (List Nat)} {b : List Bool} (h : HadI ts told b) (hc : ∀ i, i < ts.length → ClosedAt ts (hadP b) i) : ∀ n, hadP b n ↔ KN ts told n := fun n => ⟨h.sound n, kn_least h.has (closed_all hc) n⟩
theorem had_ext {b c : List Bool} (hl : b.length = c.length) (h : ∀ n, hadP b n ↔ hadP c n) : b = c := by
  have h1 := cnt_grows hl fun n => (h n).1
  have h2 := cnt_grows hl.symm fun n => (h n).2
  exact h1.2 (by omega)
/-- A pass over the table up to i: b0 ahead of it, b behind. -/
structure Pass (ts : List TermL) (b0 b : List Bool) (i : Nat) : Prop where
  len : b.length = b0.length
  grows : ∀ n, hadP b0 n → hadP b n
  same : b = b0 → ∀ j, j < i → ClosedAt ts (hadP b0) j
theorem Pass.start (ts : List TermL) (b : List Bool) : Pass ts b b 0 := ⟨rfl, fun _ h => h, fun _ j h => absurd h (Nat.not_lt_zero j)⟩
theorem Pass.next {ts : List TermL} {b0 b c : List Bool} {i : Nat} (h : Pass ts b0 b i) (hl : c.length = b.length) (hg : ∀ n, hadP b n → hadP c n) (hc : c = b → ClosedAt ts (hadP b) i) : Pass ts b0 c (i + 1) where
  len := hl.trans h.len
  grows n hn := hg n (h.grows n hn)
  same e j hj := by
    have hb : b = b0 := had_ext h.len fun n => ⟨fun hn => by rw [← e]; exact hg n hn, h.grows n⟩
    by_cases hji : j < i
    · exact h.same hb j hji
    · obtain rfl : j = i := by omega
      rw [← hb]
      exact hc (e.trans hb.symm)
theorem Pass.count {ts : List TermL} {b0 b : List Bool} {i : Nat} (h : Pass ts b0 b i) : cntB b0 ≤ cntB b ∧ (cntB b0 = cntB b → b = b0) := by
  have := cnt_grows h.len.symm h.grows
  exact ⟨this.1, fun e => (this.2 e).symm⟩
/-- One place: made or not, and told or not. -/
theorem place_next {ts : List TermL} {b c d : List Bool} {i : Nat} {t : TermL} (ht : ts[i]? = some t) (hlen : b.length = ts.length)
    (h1 : (¬ hadP b i ∧ MakesK ts (hadP b) t ∧ c = b.set i true) ∨ ((hadP b i ∨ ¬ MakesK ts (hadP b) t) ∧ c = b))
    (h2 : (∃ k n a x, t = (5, [k, n, a, x]) ∧ hadP c i ∧ KnownS ts (hadP c) k ∧ d.length = c.length ∧ ∀ j, hadP d j ↔ hadP c j ∨ Leaf ts x j) ∨ ((∀ k n a x, t = (5, [k, n, a, x]) → hadP c i → ¬ KnownS ts (hadP c) k) ∧ d = c)) :
    d.length = b.length ∧ (∀ n, hadP b n → hadP d n) ∧ (d = b → ClosedAt ts (hadP b) i) := by
  have hi : i < b.length := by rw [hlen]; exact (List.getElem?_eq_some_iff.1 ht).1
  have hcl : c.length = b.length := by
    rcases h1 with ⟨_, _, rfl⟩ | ⟨_, rfl⟩
    · exact List.length_set ..
    · rfl
  have hcg : ∀ n, hadP b n → hadP c n := fun n hn => by
    rcases h1 with ⟨_, _, rfl⟩ | ⟨_, rfl⟩
    · exact (had_set hi).2 (.inr hn)
    · exact hn
  have hdl : d.length = c.length := by
    rcases h2 with ⟨k, n, a, x, _, _, _, h3, _⟩ | ⟨_, rfl⟩
    · exact h3
    · rfl
  have hdg : ∀ n, hadP c n → hadP d n := fun n hn => by
    rcases h2 with ⟨k, m, a, x, _, _, _, _, h3⟩ | ⟨_, rfl⟩
    · exact (h3 n).2 (.inl hn)
    · exact hn
  refine ⟨hdl.trans hcl, fun n hn => hdg n (hcg n hn), fun e => ?_⟩
  have hcb : c = b := had_ext hcl fun n => ⟨fun hn => by rw [← e]; exact hdg n hn, hcg n⟩
  subst hcb
  refine ⟨fun u hu hm => ?_, fun k n a x hu hi2 hk j hj => ?_⟩
  · rw [ht] at hu
    cases hu
    rcases h1 with ⟨h3, _, h4⟩ | ⟨h3 | h3, _⟩
    · exact absurd ((congrArg (hadP · i) h4).mpr ((had_set hi).2 (.inl rfl))) h3
    · exact h3
    · exact absurd hm h3
  · rw [ht] at hu
    cases hu
    rcases h2 with ⟨k', n', a', x', h3, _, _, _, h4⟩ | ⟨h3, _⟩
    · cases h3
      have := (h4 j).2 (.inr hj)
      rw [e] at this
      exact this
    · exact absurd hk (h3 k n a x rfl hi2)

/-- What tells a term that is there no more is not in the elder table. -/
theorem low_not {ts us : List TermL} {t : TermL} {p : List Nat} {n : Nat} (hlow : LowT ts) (hl : us.length < 1000000) (hp : p ∈ t.2) (hn : Leaf us p n) (hK : ts.length ≤ n) : t ∉ ts := fun hm => by
  obtain ⟨i, hi⟩ := List.mem_iff_getElem?.1 hm
  have h1 := hlow i t hi p hp us hl n hn
  have h2 := (List.getElem?_eq_some_iff.1 hi).1
  omega
theorem fits_atom {s : List Nat} (h : s.length ≤ 4000) : Fits [s] := ⟨by simp, fun l hl => by simp at hl; subst hl; exact h, by rw [itemsL_len]; simp; omega⟩
/-- An atom that no act has. -/
theorem atom_new {ts : List TermL} {s : List Nat} (h : TermsK ts) (h3 : 300 < s.length) (h4 : s.length ≤ 4000) : putL ts (1, [s]) = (ts ++ [(1, [s])], termN (ts.length + 1)) := putL_new (fits_atom h4) fun hm => by
  have := h.atom s hm
  omega
theorem atom_more {ts more : List TermL} {s : List Nat} (h : TermsK ts) (h3 : 300 < s.length) (h4 : s.length ≤ 4000) (hm : ((1, [s]) : TermL) ∉ more) : putL (ts ++ more) (1, [s]) = (ts ++ (more ++ [(1, [s])]), termN (ts.length + more.length + 1)) := by
  rw [putL_new (fits_atom h4) fun h2 => by
    rcases List.mem_append.1 h2 with h2 | h2
    · have := h.atom s h2
      omega
    · exact hm h2, List.append_assoc, List.length_append]
theorem low_more {ts more : List TermL} {t : TermL} {p : List Nat} {j : Nat} (hlow : LowT ts) (hF : Fits t.2) (hl : ts.length + more.length < 1000000) (hj : j < more.length) (hp : p = termN (ts.length + j + 1)) (hpt : p ∈ t.2) (hm : t ∉ more) : putL (ts ++ more) t = (ts ++ (more ++ [t]), termN (ts.length + more.length + 1)) := by
  have hL : (ts ++ more).length < 1000000 := by rw [List.length_append]; exact hl
  rw [putL_new hF fun h2 => by
    rcases List.mem_append.1 h2 with h2 | h2
    · refine low_not (us := ts ++ more) (n := ts.length + j) hlow hL hpt ?_ (Nat.le_add_right _ _) h2
      rw [hp]
      exact (leaf_at hL (by rw [List.length_append]; omega)).2 rfl
    · exact hm h2, List.append_assoc, List.length_append]
end Go.Proofs.YtniogaimhkcedaaDoor.sh
/-
  FOR LAYER 10, the mathematics: what is known as a list of bools, and as a list of names; what makes a term, by its kind.
-/
namespace Go.Proofs.YtniogaimhkcedaaDoor.sh
open Go Go.RowKit
set_option linter.unusedVariables false
set_option linter.unusedSimpArgs false

theorem makes_pub {ts : List TermL} {H : Nat → Prop} {x : List Nat} : MakesK ts H (2, [x]) ↔ KnownS ts H x := ⟨fun h => by cases h with | pub h => exact h, .pub⟩
theorem makes_dh {ts : List TermL} {H : Nat → Prop} {x y : List Nat} : MakesK ts H (3, [x, y]) ↔ KnownS ts H x ∧ PubK ts H y ∨ KnownS ts H y ∧ PubK ts H x :=
  ⟨fun h => by
    cases h with
    | dh1 h h2 => exact .inl ⟨h, h2⟩
    | dh2 h h2 => exact .inr ⟨h, h2⟩, fun h => by
    rcases h with ⟨h, h2⟩ | ⟨h, h2⟩
    · exact .dh1 h h2
    · exact .dh2 h h2⟩
theorem makes_hash {ts : List TermL} {H : Nat → Prop} {ll : List (List Nat)} : MakesK ts H (4, ll) ↔ ∀ p ∈ ll, KnownS ts H p := ⟨fun h => by cases h with | hash h => exact h, .hash⟩
theorem makes_box {ts : List TermL} {H : Nat → Prop} {k n a x : List Nat} : MakesK ts H (5, [k, n, a, x]) ↔ KnownS ts H k ∧ KnownS ts H a ∧ KnownS ts H x := ⟨fun h => by cases h with | box h h2 h3 => exact ⟨h, h2, h3⟩, fun h => .box h.1 h.2.1 h.2.2⟩
theorem makes_atom {ts : List TermL} {H : Nat → Prop} {ll : List (List Nat)} : ¬ MakesK ts H (1, ll) := fun h => makes_not_atom h rfl
/-- A list of bools that holds what is known. -/
def IsK (ts : List TermL) (told : List (List Nat)) (b : List Bool) : Prop := b.length = ts.length ∧ ∀ n, hadP b n ↔ KN ts told n
theorem isK_ex (ts : List TermL) (told : List (List Nat)) : ∃ b, IsK ts told b := by
  classical
  refine ⟨(List.range ts.length).map fun n => decide (KN ts told n), by simp, fun n => ?_⟩
  unfold hadP
  constructor
  · intro h
    by_cases hn : n < ts.length
    · simpa [hn] using h
    · rw [List.getElem?_eq_none (by simp; omega)] at h
      cases h
  · intro h
    have := kn_lt h
    simp [this, h]
theorem IsK.one {ts : List TermL} {told : List (List Nat)} {b c : List Bool} (h : IsK ts told b) (h2 : IsK ts told c) : b = c := had_ext (h.1.trans h2.1.symm) fun n => (h.2 n).trans (h2.2 n).symm
/-- A list that holds what was told, no more than what is known, and wants nothing more: it is that one. -/
theorem isK_done {ts : List TermL} {told : List (List Nat)} {b : List Bool} (h : HadI ts told b) (hc : ∀ i, i < ts.length → ClosedAt ts (hadP b) i) : IsK ts told b := ⟨h.len, h.done hc⟩
/-- The names of what a list of bools holds, in order. -/
def namesB (b : List Bool) : List (List Nat) := ((List.range b.length).filter fun i => b.getD i false).map fun i => termN (i + 1)
theorem namesB_mem {b : List Bool} {s : List Nat} : s ∈ namesB b ↔ ∃ i, hadP b i ∧ s = termN (i + 1) := by
  unfold namesB hadP
  simp only [List.mem_map, List.mem_filter, List.mem_range]
  constructor
  · rintro ⟨i, ⟨h1, h2⟩, rfl⟩
    refine ⟨i, ?_, rfl⟩
    rw [List.getD_eq_getElem?_getD, List.getElem?_eq_getElem h1] at h2
    rw [List.getElem?_eq_getElem h1]
    simpa using h2
  · rintro ⟨i, h1, rfl⟩
    refine ⟨i, ⟨(List.getElem?_eq_some_iff.1 h1).1, ?_⟩, rfl⟩
    rw [List.getD_eq_getElem?_getD, h1]
    rfl
theorem names_snoc (b : List Bool) (x : Bool) : namesB (b ++ [x]) = namesB b ++ (if x = true then [termN (b.length + 1)] else []) := by
  unfold namesB
  rw [List.length_append, List.length_singleton, List.range_succ, List.filter_append, List.map_append]
  congr 1
  · congr 1
    refine List.filter_congr fun i hi => ?_
    have := List.mem_range.1 hi
    rw [List.getD_eq_getElem?_getD, List.getD_eq_getElem?_getD, List.getElem?_append_left this]
  · cases x <;> simp
theorem cnt_snoc (b : List Bool) (x : Bool) : cntB (b ++ [x]) = cntB b + (if x = true then 1 else 0) := by cases x <;> simp [cntB]
theorem names_len (b : List Bool) : (namesB b).length = cntB b := by
  generalize hn : b.length = n
  induction n generalizing b with
  | zero =>
    have := List.eq_nil_of_length_eq_zero hn
    subst this
    rfl
  | succ n ih =>
    have hne : b ≠ [] := by intro e; rw [e] at hn; cases hn
    have e := List.dropLast_concat_getLast hne
    have hd : b.dropLast.length = n := by rw [List.length_dropLast, hn]; rfl
    rw [← e, names_snoc, cnt_snoc, List.length_append, ih _ hd]
    cases b.getLast hne <;> simp
/-- Who is told the names of what he knows knows that. -/
theorem IsK.again {ts : List TermL} {told : List (List Nat)} {b : List Bool} (hl : ts.length < 1000000) (h : IsK ts told b) : IsK ts (namesB b) b := ⟨h.1, fun n => by
  rw [h.2 n]
  refine (kn_again (fun s hs => ?_) (fun n hn => ⟨termN (n + 1), namesB_mem.2 ⟨n, (h.2 n).2 hn, rfl⟩, (leaf_at hl (kn_lt hn)).2 rfl⟩) n).symm
  obtain ⟨i, hi, rfl⟩ := namesB_mem.1 hs
  have hi2 := (h.2 i).1 hi
  exact (known_at hl (kn_lt hi2)).2 hi2⟩
theorem IsK.more {ts : List TermL} {told more : List (List Nat)} {b c : List Bool} (hb : IsK ts told b) (hc : IsK ts more c) (h : ∀ s ∈ told, s ∈ more) : (∀ n, hadP b n → hadP c n) ∧ (namesB b).length ≤ (namesB c).length := by
  have h1 : ∀ n, hadP b n → hadP c n := fun n hn => (hc.2 n).2 (kn_mono h n ((hb.2 n).1 hn))
  refine ⟨h1, ?_⟩
  rw [names_len, names_len]
  exact (cnt_grows (hb.1.trans hc.1.symm) h1).1
theorem IsK.none {ts : List TermL} {b : List Bool} (hb : IsK ts [] b) {n : Nat} {ll : List (List Nat)} (ht : ts[n]? = some (1, ll)) : ¬ hadP b n := fun h => kn_no_atom ht rfl ((hb.2 n).1 h)
end Go.Proofs.YtniogaimhkcedaaDoor.sh
