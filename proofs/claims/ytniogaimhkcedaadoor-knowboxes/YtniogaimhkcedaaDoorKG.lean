/-
  The rules of package know as lists: learned, added, followed.
-/
import Derived.Test.YtniogaimhkcedaaDoorKD
namespace Go.Proofs.YtniogaimhkcedaaDoor.sh
open Go Go.RowKit
set_option linter.unusedVariables false
set_option linter.unusedSimpArgs false

/-- Counters and gives of rules; by a place: the rules that wait for it; what is known; what is fresh. -/
structure RS where
  cs : List Nat
  gs : List (List Nat)
  ws : List (List Nat)
  kn : List Bool
  fr : List Nat
def learn1 (s : RS) (x : Nat) : RS := if s.kn.getD x false = true then s else { s with kn := s.kn.set x true, fr := s.fr ++ [x] }
def learnR (s : RS) (l : List Nat) : RS := l.foldl learn1 s
theorem learnR_snoc (s : RS) (l : List Nat) (x : Nat) : learnR s (l ++ [x]) = learn1 (learnR s l) x := by simp [learnR]
theorem learn1_had {s : RS} {x : Nat} (h : hadP s.kn x) : learn1 s x = s := by
  unfold learn1
  rw [if_pos]
  rw [List.getD_eq_getElem?_getD, h]
  rfl
theorem learn1_not {s : RS} {x : Nat} (h : ¬ hadP s.kn x) : learn1 s x = { s with kn := s.kn.set x true, fr := s.fr ++ [x] } := by
  unfold learn1
  rw [if_neg]
  intro h2
  rw [List.getD_eq_getElem?_getD] at h2
  cases h3 : s.kn[x]? with
  | none => rw [h3] at h2; cases h2
  | some b => rw [h3] at h2; exact h (by unfold hadP; rw [h3]; exact congrArg some h2)
theorem learn1_same (s : RS) (x : Nat) : (learn1 s x).cs = s.cs ∧ (learn1 s x).gs = s.gs ∧ (learn1 s x).ws = s.ws ∧ (learn1 s x).kn.length = s.kn.length := by
  unfold learn1
  split
  · exact ⟨rfl, rfl, rfl, rfl⟩
  · exact ⟨rfl, rfl, rfl, List.length_set⟩
theorem learnR_same (s : RS) : ∀ l : List Nat, (learnR s l).cs = s.cs ∧ (learnR s l).gs = s.gs ∧ (learnR s l).ws = s.ws ∧ (learnR s l).kn.length = s.kn.length := fun l => by
  induction l generalizing s with
  | nil => exact ⟨rfl, rfl, rfl, rfl⟩
  | cons x l ih =>
    have h1 := learn1_same s x
    have h2 := ih (learn1 s x)
    exact ⟨h2.1.trans h1.1, h2.2.1.trans h1.2.1, h2.2.2.1.trans h1.2.2.1, h2.2.2.2.trans h1.2.2.2⟩
theorem learn1_known {s : RS} {x : Nat} (hx : x < s.kn.length) (y : Nat) : hadP (learn1 s x).kn y ↔ y = x ∨ hadP s.kn y := by
  by_cases h : hadP s.kn x
  · rw [learn1_had h]
    exact ⟨.inr, fun h2 => by rcases h2 with rfl | h2; exact h; exact h2⟩
  · rw [learn1_not h]
    exact had_set hx
/-- What is known of a state whose fresh ones are X beside: all of them apart. -/
structure Had (X : List Nat) (s : RS) : Prop where
  had : ∀ y, hadP s.kn y ↔ y ∈ X ∨ y ∈ s.fr
  nod : (X ++ s.fr).Nodup
theorem Had.learn1 {X : List Nat} {s : RS} {x : Nat} (h : Had X s) (hx : x < s.kn.length) : Had X (learn1 s x) := by
  by_cases h1 : hadP s.kn x
  · rw [learn1_had h1]; exact h
  · have h2 := fun y => learn1_known (s := s) hx y
    have hn : x ∉ X ++ s.fr := fun hm => h1 ((h.had x).2 (List.mem_append.1 hm))
    rw [learn1_not h1] at h2 ⊢
    refine ⟨fun y => ?_, ?_⟩
    · rw [h2 y, h.had y]
      simp only [List.mem_append, List.mem_singleton]
      constructor
      · rintro (h | h | h)
        · exact .inr (.inr h)
        · exact .inl h
        · exact .inr (.inl h)
      · rintro (h | h | h)
        · exact .inr (.inl h)
        · exact .inr (.inr h)
        · exact .inl h
    · show (X ++ (s.fr ++ [x])).Nodup
      rw [← List.append_assoc]
      exact List.nodup_append.2 ⟨h.nod, by simp, fun a ha b hb => by
        rw [List.mem_singleton] at hb
        subst hb
        exact fun e => hn (e ▸ ha)⟩
theorem learnR_known {s : RS} {l : List Nat} (hl : ∀ x ∈ l, x < s.kn.length) (y : Nat) : hadP (learnR s l).kn y ↔ hadP s.kn y ∨ y ∈ l := by
  induction l generalizing s with
  | nil => simp [learnR]
  | cons x l ih =>
    show hadP (learnR (learn1 s x) l).kn y ↔ _
    rw [ih (fun z hz => by rw [(learn1_same s x).2.2.2]; exact hl z (List.mem_cons_of_mem _ hz)), learn1_known (hl x List.mem_cons_self), List.mem_cons]
    constructor
    · rintro ((h | h) | h)
      · exact .inr (.inl h)
      · exact .inl h
      · exact .inr (.inr h)
    · rintro (h | h | h)
      · exact .inl (.inr h)
      · exact .inl (.inl h)
      · exact .inr h
theorem Had.learn {X : List Nat} {s : RS} {l : List Nat} (h : Had X s) (hl : ∀ x ∈ l, x < s.kn.length) : Had X (learnR s l) := by
  induction l generalizing s with
  | nil => exact h
  | cons x l ih => exact ih (h.learn1 (hl x List.mem_cons_self)) (fun z hz => by rw [(learn1_same s x).2.2.2]; exact hl z (List.mem_cons_of_mem _ hz))
/-- A rule waits. -/
def waitsR (ws : List (List Nat)) (k : Nat) (n : List Nat) : List (List Nat) := n.foldl (fun ws x => ws.set x (ws.getD x [] ++ [k])) ws
theorem waitsR_snoc (ws : List (List Nat)) (k : Nat) (n : List Nat) (x : Nat) : waitsR ws k (n ++ [x]) = (waitsR ws k n).set x ((waitsR ws k n).getD x [] ++ [k]) := by simp [waitsR]
theorem waitsR_len (ws : List (List Nat)) (k : Nat) (n : List Nat) : (waitsR ws k n).length = ws.length := by
  induction n generalizing ws with
  | nil => rfl
  | cons x n ih => show (waitsR _ k n).length = _; rw [ih, List.length_set]
theorem getD_set {α : Type} (l : List α) (i j : Nat) (a d : α) (hi : i < l.length) : (l.set i a).getD j d = if i = j then a else l.getD j d := by
  rw [List.getD_eq_getElem?_getD, List.getElem?_set, List.getD_eq_getElem?_getD]
  by_cases h : i = j
  · subst h; simp [hi]
  · simp [h]
theorem waitsR_at {ws : List (List Nat)} {k : Nat} {n : List Nat} (hn : ∀ x ∈ n, x < ws.length) (x : Nat) : (waitsR ws k n).getD x [] = ws.getD x [] ++ List.replicate (n.count x) k := by
  induction n generalizing ws with
  | nil => simp [waitsR]
  | cons y n ih =>
    show (waitsR (ws.set y (ws.getD y [] ++ [k])) k n).getD x [] = _
    rw [ih (fun z hz => by rw [List.length_set]; exact hn z (List.mem_cons_of_mem _ hz)), getD_set _ _ _ _ _ (hn y List.mem_cons_self), List.count_cons]
    by_cases h : y = x
    · subst h
      rw [if_pos rfl, List.append_assoc]
      congr 1
      simp [List.replicate_succ]
    · rw [if_neg h]
      have : (y == x) = false := by simpa using h
      rw [this]
      simp
def addR (s : RS) (n g : List Nat) : RS := if n = [] then learnR s g else { s with ws := waitsR s.ws s.gs.length n, cs := s.cs ++ [n.length], gs := s.gs ++ [g] }
theorem addR_nil (s : RS) (g : List Nat) : addR s [] g = learnR s g := rfl
theorem addR_new {s : RS} {n : List Nat} (g : List Nat) (h : n ≠ []) : addR s n g = { s with ws := waitsR s.ws s.gs.length n, cs := s.cs ++ [n.length], gs := s.gs ++ [g] } := if_neg h

abbrev RL := List (List Nat × List Nat)
/-- The rules that a state is of. -/
structure Rel (N : Nat) (R : RL) (s : RS) : Prop where
  kn : s.kn.length = N
  wl : s.ws.length = N
  gs : s.gs = R.map (·.2)
  cl : s.cs.length = R.length
  ne : ∀ r ∈ R, r.1 ≠ []
  inN : ∀ r ∈ R, (∀ x ∈ r.1, x < N) ∧ ∀ y ∈ r.2, y < N
  wait : ∀ x, x < N → ∀ k, (s.ws.getD x []).count k = ((R[k]?).map fun r => r.1.count x).getD 0
  fr : ∀ x ∈ s.fr, x < N
theorem learnR_fr {s : RS} {l : List Nat} {N : Nat} (hs : ∀ x ∈ s.fr, x < N) (hl : ∀ x ∈ l, x < N) : ∀ x ∈ (learnR s l).fr, x < N := by
  induction l generalizing s with
  | nil => exact hs
  | cons x l ih =>
    refine ih (s := learn1 s x) (fun y hy => ?_) (fun z hz => hl z (List.mem_cons_of_mem _ hz))
    unfold learn1 at hy
    split at hy
    · exact hs y hy
    · rcases List.mem_append.1 hy with hy | hy
      · exact hs y hy
      · rw [List.mem_singleton] at hy; subst hy; exact hl y List.mem_cons_self
theorem Rel.learn {N : Nat} {R : RL} {s : RS} {l : List Nat} (h : Rel N R s) (hl : ∀ x ∈ l, x < N) : Rel N R (learnR s l) := by
  obtain ⟨e1, e2, e3, e4⟩ := learnR_same s l
  exact ⟨by rw [e4]; exact h.kn, by rw [e3]; exact h.wl, by rw [e2]; exact h.gs, by rw [e1]; exact h.cl, h.ne, h.inN, by rw [e3]; exact h.wait, learnR_fr h.fr hl⟩
/-- A set that holds what is known, and all that the rules give. -/
def Sat (s : RS) (R : RL) (H : Nat → Prop) : Prop := (∀ x, hadP s.kn x → H x) ∧ ∀ r ∈ R, (∀ x ∈ r.1, H x) → ∀ y ∈ r.2, H y
/-- A state that is being built. -/
structure Built (N : Nat) (R : RL) (s : RS) : Prop where
  rel : Rel N R s
  cs : s.cs = R.map (·.1.length)
  had : Had [] s
theorem Built.first (N : Nat) : Built N [] ⟨[], [], List.replicate N [], List.replicate N false, []⟩ where
  rel := ⟨by simp, by simp, rfl, rfl, fun r h => (by cases h), fun r h => (by cases h), fun x hx k => (by simp [hx]), fun x h => (by cases h)⟩
  cs := rfl
  had := ⟨fun y => ⟨fun h => absurd h (had_none N y), fun h => by simp at h⟩, List.nodup_nil⟩
theorem Built.learn {N : Nat} {R : RL} {s : RS} {l : List Nat} (h : Built N R s) (hl : ∀ x ∈ l, x < N) : Built N R (learnR s l) ∧ ∀ H, Sat (learnR s l) R H ↔ Sat s R H ∧ ∀ y ∈ l, H y := by
  have hk : ∀ x ∈ l, x < s.kn.length := fun x hx => by rw [h.rel.kn]; exact hl x hx
  refine ⟨⟨h.rel.learn hl, by rw [(learnR_same s l).1]; exact h.cs, h.had.learn hk⟩, fun H => ?_⟩
  unfold Sat
  simp only [learnR_known hk]
  constructor
  · rintro ⟨h1, h2⟩
    exact ⟨⟨fun x hx => h1 x (.inl hx), h2⟩, fun y hy => h1 y (.inr hy)⟩
  · rintro ⟨⟨h1, h2⟩, h3⟩
    exact ⟨fun x hx => by rcases hx with hx | hx; exact h1 x hx; exact h3 x hx, h2⟩
theorem Built.add {N : Nat} {R : RL} {s : RS} {n g : List Nat} (h : Built N R s) (hn : ∀ x ∈ n, x < N) (hg : ∀ y ∈ g, y < N) :
    ∃ R', R'.length ≤ R.length + 1 ∧ Built N R' (addR s n g) ∧ ∀ H, Sat (addR s n g) R' H ↔ Sat s R H ∧ ((∀ x ∈ n, H x) → ∀ y ∈ g, H y) := by
  by_cases h0 : n = []
  · subst h0
    rw [addR_nil]
    refine ⟨R, Nat.le_succ _, (h.learn hg).1, fun H => ?_⟩
    rw [(h.learn hg).2 H]
    simp
  · rw [addR_new g h0]
    have hlen : s.gs.length = R.length := by rw [h.rel.gs, List.length_map]
    refine ⟨R ++ [(n, g)], by simp, ⟨⟨h.rel.kn, by show (waitsR _ _ _).length = _; rw [waitsR_len]; exact h.rel.wl, by show s.gs ++ [g] = _; rw [h.rel.gs]; simp, by show (s.cs ++ [n.length]).length = _; rw [List.length_append, h.rel.cl, List.length_append]; rfl, ?_, ?_, ?_, h.rel.fr⟩, by show s.cs ++ [n.length] = _; rw [h.cs]; simp, ⟨h.had.had, h.had.nod⟩⟩, fun H => ?_⟩
    · intro r hr
      rcases List.mem_append.1 hr with hr | hr
      · exact h.rel.ne r hr
      · rw [List.mem_singleton] at hr; subst hr; exact h0
    · intro r hr
      rcases List.mem_append.1 hr with hr | hr
      · exact h.rel.inN r hr
      · rw [List.mem_singleton] at hr; subst hr; exact ⟨hn, hg⟩
    · intro x hx k
      show ((waitsR s.ws s.gs.length n).getD x []).count k = _
      rw [waitsR_at (fun z hz => by rw [h.rel.wl]; exact hn z hz), List.count_append, h.rel.wait x hx k, hlen]
      by_cases hk : k < R.length
      · rw [List.getElem?_append_left hk, List.count_replicate, if_neg (by simp; omega), Nat.add_zero]
      · rw [List.getElem?_eq_none (by omega), List.getElem?_append_right (by omega)]
        by_cases hk2 : k = R.length
        · subst hk2
          simp [List.count_replicate]
        · rw [List.getElem?_eq_none (by simp; omega), List.count_replicate, if_neg (by simp; omega)]
          rfl
    · unfold Sat
      show ((∀ x, hadP s.kn x → H x) ∧ ∀ r ∈ R ++ [(n, g)], _) ↔ _
      constructor
      · rintro ⟨h1, h2⟩
        exact ⟨⟨h1, fun r hr => h2 r (List.mem_append_left _ hr)⟩, h2 (n, g) (by simp)⟩
      · rintro ⟨⟨h1, h2⟩, h3⟩
        refine ⟨h1, fun r hr => ?_⟩
        rcases List.mem_append.1 hr with hr | hr
        · exact h2 r hr
        · rw [List.mem_singleton] at hr; subst hr; exact h3

/-- The counters: what is behind P, but for those of pre. -/
def Cnt (R : RL) (P pre : List Nat) (s : RS) : Prop := ∀ (k : Nat) (r : List Nat × List Nat), R[k]? = some r → ∃ c, s.cs[k]? = some c ∧ c + pre.count k = r.1.countP fun x => !P.contains x
def Clo (R : RL) (s : RS) : Prop := ∀ (k : Nat) (r : List Nat × List Nat), R[k]? = some r → s.cs[k]? = some 0 → ∀ y ∈ r.2, hadP s.kn y
/-- A state that is being followed: P: places that were taken; xs: the one that is being taken, pre: the rules that it told. -/
structure FI (N : Nat) (R : RL) (S0 : RS) (P pre xs : List Nat) (s : RS) : Prop where
  rel : Rel N R s
  cnt : Cnt R P pre s
  clo : Clo R s
  had : Had (xs ++ P) s
  inN : ∀ x ∈ xs ++ P, x < N
  least : ∀ H, Sat S0 R H → ∀ y, hadP s.kn y → H y
  grows : ∀ y, hadP S0.kn y → hadP s.kn y
theorem Built.start {N : Nat} {R : RL} {s : RS} (h : Built N R s) : FI N R s [] [] [] s where
  rel := h.rel
  cnt k r hr := ⟨r.1.length, by rw [h.cs, List.getElem?_map, hr]; rfl, by
    rw [List.count_nil, Nat.add_zero]
    exact (List.countP_eq_length.2 (fun x _ => by simp)).symm⟩
  clo k r hr h0 := by
    rw [h.cs, List.getElem?_map, hr] at h0
    simp at h0
    exact absurd h0 (h.rel.ne r (List.mem_of_getElem? hr))
  had := h.had
  inN x hx := by simp at hx
  least H hH y hy := hH.1 y hy
  grows y hy := hy
theorem FI.pop {N : Nat} {R : RL} {S0 : RS} {P f : List Nat} {s : RS} {x : Nat} (h : FI N R S0 P [] [] s) (hf : s.fr = f ++ [x]) : FI N R S0 P [] [x] { s with fr := f } where
  rel := ⟨h.rel.kn, h.rel.wl, h.rel.gs, h.rel.cl, h.rel.ne, h.rel.inN, h.rel.wait, fun y hy => h.rel.fr y (by rw [hf]; exact List.mem_append_left _ hy)⟩
  cnt := h.cnt
  clo := h.clo
  had := by
    have h1 := h.had.had
    have h2 := h.had.nod
    rw [hf] at h1 h2
    refine ⟨fun y => ?_, ?_⟩
    · rw [h1 y]
      simp only [List.mem_append, List.mem_singleton, List.nil_append]
      constructor
      · rintro (h | h | h)
        · exact .inl (.inr h)
        · exact .inr h
        · exact .inl (.inl h)
      · rintro ((h | h) | h)
        · exact .inr (.inr h)
        · exact .inl h
        · exact .inr (.inl h)
    · have h3 : ([] ++ P ++ (f ++ [x])).Perm ([x] ++ P ++ f) := by
        rw [List.nil_append, ← List.append_assoc]
        refine (List.perm_append_comm).trans ?_
        rw [List.append_assoc]
      exact h3.nodup h2
  inN y hy := by
    rcases List.mem_append.1 hy with hy | hy
    · rw [List.mem_singleton] at hy; subst hy; exact h.rel.fr y (by rw [hf]; simp)
    · exact h.inN y (by simpa using hy)
  least := h.least
  grows := h.grows
theorem FI.close {N : Nat} {R : RL} {S0 : RS} {P : List Nat} {s : RS} {x : Nat} (h : FI N R S0 P (s.ws.getD x []) [x] s) : FI N R S0 (x :: P) [] [] s where
  rel := h.rel
  cnt k r hr := by
    obtain ⟨c, h1, h2⟩ := h.cnt k r hr
    refine ⟨c, h1, ?_⟩
    have hx : x < N := h.inN x (by simp)
    have hxP : x ∉ P := fun hm => by
      have := h.had.nod
      rw [List.append_assoc, List.singleton_append] at this
      exact (List.nodup_cons.1 this).1 (List.mem_append_left _ hm)
    rw [h.rel.wait x hx k, hr] at h2
    have e : ∀ l : List Nat, l.countP (fun y => !P.contains y) = l.countP (fun y => !(x :: P).contains y) + l.count x := fun l => by
      induction l with
      | nil => rfl
      | cons y l ih =>
        rw [List.countP_cons, List.countP_cons, List.count_cons, ih]
        by_cases hy : y = x
        · subst hy
          simp [hxP]
          omega
        · have e1 : (y == x) = false := by simpa using hy
          simp [e1, hy, List.contains_cons]
          omega
    rw [e r.1] at h2
    have h2 : c + r.1.count x = (r.1.countP fun y => !(x :: P).contains y) + r.1.count x := h2
    rw [List.count_nil]
    omega
  clo := h.clo
  had := h.had
  inN := h.inN
  least := h.least
  grows := h.grows
/-- One rule is told. -/
theorem FI.tell {N : Nat} {R : RL} {S0 : RS} {P pre : List Nat} {s : RS} {x k : Nat} (h : FI N R S0 P pre [x] s) {post : List Nat} (hw : s.ws.getD x [] = pre ++ k :: post) :
    ∃ r c, R[k]? = some r ∧ s.gs[k]? = some r.2 ∧ s.cs[k]? = some (c + 1) ∧ c + 1 ≤ r.1.length ∧ (c ≠ 0 → FI N R S0 P (pre ++ [k]) [x] { s with cs := s.cs.set k c }) ∧ (c = 0 → FI N R S0 P (pre ++ [k]) [x] (learnR { s with cs := s.cs.set k c } r.2)) := by
  have hx : x < N := h.inN x (by simp)
  have hxP : x ∉ P := fun hm => by
    have := h.had.nod
    rw [List.append_assoc, List.singleton_append] at this
    exact (List.nodup_cons.1 this).1 (List.mem_append_left _ hm)
  have hwt := h.rel.wait x hx k
  rw [hw, List.count_append, List.count_cons_self] at hwt
  cases hr : R[k]? with
  | none => rw [hr] at hwt; simp at hwt
  | some r =>
    rw [hr] at hwt
    have hwt : List.count k pre + (List.count k post + 1) = r.1.count x := hwt
    obtain ⟨c0, h1, h2⟩ := h.cnt k r hr
    have hcx : r.1.count x ≤ r.1.countP fun y => !P.contains y := by
      unfold List.count
      refine List.countP_mono_left fun y _ hy => ?_
      have : y = x := by simpa using hy
      subst this
      simpa using hxP
    obtain ⟨c, rfl⟩ : ∃ c, c0 = c + 1 := ⟨c0 - 1, by omega⟩
    have hkl : k < s.cs.length := (List.getElem?_eq_some_iff.1 h1).1
    have cnt' : Cnt R P (pre ++ [k]) { s with cs := s.cs.set k c } := fun j q hq => by
      show ∃ c', (s.cs.set k c)[j]? = some c' ∧ _
      rw [List.getElem?_set, List.count_append]
      by_cases hj : k = j
      · subst hj
        rw [hr] at hq
        cases hq
        refine ⟨c, by simp [hkl], ?_⟩
        rw [List.count_singleton_self]
        omega
      · rw [if_neg hj]
        obtain ⟨c', h3, h4⟩ := h.cnt j q hq
        refine ⟨c', h3, ?_⟩
        have : List.count j [k] = 0 := by simp [List.count_singleton, hj]
        omega
    have rel' : Rel N R { s with cs := s.cs.set k c } := ⟨h.rel.kn, h.rel.wl, h.rel.gs, by show (s.cs.set k c).length = _; rw [List.length_set]; exact h.rel.cl, h.rel.ne, h.rel.inN, h.rel.wait, h.rel.fr⟩
    have hgs : s.gs[k]? = some r.2 := by rw [h.rel.gs, List.getElem?_map, hr]; rfl
    refine ⟨r, c, rfl, hgs, h1, by have := List.countP_le_length (p := fun y => !P.contains y) (l := r.1); omega, fun hc => ?_, fun hc => ?_⟩
    · refine ⟨rel', cnt', fun j q hq h0 y hy => ?_, ⟨h.had.had, h.had.nod⟩, h.inN, h.least, h.grows⟩
      have h0 : (s.cs.set k c)[j]? = some 0 := h0
      rw [List.getElem?_set] at h0
      by_cases hj : k = j
      · subst hj
        simp [hkl] at h0
        exact absurd h0 hc
      · rw [if_neg hj] at h0
        exact h.clo j q hq h0 y hy
    · have hin := h.rel.inN r (List.mem_of_getElem? hr)
      have hall : ∀ z ∈ r.1, z ∈ [x] ++ P := fun z hz => by
        by_cases hzx : z = x
        · subst hzx; simp
        by_cases hzP : z ∈ P
        · simp [hzP]
        exfalso
        have hlt : r.1.count x < r.1.countP fun y => !P.contains y := by
          clear hcx h2 hwt cnt' rel' h1 hgs
          have hzl := hz
          generalize r.1 = l at hz hzl
          clear hzl
          induction l with
          | nil => cases hz
          | cons y l ih =>
            rw [List.count_cons, List.countP_cons]
            have hle : l.count x ≤ l.countP fun y => !P.contains y := by
              unfold List.count
              refine List.countP_mono_left fun y _ hy => ?_
              have : y = x := by simpa using hy
              subst this
              simpa using hxP
            simp only [List.contains_eq_mem] at hle ih ⊢
            rcases List.mem_cons.1 hz with rfl | hz2
            · have e1 : (z == x) = false := by simpa using hzx
              simp [e1, hzP]
              omega
            · have := ih hz2
              by_cases hy : y = x
              · subst hy
                simp [hxP]
                omega
              · have e1 : (y == x) = false := by simpa using hy
                simp [e1]
                omega
        omega
      have hknl : ∀ y ∈ r.2, y < s.kn.length := fun y hy => by rw [h.rel.kn]; exact hin.2 y hy
      have hkn := fun y => learnR_known (s := { s with cs := s.cs.set k c }) hknl y
      obtain ⟨e1, e2, e3, e4⟩ := learnR_same { s with cs := s.cs.set k c } r.2
      refine ⟨rel'.learn hin.2, fun j q hq => by rw [e1]; exact cnt' j q hq, fun j q hq h0 y hy => ?_, (show Had ([x] ++ P) { s with cs := s.cs.set k c } from ⟨h.had.had, h.had.nod⟩).learn hknl, h.inN, fun H hH y hy => ?_, fun y hy => (hkn y).2 (.inl (h.grows y hy))⟩
      · rw [e1] at h0
        have h0 : (s.cs.set k c)[j]? = some 0 := h0
        rw [List.getElem?_set] at h0
        refine (hkn y).2 ?_
        by_cases hj : k = j
        · subst hj
          rw [hr] at hq
          cases hq
          exact .inr hy
        · rw [if_neg hj] at h0
          exact .inl (h.clo j q hq h0 y hy)
      · rcases (hkn y).1 hy with hy | hy
        · exact h.least H hH y hy
        · refine hH.2 r (List.mem_of_getElem? hr) (fun z hz => ?_) y hy
          exact h.least H hH z ((h.had.had z).2 (.inl (hall z hz)))
theorem nodup_len : ∀ (N : Nat) (l : List Nat), l.Nodup → (∀ x ∈ l, x < N) → l.length ≤ N
  | 0, l, _, h => by
    cases l with
    | nil => exact Nat.le_refl _
    | cons x l => exact absurd (h x List.mem_cons_self) (Nat.not_lt_zero _)
  | N + 1, l, hn, h => by
    by_cases hm : N ∈ l
    · have h2 := nodup_len N (l.erase N) (hn.erase N) (fun x hx => by
        have h3 := (hn.mem_erase_iff).1 hx
        have := h x h3.2
        have := h3.1
        omega)
      rw [List.length_erase_of_mem hm] at h2
      omega
    · have h2 := nodup_len N l hn (fun x hx => by
        have := h x hx
        have : x ≠ N := fun e => hm (e ▸ hx)
        omega)
      omega
theorem FI.room {N : Nat} {R : RL} {S0 : RS} {P pre xs : List Nat} {s : RS} (h : FI N R S0 P pre xs s) : xs.length + P.length + s.fr.length ≤ N := by
  have := nodup_len N (xs ++ P ++ s.fr) h.had.nod (fun x hx => by
    rcases List.mem_append.1 hx with hx | hx
    · exact h.inN x hx
    · exact h.rel.fr x hx)
  rw [List.length_append, List.length_append] at this
  exact this
/-- Nothing is fresh: the least is known. -/
theorem FI.done {N : Nat} {R : RL} {S0 : RS} {P : List Nat} {s : RS} (h : FI N R S0 P [] [] s) (hf : s.fr = []) (y : Nat) : hadP s.kn y ↔ ∀ H, Sat S0 R H → H y := by
  refine ⟨fun hy H hH => h.least H hH y hy, fun hy => hy _ ⟨h.grows, fun r hr hx y hy => ?_⟩⟩
  obtain ⟨k, hk⟩ := List.mem_iff_getElem?.1 hr
  obtain ⟨c, h1, h2⟩ := h.cnt k r hk
  have h0 : (r.1.countP fun x => !P.contains x) = 0 := List.countP_eq_zero.2 fun x hx2 => by
    have := (h.had.had x).1 (hx x hx2)
    rw [hf] at this
    simpa using this
  rw [h0] at h2
  obtain rfl : c = 0 := by omega
  exact h.clo k r hk h1 y hy
end Go.Proofs.YtniogaimhkcedaaDoor.sh
