/-
  Maps from texts to ints, as lists of pairs, the last one first; the places of names.
-/
import Derived.Test.YtniogaimhkcedaaDoorBase
namespace Go.Proofs.YtniogaimhkcedaaDoor.sh
open Go Go.RowKit Go.Maps
set_option linter.unusedVariables false
set_option linter.unusedSimpArgs false

def mapR : List (List Nat × Nat) → DataW Unit
  | [] => .map []
  | q :: r => (mapR r).put (litL q.1) (.lit (.int .i64 (q.2 : Int)))
theorem mapR_isMap : ∀ r, IsMap (mapR r)
  | [] => isMap_empty
  | q :: r => (mapR_isMap r).put _ _
theorem litL_inj {l m : List Nat} (hl : Bytes l) (hm : Bytes m) (e : litL l = litL m) : l = m := by
  unfold litL at e
  exact map_inj8 hl hm (by simpa using e)
theorem mapR_has : ∀ (r : List (List Nat × Nat)), (∀ q ∈ r, Bytes q.1) → ∀ s, Bytes s → Maps.has (mapR r) (litL s) = (r.lookup s).isSome
  | [], _, s, _ => rfl
  | (k, n) :: r, h, s, hs => by
    have hr := mapR_has r (fun x hx => h x (List.mem_cons_of_mem _ hx)) s hs
    show Maps.has ((mapR r).put (litL k) _) _ = _
    rw [List.lookup_cons]
    by_cases e : s = k
    · subst e
      rw [has_put_same (mapR_isMap r) (isKey_lit _)]
      simp
    · rw [has_put_other (fun e2 => e (litL_inj hs (h (k, n) List.mem_cons_self) e2)), hr]
      have : (s == k) = false := by simpa using e
      rw [this]
theorem mapR_at : ∀ (r : List (List Nat × Nat)), (∀ q ∈ r, Bytes q.1) → ∀ s, Bytes s → (mapR r).atKey (litL s) (.lit (.int .i64 0)) = .lit (.int .i64 (((r.lookup s).getD 0 : Nat) : Int))
  | [], _, s, _ => rfl
  | (k, n) :: r, h, s, hs => by
    have hr := mapR_at r (fun x hx => h x (List.mem_cons_of_mem _ hx)) s hs
    show DataW.atKey ((mapR r).put (litL k) _) _ _ = _
    rw [List.lookup_cons]
    by_cases e : s = k
    · subst e
      rw [atKey_put_same (mapR_isMap r) (isKey_lit _)]
      simp
    · rw [atKey_put_other (fun e2 => e (litL_inj hs (h (k, n) List.mem_cons_self) e2)), hr]
      have : (s == k) = false := by simpa using e
      rw [this]
/-- The places of names: of the first N. -/
def plcR : Nat → List (List Nat × Nat)
  | 0 => []
  | n + 1 => (termN (n + 1), n) :: plcR n
theorem plcR_bytes : ∀ n, ∀ q ∈ plcR n, Bytes q.1
  | 0, q, h => by cases h
  | n + 1, q, h => by
    rcases List.mem_cons.1 h with rfl | h
    · exact termN_bytes _
    · exact plcR_bytes n q h
theorem plcR_look : ∀ (n : Nat) (s : List Nat), (plcR n).lookup s = if findN n s = 0 then none else some (findN n s - 1)
  | 0, s => rfl
  | n + 1, s => by
    unfold plcR findN
    rw [List.lookup_cons]
    by_cases e : termN (n + 1) = s
    · rw [if_pos e]
      have : (s == termN (n + 1)) = true := by simp [e]
      rw [this]
      rfl
    · rw [if_neg e]
      have : (s == termN (n + 1)) = false := by simpa using fun e2 => e e2.symm
      rw [this]
      exact plcR_look n s
theorem plc_has {N m : Nat} {s : List Nat} (hs : Bytes s) (h : findN N s = m + 1) : Maps.has (mapR (plcR N)) (litL s) = true ∧ (mapR (plcR N)).atKey (litL s) (.lit (.int .i64 0)) = .lit (.int .i64 (m : Int)) := by
  rw [mapR_has _ (plcR_bytes N) s hs, mapR_at _ (plcR_bytes N) s hs, plcR_look, h]
  exact ⟨rfl, rfl⟩
theorem plc_not {N : Nat} {s : List Nat} (hs : Bytes s) (h : findN N s = 0) : Maps.has (mapR (plcR N)) (litL s) = false ∧ (mapR (plcR N)).atKey (litL s) (.lit (.int .i64 0)) = .lit (.int .i64 ((0 : Nat) : Int)) := by
  rw [mapR_has _ (plcR_bytes N) s hs, mapR_at _ (plcR_bytes N) s hs, plcR_look, h]
  exact ⟨rfl, rfl⟩
theorem zero_int (w : World) : (zeroValue 3).run Tryd.prog w = .ok (.int .i64 0) w := by kernel_rfl
section
variable {ops : Array Oper} {rest : List Oper} {o : Oper} {a : Act} {w : World} {Q : Exit → Act → World → Prop}
/-- 'n, had := m[s]'. -/
theorem wl_lookP (hg : o.guard = none) (m x : Operand) (ho : o.op = Op.lookup 60 m x true) (mb n : Nat) (D : DataW Unit) (hm : a.eval m = .map (some mb)) (hown : w.ownsMap Tryd.prog 9 (plainElem (H := Unit) Tryd.prog 3) mb n D)
    (J : List Nat) (hx : a.eval x = .string (strOf J)) (hJ : J.length ≤ maxLen) (c : Nat) (b : Bool) (hb : Maps.has D (litL J) = b) (hc : D.atKey (litL J) (.lit (.int .i64 0)) = .lit (.int .i64 (c : Int)))
    (h : wpList Tryd.prog ops Q rest (a.put o.dst (.tuple #[.int .i64 (c : Int), .bool b])) w) : wpList Tryd.prog ops Q (o :: rest) a w :=
  wpList_lookup_own_ok_int w hg m x 60 ho 9 3 .i64 law_str Tryd.underlying60 Tryd.underlying3 (zero_int w) mb n D hm hown _ _ hx (key_lit hJ) fun c' hat _ => by
    rw [hc] at hat
    simp only [DataW.lit.injEq, Lit.int.injEq, true_and] at hat
    subst hat
    rw [hb]
    exact h
/-- 'm[s] = n'. -/
theorem wl_updP (hg : o.guard = none) (m x y : Operand) (ho : o.op = Op.mapUpdate 60 m x y) (mb n : Nat) (D : DataW Unit) (hm : a.eval m = .map (some mb)) (hown : w.ownsMap Tryd.prog 9 (plainElem (H := Unit) Tryd.prog 3) mb n D) (hn : n < 1000001)
    (J : List Nat) (hx : a.eval x = .string (strOf J)) (hJ : J.length ≤ maxLen) (c : Nat) (hy : a.eval y = .int .i64 (c : Int)) (hc : c < 1000001)
    (h : ∀ w', w'.ownsMap Tryd.prog 9 (plainElem (H := Unit) Tryd.prog 3) mb (n + 1) (D.put (litL J) (.lit (.int .i64 (c : Int)))) → w.grownBy w' (some mb) → w.heap.size = w'.heap.size → wpList Tryd.prog ops Q rest (a.put o.dst undef) w') : wpList Tryd.prog ops Q (o :: rest) a w :=
  wpList_mapUpdate_in w hg m x y 60 ho 9 3 law_str Tryd.underlying60 (plainElem Tryd.prog 3) mb n D hm hown (by unfold maxLen; omega) _ _ _ hx hy (key_lit hJ) _ [] (plainElem_int Tryd.underlying3 (by simp [Lit.wf, IntKind.min, IntKind.max, IntKind.signed, IntKind.bits]; omega)) fun w' h1 h2 => h w' h1 h2.grown (by
    obtain ⟨es, ck, es', ck', _, rfl⟩ := h2
    simp [ChangeMaps.setBlock])

/-- 'n, had := m[s]'. -/
theorem wl_lookI (hg : o.guard = none) (m x : Operand) (ho : o.op = Op.lookup 59 m x true) (mb n : Nat) (D : DataW Unit) (hm : a.eval m = .map (some mb)) (hown : w.ownsMap Tryd.prog 9 (plainElem (H := Unit) Tryd.prog 3) mb n D)
    (J : List Nat) (hx : a.eval x = .string (strOf J)) (hJ : J.length ≤ maxLen) (c : Nat) (b : Bool) (hb : Maps.has D (litL J) = b) (hc : D.atKey (litL J) (.lit (.int .i64 0)) = .lit (.int .i64 (c : Int)))
    (h : wpList Tryd.prog ops Q rest (a.put o.dst (.tuple #[.int .i64 (c : Int), .bool b])) w) : wpList Tryd.prog ops Q (o :: rest) a w :=
  wpList_lookup_own_ok_int w hg m x 59 ho 9 3 .i64 law_str Tryd.underlying59 Tryd.underlying3 (zero_int w) mb n D hm hown _ _ hx (key_lit hJ) fun c' hat _ => by
    rw [hc] at hat
    simp only [DataW.lit.injEq, Lit.int.injEq, true_and] at hat
    subst hat
    rw [hb]
    exact h
/-- 'm[s] = n'. -/
theorem wl_updI (hg : o.guard = none) (m x y : Operand) (ho : o.op = Op.mapUpdate 59 m x y) (mb n : Nat) (D : DataW Unit) (hm : a.eval m = .map (some mb)) (hown : w.ownsMap Tryd.prog 9 (plainElem (H := Unit) Tryd.prog 3) mb n D) (hn : n < 1000001)
    (J : List Nat) (hx : a.eval x = .string (strOf J)) (hJ : J.length ≤ maxLen) (c : Nat) (hy : a.eval y = .int .i64 (c : Int)) (hc : c < 1000001)
    (h : ∀ w', w'.ownsMap Tryd.prog 9 (plainElem (H := Unit) Tryd.prog 3) mb (n + 1) (D.put (litL J) (.lit (.int .i64 (c : Int)))) → w.grownBy w' (some mb) → w.heap.size = w'.heap.size → wpList Tryd.prog ops Q rest (a.put o.dst undef) w') : wpList Tryd.prog ops Q (o :: rest) a w :=
  wpList_mapUpdate_in w hg m x y 59 ho 9 3 law_str Tryd.underlying59 (plainElem Tryd.prog 3) mb n D hm hown (by unfold maxLen; omega) _ _ _ hx hy (key_lit hJ) _ [] (plainElem_int Tryd.underlying3 (by simp [Lit.wf, IntKind.min, IntKind.max, IntKind.signed, IntKind.bits]; omega)) fun w' h1 h2 => h w' h1 h2.grown (by
    obtain ⟨es, ck, es', ck', _, rfl⟩ := h2
    simp [ChangeMaps.setBlock])

end
/-- A map from texts to ints in memory, of at most n pairs. -/
def MapI (r : List (List Nat × Nat)) (mb n : Nat) (w : World) : Prop := w.ownsMap Tryd.prog 9 (plainElem (H := Unit) Tryd.prog 3) mb n (mapR r)
theorem MapI.lt {r : List (List Nat × Nat)} {n mb : Nat} {w : World} (h : MapI r mb n w) : mb < w.heap.size := World.ownsMap.lt h
theorem MapI.under {r : List (List Nat × Nat)} {n mb : Nat} {w w' : World} (h : MapI r mb n w) (hb : Below w.heap.size w w') : MapI r mb n w' := World.ownsMap.kept (row := none) h (grown_none hb) (by simp)
theorem MapI.turn {r : List (List Nat × Nat)} {n mb : Nat} {w w' : World} {M M' : Nat → Prop} (h : MapI r mb n w) (ht : Turn M w M' w') (hM : ¬ M mb) : MapI r mb n w' := by
  have hlt := MapI.lt h
  obtain ⟨es, clock, hb, F, hs, hD⟩ := h
  exact ⟨es, clock, (ht.1.block mb hlt hM).trans hb, F, hs, hD⟩
/-- The places of public keys, by their secrets, of the first n terms. -/
def pubR (ts : List TermL) : Nat → List (List Nat × Nat)
  | 0 => []
  | n + 1 => match ts[n]? with
    | some (2, [y]) => (y, n) :: pubR ts n
    | _ => pubR ts n
theorem pubR_pub {ts : List TermL} {n : Nat} {y : List Nat} (h : ts[n]? = some (2, [y])) : pubR ts (n + 1) = (y, n) :: pubR ts n := by
  show (match ts[n]? with | some (2, [y]) => (y, n) :: pubR ts n | _ => pubR ts n) = _
  rw [h]
  split
  · next z e => cases e; rfl
  · next e => exact absurd rfl (e y)
theorem pubR_not {ts : List TermL} {n : Nat} {t : TermL} (h : ts[n]? = some t) (h2 : t.1 ≠ 2) : pubR ts (n + 1) = pubR ts n := by
  show (match ts[n]? with | some (2, [y]) => (y, n) :: pubR ts n | _ => pubR ts n) = _
  rw [h]
  split
  · next y e => cases e; exact absurd rfl h2
  · rfl
theorem pubR_bytes {ts : List TermL} (h : Terms ts) : ∀ n, ∀ q ∈ pubR ts n, Bytes q.1
  | 0, q, hq => by cases hq
  | n + 1, q, hq => by
    unfold pubR at hq
    split at hq
    · next y e =>
      rcases List.mem_cons.1 hq with rfl | hq
      · exact (h.2 _ (List.mem_of_getElem? e)).1 y (by simp)
      · exact pubR_bytes h n q hq
    · exact pubR_bytes h n q hq
theorem pubR_some {ts : List TermL} : ∀ (n : Nat) (y : List Nat) (i : Nat), (pubR ts n).lookup y = some i → ts[i]? = some (2, [y]) ∧ i < n
  | 0, y, i, h => by cases h
  | n + 1, y, i, h => by
    unfold pubR at h
    split at h
    · next z e =>
      rw [List.lookup_cons] at h
      split at h
      · next he =>
        cases h
        rw [eq_of_beq he]
        exact ⟨e, Nat.lt_succ_self _⟩
      · have := pubR_some n y i h
        exact ⟨this.1, by omega⟩
    · have := pubR_some n y i h
      exact ⟨this.1, by omega⟩
theorem pubR_none {ts : List TermL} : ∀ (n : Nat) (y : List Nat), (pubR ts n).lookup y = none → ∀ i, i < n → ts[i]? ≠ some (2, [y])
  | 0, y, h, i, hi => by omega
  | n + 1, y, h, i, hi => fun hti => by
    unfold pubR at h
    split at h
    · next z e =>
      rw [List.lookup_cons] at h
      split at h
      · cases h
      · next he =>
        by_cases hin : i = n
        · subst hin
          rw [e] at hti
          cases hti
          simp at he
        · exact pubR_none n y h i (by omega) hti
    · next e =>
      by_cases hin : i = n
      · subst hin
        exact e y hti
      · exact pubR_none n y h i (by omega) hti
theorem pub_has {ts : List TermL} (hT : Terms ts) {y : List Nat} (hy : Bytes y) {i : Nat} (h : (pubR ts ts.length).lookup y = some i) : Maps.has (mapR (pubR ts ts.length)) (litL y) = true ∧ (mapR (pubR ts ts.length)).atKey (litL y) (.lit (.int .i64 0)) = .lit (.int .i64 (i : Int)) := by
  rw [mapR_has _ (pubR_bytes hT _) y hy, mapR_at _ (pubR_bytes hT _) y hy, h]
  exact ⟨rfl, rfl⟩
theorem pub_hasnt {ts : List TermL} (hT : Terms ts) {y : List Nat} (hy : Bytes y) (h : (pubR ts ts.length).lookup y = none) : Maps.has (mapR (pubR ts ts.length)) (litL y) = false ∧ (mapR (pubR ts ts.length)).atKey (litL y) (.lit (.int .i64 0)) = .lit (.int .i64 ((0 : Nat) : Int)) := by
  rw [mapR_has _ (pubR_bytes hT _) y hy, mapR_at _ (pubR_bytes hT _) y hy, h]
  exact ⟨rfl, rfl⟩
theorem pubK_some {ts : List TermL} (hT : Terms ts) {H : Nat → Prop} {y : List Nat} {i : Nat} (h : (pubR ts ts.length).lookup y = some i) : PubK ts H y ↔ H i ∨ KnownS ts H y := by
  have h1 := (pubR_some _ _ _ h).1
  constructor
  · rintro (⟨j, h2, h3⟩ | h2)
    · rw [nodup_at hT.1.1 h1 h2]
      exact .inl h3
    · exact .inr h2
  · rintro (h2 | h2)
    · exact .inl ⟨i, h1, h2⟩
    · exact .inr h2
theorem pubK_none {ts : List TermL} {H : Nat → Prop} {y : List Nat} (h : (pubR ts ts.length).lookup y = none) : PubK ts H y ↔ KnownS ts H y := by
  constructor
  · rintro (⟨j, h2, h3⟩ | h2)
    · exact absurd h2 (pubR_none _ _ h j (List.getElem?_eq_some_iff.1 h2).1)
    · exact h2
  · exact .inr
end Go.Proofs.YtniogaimhkcedaaDoor.sh
