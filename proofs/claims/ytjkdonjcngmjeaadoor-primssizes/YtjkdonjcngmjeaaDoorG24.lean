/-
  General pieces, joined: DA DB DC DD DE.
-/
import Derived.Test.YtjkdonjcngmjeaaDoorG23
import Derived.Test.YtjkdonjcngmjeaaDoorG17
import Derived.Test.YtjkdonjcngmjeaaDoorG20
import Derived.Test.YtjkdonjcngmjeaaDoorG18
import Derived.Test.YtjkdonjcngmjeaaDoorG19
import Derived.Test.YtjkdonjcngmjeaaDoorG21
import Derived.Test.YtjkdonjcngmjeaaDoorG22
import Derived.Test.YtjkdonjcngmjeaaDoorG01
import Derived.Shelf.Strings.Repeat
import Derived.Shelf.Small.Wraps
import Derived.Shelf.Strings.Trim
import Derived.Maps.OwnSet
import Derived.WalkSpells
/-
  Terms as lists: names, what a table has, found, put, put together by two.
-/
namespace Go.Proofs.YtjkdonjcngmjeaaDoor.sh
open Go Go.RowKit
set_option linter.unusedVariables false
set_option linter.unusedSimpArgs false

/-- A number's eight bytes, the highest first. -/
def bigL : Nat → Nat → List Nat
  | _, 0 => []
  | n, k + 1 => bigL (n / 256) k ++ [n % 256]
theorem bigL_len : ∀ (k n : Nat), (bigL n k).length = k
  | 0, _ => rfl
  | k + 1, n => by unfold bigL; rw [List.length_append, bigL_len k]; rfl
theorem bigL_bytes : ∀ (k n : Nat), Bytes (bigL n k)
  | 0, _ => nil_bytes
  | k + 1, n => by unfold bigL; exact (bigL_bytes k _).append (bytes_of_all (fun x hx => by simp at hx; omega))
theorem readT_bigL : ∀ (k n : Nat), n < 256 ^ k → readT (bigL n k) = n
  | 0, n, h => by simp at h; subst h; rfl
  | k + 1, n, h => by
    unfold bigL
    rw [readT_snoc, readT_bigL k (n / 256) (by rw [Nat.pow_succ] at h; omega)]
    omega
/-- The n-th name. -/
def termN (n : Nat) : List Nat := [116, 101, 114, 109] ++ List.replicate 20 0 ++ bigL n 8
theorem termN_len (n : Nat) : (termN n).length = 32 := by unfold termN; rw [List.length_append, bigL_len]; rfl
theorem termN_bytes (n : Nat) : Bytes (termN n) := by
  unfold termN
  exact (bytes_of_all (fun x hx => by
    rcases List.mem_append.1 hx with hx | hx
    · simp at hx; omega
    · have := List.eq_of_mem_replicate hx; omega)).append (bigL_bytes 8 n)
theorem termN_inj {n m : Nat} (hn : n < 18446744073709551616) (hm : m < 18446744073709551616) (h : termN n = termN m) : n = m := by
  have h1 := List.append_cancel_left h
  have h2 := congrArg readT h1
  rwa [readT_bigL 8 n hn, readT_bigL 8 m hm] at h2
/-- A term: its kind, its parts. -/
abbrev TermL := Nat × List (List Nat)
/-- What a list of terms is behind a term that is put, and its name. -/
def putL (ts : List TermL) (t : TermL) : List TermL × List Nat :=
  if Fits t.2 then (if t ∈ ts then (ts, termN (ts.idxOf t + 1)) else (ts ++ [t], termN (ts.length + 1))) else (ts, [])
theorem putL_not {ts : List TermL} {t : TermL} (h : ¬ Fits t.2) : putL ts t = (ts, []) := if_neg h
theorem putL_old {ts : List TermL} {t : TermL} (h : Fits t.2) (h2 : t ∈ ts) : putL ts t = (ts, termN (ts.idxOf t + 1)) := by unfold putL; rw [if_pos h, if_pos h2]
theorem putL_new {ts : List TermL} {t : TermL} (h : Fits t.2) (h2 : t ∉ ts) : putL ts t = (ts ++ [t], termN (ts.length + 1)) := by unfold putL; rw [if_pos h, if_neg h2]
/-- A list as tables have it: no term twice, each may be joined. -/
def Clean (ts : List TermL) : Prop := ts.Nodup ∧ ∀ t ∈ ts, Fits t.2
theorem clean_nil : Clean [] := ⟨List.nodup_nil, fun t h => by cases h⟩
theorem putL_clean {ts : List TermL} (h : Clean ts) (t : TermL) : Clean (putL ts t).1 := by
  by_cases hF : Fits t.2
  · by_cases hm : t ∈ ts
    · rw [putL_old hF hm]; exact h
    · rw [putL_new hF hm]
      refine ⟨List.nodup_append.2 ⟨h.1, by simp, fun a ha b hb => ?_⟩, fun x hx => ?_⟩
      · rw [List.mem_singleton] at hb
        subst hb
        exact fun e => hm (by rw [← e]; exact ha)
      · rcases List.mem_append.1 hx with hx | hx
        · exact h.2 x hx
        · rw [List.mem_singleton] at hx; rw [hx]; exact hF
  · rw [putL_not hF]; exact h
theorem putL_len (ts : List TermL) (t : TermL) : (putL ts t).1.length ≤ ts.length + 1 := by
  by_cases hF : Fits t.2
  · by_cases hm : t ∈ ts
    · rw [putL_old hF hm]; exact Nat.le_succ _
    · rw [putL_new hF hm]; simp
  · rw [putL_not hF]; exact Nat.le_succ _
end Go.Proofs.YtjkdonjcngmjeaaDoor.sh
/-
  Terms as lists: names that stay, acts one behind the other, what two secrets come to.
-/
namespace Go.Proofs.YtjkdonjcngmjeaaDoor.sh
open Go Go.RowKit
set_option linter.unusedVariables false
set_option linter.unusedSimpArgs false

/-- The name of a term that a list has. -/
def nameOf (ts : List TermL) (t : TermL) : List Nat := termN (ts.idxOf t + 1)
theorem putL_name {ts : List TermL} {t : TermL} (hF : Fits t.2) : (putL ts t).2 = nameOf (putL ts t).1 t ∧ t ∈ (putL ts t).1 := by
  by_cases hm : t ∈ ts
  · rw [putL_old hF hm]
    exact ⟨rfl, hm⟩
  · rw [putL_new hF hm]
    refine ⟨?_, by simp⟩
    unfold nameOf
    rw [List.idxOf_append, if_neg hm]
    simp
/-- An act. -/
structure ActL where
  kind : Nat
  a : Nat
  b : Nat
  n : Nat
  s : List Nat
  raw : Bool
/-- What terms a table has: of what kinds, of how many parts, of bytes. -/
def Formed (t : TermL) : Prop := (∀ p ∈ t.2, Bytes p) ∧ ((t.1 = 1 ∧ ∃ p, t.2 = [p]) ∨ (t.1 = 2 ∧ ∃ p, t.2 = [p]) ∨ (t.1 = 3 ∧ ∃ p q, t.2 = [p, q]) ∨ t.1 = 4 ∨ t.1 = 5)
def Terms (ts : List TermL) : Prop := Clean ts ∧ ∀ t ∈ ts, Formed t
theorem terms_nil : Terms [] := ⟨clean_nil, fun t h => by cases h⟩
theorem putL_terms {ts : List TermL} {t : TermL} (h : Terms ts) (ht : Formed t) : Terms (putL ts t).1 := by
  refine ⟨putL_clean h.1 t, ?_⟩
  by_cases hF : Fits t.2
  · by_cases hm : t ∈ ts
    · rw [putL_old hF hm]; exact h.2
    · rw [putL_new hF hm]
      intro x hx
      rcases List.mem_append.1 hx with hx | hx
      · exact h.2 x hx
      · rw [List.mem_singleton] at hx; rw [hx]; exact ht
  · rw [putL_not hF]; exact h.2
end Go.Proofs.YtjkdonjcngmjeaaDoor.sh
/-
  The library's Repeat, CutPrefix and TrimLeft at one byte in this program: the shelf's contracts.
-/
namespace Go.Proofs.YtjkdonjcngmjeaaDoor.sh
open Go Go.RowKit Go.Shelf
set_option linter.unusedVariables false
set_option linter.unusedSimpArgs false

theorem lay105 : Lays.n105 Tryd.prog ren := { mixed := by kernel_rfl, f99 := Tryd.func53.trans (congrArg some (by kernel_rfl)), f105 := Tryd.func49.trans (congrArg some (by kernel_rfl)), f165 := Tryd.func44.trans (congrArg some (by kernel_rfl)), f166 := Tryd.func46.trans (congrArg some (by kernel_rfl)), f169 := Tryd.func47.trans (congrArg some (by kernel_rfl)), f170 := Tryd.func54.trans (congrArg some (by kernel_rfl)), f206 := Tryd.func59.trans (congrArg some (by kernel_rfl)), f212 := Tryd.func52.trans (congrArg some (by kernel_rfl)), f240 := Tryd.func50.trans (congrArg some (by kernel_rfl)), f241 := Tryd.func51.trans (congrArg some (by kernel_rfl)), f263 := Tryd.func57.trans (congrArg some (by kernel_rfl)), f264 := Tryd.func58.trans (congrArg some (by kernel_rfl)), f276 := Tryd.func55.trans (congrArg some (by kernel_rfl)), f277 := Tryd.func56.trans (congrArg some (by kernel_rfl)), t0 := Tryd.underlying0, a0 := Tryd.isAgg0, z0 := Tryd.sizeOf0, v0 := Tryd.zeroValue0, t3 := Tryd.underlying3, a3 := Tryd.isAgg3, z3 := Tryd.sizeOf3, v3 := Tryd.zeroValue3, t4 := Tryd.underlying4, a4 := Tryd.isAgg4, z4 := Tryd.sizeOf4, v4 := Tryd.zeroValue4, t5 := Tryd.underlying5, a5 := Tryd.isAgg5, z5 := Tryd.sizeOf5, v5 := Tryd.zeroValue5, t9 := Tryd.underlying9, a9 := Tryd.isAgg9, z9 := Tryd.sizeOf9, v9 := Tryd.zeroValue9, t20 := Tryd.underlying20, a20 := Tryd.isAgg20, z20 := Tryd.sizeOf20, v20 := Tryd.zeroValue20, t37 := Tryd.underlying32, a37 := Tryd.isAgg32, z37 := Tryd.sizeOf32, v37 := Tryd.zeroValue32, t46 := Tryd.underlying62, a46 := Tryd.isAgg62, z46 := Tryd.sizeOf62, v46 := Tryd.zeroValue62, t51 := Tryd.underlying45, a51 := Tryd.isAgg45, z51 := Tryd.sizeOf45, v51 := Tryd.zeroValue45, t53 := Tryd.underlying49, a53 := Tryd.isAgg49, z53 := Tryd.sizeOf49, v53 := Tryd.zeroValue49, t70 := Tryd.underlying94, a70 := Tryd.isAgg94, z70 := Tryd.sizeOf94, v70 := Tryd.zeroValue94, t72 := Tryd.underlying96, a72 := Tryd.isAgg96, z72 := Tryd.sizeOf96, v72 := Tryd.zeroValue96, t75 := Tryd.underlying99, a75 := Tryd.isAgg99, z75 := Tryd.sizeOf99, v75 := Tryd.zeroValue99, t76 := Tryd.underlying101, a76 := Tryd.isAgg101, z76 := Tryd.sizeOf101, v76 := Tryd.zeroValue101, t109 := Tryd.underlying105, a109 := Tryd.isAgg105, z109 := Tryd.sizeOf105, v109 := Tryd.zeroValue105, t127 := Tryd.underlying77, a127 := Tryd.isAgg77, z127 := Tryd.sizeOf77, v127 := Tryd.zeroValue77, t146 := Tryd.underlying111, a146 := Tryd.isAgg111, z146 := Tryd.sizeOf111, v146 := Tryd.zeroValue111, t148 := Tryd.underlying113, a148 := Tryd.isAgg113, z148 := Tryd.sizeOf113, v148 := Tryd.zeroValue113, t164 := Tryd.underlying108, a164 := Tryd.isAgg108, z164 := Tryd.sizeOf108, v164 := Tryd.zeroValue108 }
theorem sRep {l : List Nat} {c : Nat} (w : World) (hl : l.length * c ≤ 140737488355328) (hc : c ≤ 9223372036854775807) :
    Calls Tryd.prog 49 #[.string (strOf l), .int .i64 (c : Int)] w fun e w' => e = .returned (.string ⟨(Lib.repeatL ((l.map fun n => UInt8.ofNat n)) c).toArray⟩) ∧ Below w.heap.size w w' := by
  have h := Any.strings_Repeat lay105 layX (strOf l) c w hc (by rw [strOf_size]; exact hl)
  rw [sa_data] at h
  exact h
end Go.Proofs.YtjkdonjcngmjeaaDoor.sh
/-
  Names of terms: strings.TrimLeft at a byte 0, term.nameOf, term.numberOf.
-/
namespace Go.Proofs.YtjkdonjcngmjeaaDoor.sh
open Go Go.RowKit
set_option linter.unusedVariables false
set_option linter.unusedSimpArgs false

theorem map_inj8 {l m : List Nat} (hl : Bytes l) (hm : Bytes m) (h : (l.map fun n => UInt8.ofNat n) = m.map fun n => UInt8.ofNat n) : l = m := strOf_same hl hm (by rw [← strOf_mk l, ← strOf_mk m, h])
theorem bigL_num : ∀ (k n : Nat), n < 256 ^ k → bigL n k = List.replicate (k - (numT n k).length) 0 ++ numT n k
  | 0, n, h => by simp at h; subst h; rfl
  | k + 1, n, h => by
    have hd : n / 256 < 256 ^ k := by rw [Nat.pow_succ] at h; omega
    have ih := bigL_num k (n / 256) hd
    unfold bigL numT
    by_cases h0 : n = 0
    · subst h0
      rw [if_pos rfl]
      rw [show 0 / 256 = 0 from rfl, numT_zero] at ih
      rw [show 0 / 256 = 0 from rfl, ih]
      simp [List.replicate_succ']
    · rw [if_neg h0, ih, List.length_append, List.length_singleton, List.append_assoc, show k + 1 - ((numT (n / 256) k).length + 1) = k - (numT (n / 256) k).length by omega]
theorem termN_drop (n : Nat) (h : n < 18446744073709551616) : (termN n).drop 4 = List.replicate (28 - (numL n).length) 0 ++ numL n := by
  have h1 := bigL_num 8 n h
  have h2 := numL_len n
  unfold termN
  rw [List.append_assoc, List.drop_append_of_le_length (by decide), show ([116, 101, 114, 109] : List Nat).drop 4 = [] from rfl, List.nil_append, h1]
  show List.replicate 20 0 ++ (List.replicate (8 - (numL n).length) 0 ++ numL n) = _
  rw [← List.append_assoc, List.replicate_append_replicate, show 20 + (8 - (numL n).length) = 28 - (numL n).length by omega]
theorem rep_map : ∀ c : Nat, Lib.repeatL ([0].map fun n : Nat => UInt8.ofNat n) c = (List.replicate c 0).map fun n : Nat => UInt8.ofNat n
  | 0 => rfl
  | c + 1 => by
    unfold Lib.repeatL
    rw [rep_map c, List.replicate_succ]
    rfl
theorem RepD {c : Nat} {w : World} (hc : c ≤ 28) :
    Calls Tryd.prog 49 #[.string ⟨#[0]⟩, .int .i64 (c : Int)] w fun e w' => e = .returned (.string (strOf (List.replicate c 0))) ∧ Below w.heap.size w w' := by
  have h := sRep (l := [0]) (c := c) w (by simp; omega) (by omega)
  rw [rep_map, strOf_mk] at h
  exact h
set_option maxRecDepth 100000 in
set_option maxHeartbeats 1000000 in
theorem nameOfD {n : Nat} {w : World} (hn : n < 18446744073709551616) :
    Calls Tryd.prog 42 #[.int .u64 (n : Int)] w fun e w' => e = .returned (.string (strOf (termN n))) ∧ Below w.heap.size w w' := by
  have CN := NumD (w := w) hn
  have hz8 := numL_len n
  have hD := termN_drop n hn
  have hH : (termN n).take 4 = [116, 101, 114, 109] := by unfold termN; rfl
  obtain ⟨D, hDe⟩ : ∃ D, D = numL n := ⟨_, rfl⟩
  rw [← hDe] at CN hz8 hD
  obtain ⟨z, hz⟩ : ∃ z, z = D.length := ⟨_, rfl⟩
  rw [← hz] at hz8 hD
  obtain ⟨c, hc⟩ : ∃ c, c = 28 - z := ⟨_, rfl⟩
  rw [← hc] at hD
  have hc28 : c ≤ 28 := by omega
  have CR := fun w1 : World => RepD (w := w1) hc28
  obtain ⟨R, hR⟩ : ∃ R, R = List.replicate c 0 := ⟨_, rfl⟩
  rw [← hR] at CR hD
  obtain ⟨T, hT⟩ : ∃ T, T = termN n := ⟨_, rfl⟩
  rw [← hT] at hD hH ⊢
  obtain ⟨P, hP⟩ : ∃ P, P = [116, 101, 114, 109] ++ R := ⟨_, rfl⟩
  have KT : Kept (T = P ++ D) := ⟨by rw [hP, List.append_assoc, ← hD, ← hH, List.take_append_drop]⟩
  have KP : Kept _ := ⟨hP⟩
  have KZ : Kept _ := ⟨hz⟩
  have KC : Kept _ := ⟨hc⟩
  have KCN : Kept _ := ⟨CN⟩
  have KCR : Kept _ := ⟨CR⟩
  have B1 : Kept (([116, 101, 114, 109] : List Nat).length + R.length < 4611686018427387904) := ⟨by rw [hR, List.length_replicate]; simp; omega⟩
  have B2 : Kept (P.length + D.length < 4611686018427387904) := ⟨by rw [hP, hR, List.length_append, List.length_replicate, ← hz]; simp; omega⟩
  clear hD hH hDe hz hc hR hT hP CN CR
  go_enter Tryd.func42, Tryd.ntmps42
  go_wp2_with fail
  refine KCN.out.mono ?_
  rintro e w1 ⟨rfl, q1⟩
  go_wp2_with (first | ((with_reducible refine wv_val (d := 7) ?hd ?hw (.int .i64 (z : Int)) ?hr ?_); (case hd => rfl); (case hw => kernel_rfl); (case hr => intro w; exact run_slen rfl (by kernel_rfl) KZ.out w); simp only [Act.put, List.setIfInBounds_toArray, List.set_cons_succ, List.set_cons_zero]) | ((with_reducible refine wv_val (d := 8) ?hd ?hw (.int .i64 (c : Int)) ?hr ?_); (case hd => rfl); (case hw => kernel_rfl); (case hr => intro w; exact run_subC 28 rfl (by kernel_rfl) KC.out (by omega) (by decide) w); simp only [Act.put, List.setIfInBounds_toArray, List.set_cons_succ, List.set_cons_zero]))
  refine (KCR.out w1).mono ?_
  rintro e w2 ⟨rfl, q2⟩
  go_wp2_with (first | ((with_reducible refine wv_val (d := 10) ?hd ?hw (.string (strOf P)) ?hr ?_); (case hd => rfl); (case hw => kernel_rfl); (case hr => intro w; exact run_scat (l := [116, 101, 114, 109]) rfl (by kernel_rfl) (by kernel_rfl) B1.out KP.out w); simp only [Act.put, List.setIfInBounds_toArray, List.set_cons_succ, List.set_cons_zero]) | ((with_reducible refine wv_val (d := 12) ?hd ?hw (.string (strOf T)) ?hr ?_); (case hd => rfl); (case hw => kernel_rfl); (case hr => intro w; exact run_scat rfl (by kernel_rfl) (by kernel_rfl) B2.out KT.out w); simp only [Act.put, List.setIfInBounds_toArray, List.set_cons_succ, List.set_cons_zero]))
  go_ret
  exact ⟨rfl, q1.trans (q2.mono q1.size)⟩

end Go.Proofs.YtjkdonjcngmjeaaDoor.sh
/-
  What a table of terms is in memory: a struct, a map, a slice; what calls leave of it; (*Table).made.
-/
namespace Go.Proofs.YtjkdonjcngmjeaaDoor.sh
open Go Go.RowKit Go.Maps
set_option linter.unusedVariables false
set_option linter.unusedSimpArgs false

/-- A term that a table may have. -/
def GoodT (t : TermL) : Prop := t.1 < 256 ∧ (∀ p ∈ t.2, Bytes p) ∧ Fits t.2
def keyL (t : TermL) : List Nat := joinL t.1 t.2
def litL (l : List Nat) : Lit := .string (l.map fun n => UInt8.ofNat n)
theorem keyL_bytes {t : TermL} (h : GoodT t) : Bytes (keyL t) := joinL_bytes h.1 h.2.1 h.2.2
theorem keyL_inj {t u : TermL} (h : GoodT t) (h2 : GoodT u) (e : litL (keyL t) = litL (keyL u)) : t = u := by
  unfold litL at e
  have := map_inj8 (keyL_bytes h) (keyL_bytes h2) (by simpa using e)
  obtain ⟨e1, e2⟩ := join_one this
  exact Prod.ext e1 e2
theorem good_of {t : TermL} (h : Formed t) (hF : Fits t.2) : GoodT t := by
  refine ⟨?_, h.1, hF⟩
  rcases h.2 with ⟨e, _⟩ | ⟨e, _⟩ | ⟨e, _⟩ | e | e <;> omega
theorem good_mem {ts : List TermL} (h : Terms ts) {t : TermL} (ht : t ∈ ts) : GoodT t := good_of (h.2 t ht) (h.1.2 t ht)
/-- The numbers of terms as a map: the last one first. -/
def numR : List TermL → DataW Unit
  | [] => .map []
  | t :: r => (numR r).put (litL (keyL t)) (.lit (.int .u64 ((r.length + 1 : Nat) : Int)))
def numD (ts : List TermL) : DataW Unit := numR ts.reverse
theorem numD_snoc (ts : List TermL) (t : TermL) : numD (ts ++ [t]) = (numD ts).put (litL (keyL t)) (.lit (.int .u64 ((ts.length + 1 : Nat) : Int))) := by
  unfold numD
  rw [List.reverse_append]
  show (numR ts.reverse).put _ (.lit (.int .u64 ((ts.reverse.length + 1 : Nat) : Int))) = _
  rw [List.length_reverse]
theorem numR_isMap : ∀ r : List TermL, IsMap (numR r)
  | [] => isMap_empty
  | t :: r => (numR_isMap r).put _ _
theorem isKey_lit (l : List Nat) : WideAt.IsKeyLit (litL l) := trivial
theorem numR_has : ∀ (r : List TermL), (∀ t ∈ r, GoodT t) → ∀ u, GoodT u → Maps.has (numR r) (litL (keyL u)) = decide (u ∈ r)
  | [], _, u, _ => rfl
  | t :: r, h, u, hu => by
    have hr := numR_has r (fun x hx => h x (List.mem_cons_of_mem _ hx)) u hu
    show Maps.has ((numR r).put (litL (keyL t)) _) _ = _
    by_cases e : u = t
    · subst e
      rw [has_put_same (numR_isMap r) (isKey_lit _), decide_eq_true List.mem_cons_self]
    · rw [has_put_other (fun e2 => e (keyL_inj hu (h t List.mem_cons_self) e2)), hr]
      exact decide_eq_decide.2 ⟨fun h => List.mem_cons_of_mem _ h, fun h => by
        rcases List.mem_cons.1 h with h | h
        · exact absurd h e
        · exact h⟩
theorem numR_at : ∀ (r : List TermL), (∀ t ∈ r, GoodT t) → r.Nodup → ∀ u ∈ r, ∀ z, (numR r).atKey (litL (keyL u)) z = .lit (.int .u64 ((r.reverse.idxOf u + 1 : Nat) : Int))
  | [], _, _, u, hu, _ => by cases hu
  | t :: r, h, hn, u, hu, z => by
    rw [List.nodup_cons] at hn
    show DataW.atKey ((numR r).put (litL (keyL t)) _) _ z = _
    by_cases e : u = t
    · subst e
      rw [atKey_put_same (numR_isMap r) (isKey_lit _), List.reverse_cons, List.idxOf_append, if_neg (by simpa using hn.1), List.length_reverse]
      simp
    · have hu2 : u ∈ r := by
        rcases List.mem_cons.1 hu with h | h
        · exact absurd h e
        · exact h
      have hr := numR_at r (fun x hx => h x (List.mem_cons_of_mem _ hx)) hn.2 u hu2 z
      rw [atKey_put_other (fun e2 => e (keyL_inj (h u hu) (h t List.mem_cons_self) e2)), hr, List.reverse_cons, List.idxOf_append, if_pos (by simpa using hu2)]
theorem numD_has {ts : List TermL} (h : Terms ts) {u : TermL} (hu : GoodT u) : Maps.has (numD ts) (litL (keyL u)) = decide (u ∈ ts) := by
  unfold numD
  rw [numR_has _ (fun t ht => good_mem h (by simpa using ht)) u hu]
  exact decide_eq_decide.2 (by simp)
theorem numD_at {ts : List TermL} (h : Terms ts) {u : TermL} (hu : u ∈ ts) (z : DataW Unit) : (numD ts).atKey (litL (keyL u)) z = .lit (.int .u64 ((ts.idxOf u + 1 : Nat) : Int)) := by
  unfold numD
  rw [numR_at _ (fun t ht => good_mem h (by simpa using ht)) ((List.reverse_perm ts).symm.nodup h.1.1) u (by simpa using hu) z, List.reverse_reverse]

/-- Blocks below w's size, but for M, are what they were. -/
structure Out (M : Nat → Prop) (w w' : World) : Prop where
  os : w'.os = w.os
  tape : w'.tape = w.tape
  output : w'.output = w.output
  size : w.heap.size ≤ w'.heap.size
  block : ∀ k, k < w.heap.size → ¬ M k → w'.heap[k]? = w.heap[k]?
/-- .. and M' has no block that was there and not M's. -/
def Turn (M : Nat → Prop) (w : World) (M' : Nat → Prop) (w' : World) : Prop := Out M w w' ∧ ∀ b, M' b → M b ∨ w.heap.size ≤ b
theorem Turn.of_below {M : Nat → Prop} {w w' : World} (h : Below w.heap.size w w') : Turn M w M w' := ⟨⟨h.os, h.tape, h.output, h.size, fun k hk _ => h.block k hk⟩, fun b hb => .inl hb⟩
theorem Turn.refl (M : Nat → Prop) (w : World) : Turn M w M w := Turn.of_below (Below.refl _ _)
theorem Turn.trans {M M1 M2 : Nat → Prop} {w w1 w2 : World} (h : Turn M w M1 w1) (h2 : Turn M1 w1 M2 w2) : Turn M w M2 w2 :=
  ⟨⟨h2.1.os.trans h.1.os, h2.1.tape.trans h.1.tape, h2.1.output.trans h.1.output, Nat.le_trans h.1.size h2.1.size, fun k hk hM => (h2.1.block k (Nat.lt_of_lt_of_le hk h.1.size) (fun hk1 => by
      rcases h.2 k hk1 with h | h
      · exact hM h
      · omega)).trans (h.1.block k hk hM)⟩, fun b hb => by
    rcases h2.2 b hb with h3 | h3
    · exact h.2 b h3
    · exact .inr (Nat.le_trans h.1.size h3)⟩
theorem Turn.size {M M' : Nat → Prop} {w w' : World} (h : Turn M w M' w') : w.heap.size ≤ w'.heap.size := h.1.size
theorem Turn.not {M M' : Nat → Prop} {w w' : World} (h : Turn M w M' w') {b : Nat} (hb : ¬ M b) (hl : b < w.heap.size) : ¬ M' b := fun h2 => by
  rcases h.2 b h2 with h3 | h3
  · exact hb h3
  · omega
theorem Turn.blk {M M' : Nat → Prop} {w w' : World} (h : Turn M w M' w') {g : Nat} {t : TypeId} {A : Array Value} (hb : Blk w g t A) (hM : ¬ M g) : Blk w' g t A := (h.1.block g hb.lt hM).trans hb
theorem Turn.vals {M M' : Nat → Prop} {w w' : World} (h : Turn M w M' w') {vs : List Value} {v : Value} (hr : ValsV v w vs) (hM : ∀ b, blkOf v = some b → ¬ M b) : ValsV v w' vs := by
  obtain ⟨p, c, rfl, hlc, hp⟩ := hr
  refine ⟨p, c, rfl, hlc, fun hne => ?_⟩
  obtain ⟨A, rfl, hA, hc⟩ := hp hne
  exact ⟨A, rfl, Nat.lt_of_lt_of_le hA h.size, fun j x hx => (World.cell?_of_block (by rw [add_block]; exact h.1.block _ hA (hM _ rfl))).trans (hc j x hx)⟩

/-- The struct, the map and the slice of a table. -/
def TabAt (tb B mb : Nat) (v : Value) (ts : List TermL) (M : Nat → Prop) (w : World) : Prop :=
  Blk w tb 44 #[.map (some mb), v] ∧ (B ≤ tb ∧ B ≤ mb ∧ tb ≠ mb) ∧ w.ownsMap Tryd.prog 9 (plainElem (H := Unit) Tryd.prog 49) mb ts.length (numD ts) ∧ VRow B 9 (strs (ts.map keyL)) v w ∧ (blkOf v ≠ some tb ∧ blkOf v ≠ some mb) ∧ ∀ b, M b ↔ (b = tb ∨ b = mb ∨ blkOf v = some b)
/-- A table that has these terms; M: its blocks, all from B on. -/
structure Tab (tb B : Nat) (ts : List TermL) (M : Nat → Prop) (w : World) : Prop where
  at' : ∃ mb v, TabAt tb B mb v ts M w
  terms : Terms ts
theorem Tab.range {tb B : Nat} {ts : List TermL} {M : Nat → Prop} {w : World} (h : Tab tb B ts M w) {b : Nat} (hb : M b) : B ≤ b ∧ b < w.heap.size := by
  obtain ⟨mb, v, h1, h2, h3, h4, h5, h6⟩ := h.at'
  rcases (h6 b).1 hb with rfl | rfl | hb
  · exact ⟨h2.1, h1.lt⟩
  · exact ⟨h2.2.1, h3.lt⟩
  · exact h4.range b hb
theorem TabAt.under {tb B mb : Nat} {v : Value} {ts : List TermL} {M : Nat → Prop} {w w' : World} (h : TabAt tb B mb v ts M w) (hb : Below w.heap.size w w') : TabAt tb B mb v ts M w' := by
  obtain ⟨h1, h2, h3, h4, h5, h6⟩ := h
  exact ⟨h1.under hb, h2, h3.kept (row := none) (grown_none hb) (by simp), h4.under hb, h5, h6⟩
theorem Tab.under {tb B : Nat} {ts : List TermL} {M : Nat → Prop} {w w' : World} (h : Tab tb B ts M w) (hb : Below w.heap.size w w') : Tab tb B ts M w' := by
  obtain ⟨mb, v, h1⟩ := h.at'
  exact ⟨⟨mb, v, h1.under hb⟩, h.terms⟩
theorem Tab.below {tb B : Nat} {ts : List TermL} {M M' : Nat → Prop} {w w' : World} (h : Tab tb B ts M w) (ht : Turn M w M' w') : Below B w w' :=
  ⟨ht.1.os, ht.1.tape, ht.1.output, ht.1.size, fun k hk => by
    obtain ⟨mb, v, h1, h2, _⟩ := h.at'
    have hlt := h1.lt
    exact ht.1.block k (by have := h2.1; omega) (fun hM => by have := (h.range hM).1; omega)⟩
theorem Tab.ptr {tb B : Nat} {ts : List TermL} {M : Nat → Prop} {w : World} (h : Tab tb B ts M w) : tb < w.heap.size := by
  obtain ⟨mb, v, h1, _⟩ := h.at'
  exact h1.lt

section
variable {ops : Array Oper} {rest : List Oper} {o : Oper} {a : Act} {w : World} {Q : Exit → Act → World → Prop}
theorem law_str : Keyed Tryd.prog 9 := string_keyed Tryd.underlying9
theorem zero_u64 (w : World) : (zeroValue 49).run Tryd.prog w = .ok (.int .u64 0) w := by kernel_rfl
theorem key_lit {l : List Nat} (hl : l.length ≤ maxLen) : keyOf Tryd.prog 9 (.string (strOf l)) = some (litL l) := by
  have h := WideMaps.keyOf_string_mk (P := Tryd.prog) (k := 9) Tryd.underlying9 (s := strOf l) (by rw [strOf_size]; exact hl)
  rw [sa_data] at h
  exact h
/-- 'n, had := m[s]'. -/
theorem wl_lookT (hg : o.guard = none) (m x : Operand) (ho : o.op = Op.lookup 42 m x true) (mb n : Nat) (D : DataW Unit) (hm : a.eval m = .map (some mb)) (hown : w.ownsMap Tryd.prog 9 (plainElem (H := Unit) Tryd.prog 49) mb n D)
    (J : List Nat) (hx : a.eval x = .string (strOf J)) (hJ : J.length ≤ maxLen) (c : Nat) (b : Bool) (hb : Maps.has D (litL J) = b) (hc : D.atKey (litL J) (.lit (.int .u64 0)) = .lit (.int .u64 (c : Int)))
    (h : wpList Tryd.prog ops Q rest (a.put o.dst (.tuple #[.int .u64 (c : Int), .bool b])) w) : wpList Tryd.prog ops Q (o :: rest) a w :=
  wpList_lookup_own_ok_int w hg m x 42 ho 9 49 .u64 law_str Tryd.underlying42 Tryd.underlying49 (zero_u64 w) mb n D hm hown _ _ hx (key_lit hJ) fun c' hat _ => by
    rw [hc] at hat
    simp only [DataW.lit.injEq, Lit.int.injEq, true_and] at hat
    subst hat
    rw [hb]
    exact h
/-- 'm[s] = n'. -/
theorem wl_updT (hg : o.guard = none) (m x y : Operand) (ho : o.op = Op.mapUpdate 42 m x y) (mb n : Nat) (D : DataW Unit) (hm : a.eval m = .map (some mb)) (hown : w.ownsMap Tryd.prog 9 (plainElem (H := Unit) Tryd.prog 49) mb n D) (hn : n < 1000001)
    (J : List Nat) (hx : a.eval x = .string (strOf J)) (hJ : J.length ≤ maxLen) (c : Nat) (hy : a.eval y = .int .u64 (c : Int)) (hc : c < 1000001)
    (h : ∀ w', w'.ownsMap Tryd.prog 9 (plainElem (H := Unit) Tryd.prog 49) mb (n + 1) (D.put (litL J) (.lit (.int .u64 (c : Int)))) → w.grownBy w' (some mb) → w.heap.size = w'.heap.size → wpList Tryd.prog ops Q rest (a.put o.dst undef) w') : wpList Tryd.prog ops Q (o :: rest) a w :=
  wpList_mapUpdate_in w hg m x y 42 ho 9 49 law_str Tryd.underlying42 (plainElem Tryd.prog 49) mb n D hm hown (by unfold maxLen; omega) _ _ _ hx hy (key_lit hJ) _ [] (plainElem_int Tryd.underlying49 (by simp [Lit.wf, IntKind.min, IntKind.max, IntKind.signed, IntKind.bits]; omega)) fun w' h1 h2 => h w' h1 h2.grown (by
    obtain ⟨es, ck, es', ck', _, rfl⟩ := h2
    simp [ChangeMaps.setBlock])
end
theorem run_c3U {o : Oper} {a : Act} {x : Operand} {n : Nat} (ho : o.op = .convert 3 49 x) (hx : a.eval x = .int .i64 (n : Int)) (hn : n < 4611686018427387904) (w : World) : (execOp a.eval o).run Tryd.prog w = .ok (.value (.int .u64 (n : Int))) w := by
  unfold execOp
  simp only [ho, hx]
  simp [go_sem, IntKind.wrap_u64]
  omega
theorem run_mneq {o : Oper} {a : Act} {x : Operand} {u : TypeId} {p : Option Nat} {b : Bool} (ho : o.op = .binOp .neq 42 x (.const (.map none)) u) (hx : a.eval x = .map p) (hb : b = p.isSome) (w : World) : (execOp a.eval o).run Tryd.prog w = .ok (.value (.bool b)) w := by
  have e3 : a.eval (.const (.map none)) = .map none := rfl
  unfold execOp
  simp only [ho, hx, e3]
  rw [hb]
  have h := run_neq_map_nil w 42 _ _ p Tryd.underlying42
  simp [go_sem, h]
  try (cases p <;> rfl)
theorem ag_map : ∀ w, (isAgg 42).run Tryd.prog w = .ok false w := Tryd.isAgg42

set_option maxRecDepth 100000 in
set_option maxHeartbeats 1000000 in
theorem madeD {tb mb : Nat} {v : Value} {w : World} (h : Blk w tb 44 #[.map (some mb), v]) :
    Calls Tryd.prog 39 #[.pointer (some ⟨tb, 0, none⟩)] w fun e w' => e = .returned (.bool true) ∧ w' = w := by
  have c0 : Kept (w.cell? ⟨tb, 0, none⟩ = some (.map (some mb))) := ⟨h.cell rfl⟩
  clear h
  go_enter Tryd.func39, Tryd.ntmps39
  go_wp2_with (first | ((with_reducible refine wv_elem (d := 9) ?hd ?hw 42 ag_map (.tmp 8) ?ho (⟨tb, 0, none⟩) ?hx (.map (some mb)) ?hc ?_); (case hd => rfl); (case hw => kernel_rfl); (case ho => rfl); (case hx => kernel_rfl); (case hc => exact c0.out); simp only [Act.put, List.setIfInBounds_toArray, List.set_cons_succ, List.set_cons_zero]) | ((with_reducible refine wv_val (d := 10) ?hd ?hw (.bool true) ?hr ?_); (case hd => rfl); (case hw => kernel_rfl); (case hr => intro w; exact run_mneq (p := some mb) rfl (by kernel_rfl) rfl w); simp only [Act.put, List.setIfInBounds_toArray, List.set_cons_succ, List.set_cons_zero]))
  go_ret
  exact ⟨rfl, rfl⟩
/-- A table that no call made. -/
def Nobody (p : Option Addr) (w : World) : Prop := p = none ∨ ∃ b, p = some ⟨b, 0, none⟩ ∧ Blk w b 44 #[.map none, .slice none 0 0]
theorem Nobody.under {p : Option Addr} {w w' : World} (h : Nobody p w) (hb : Below w.heap.size w w') : Nobody p w' := by
  rcases h with h | ⟨b, h1, h2⟩
  · exact .inl h
  · exact .inr ⟨b, h1, h2.under hb⟩
set_option maxRecDepth 100000 in
set_option maxHeartbeats 1000000 in
theorem NewD {w : World} :
    Calls Tryd.prog 7 #[] w fun e w' => (∃ tb M, e = .returned (.pointer (some ⟨tb, 0, none⟩)) ∧ Tab tb w.heap.size [] M w') ∧ Below w.heap.size w w' := by
  have hmm := @run_makeMap Tryd.prog
  have fin : ∀ w2, w2 = (w.alloc (.map #[] 0)).alloc (.cells #[.map (some w.heap.size), .slice none 0 0] 44) → (∃ tb M, Ending.returned (.pointer (some ⟨w.heap.size + 1, 0, none⟩)) = .returned (.pointer (some ⟨tb, 0, none⟩)) ∧ Tab tb w.heap.size [] M w2) ∧ Below w.heap.size w w2 := fun w2 h => by
    subst h
    have hs : (w.alloc (.map #[] 0)).heap.size = w.heap.size + 1 := by simp
    refine ⟨⟨w.heap.size + 1, fun b => b = w.heap.size + 1 ∨ b = w.heap.size, rfl, ⟨⟨w.heap.size, .slice none 0 0, ?_, ⟨by omega, by omega, by omega⟩, ?_, vrow_nil _ _ _, ⟨by simp [blkOf], by simp [blkOf]⟩, fun b => by simp [blkOf]⟩, terms_nil⟩⟩, ?_⟩
    · rw [← hs]; exact blk_new _ _ _
    · exact (World.ownsMap_made w _ _ _).alloc _
    · exact ((Below.refl _ _).alloc (Nat.le_refl _) _).alloc (by rw [hs]; omega) _
  have KF : Kept _ := ⟨fin⟩
  clear fin
  go_enter Tryd.func7, Tryd.ntmps7
  go_wp2_with fail
  go_ret
  exact KF.out _ rfl
end Go.Proofs.YtjkdonjcngmjeaaDoor.sh
