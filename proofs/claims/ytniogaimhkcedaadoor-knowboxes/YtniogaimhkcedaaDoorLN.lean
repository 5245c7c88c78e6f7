/-
  What the statements of boxes, shared secrets and hashes add to a table; names that are left out.
-/
import Derived.Test.YtniogaimhkcedaaDoorLM
namespace Go.Proofs.YtniogaimhkcedaaDoor.sh
open Go Go.RowKit
set_option linter.unusedVariables false
set_option linter.unusedSimpArgs false

theorem termN_ne9 {i j : Nat} (hi : i < 1000000) (hj : j < 1000000) (h : i ≠ j) : termN i ≠ termN j := fun e => h (termN_inj (by omega) (by omega) e)
/-- Whether a text is none of these. -/
def keepF (es : List (List Nat)) (s : List Nat) : Bool := es.all fun e => !decide (s = e)
def fltL (es gl : List (List Nat)) : List (List Nat) := gl.filter (keepF es)
theorem fltL_snoc {es gl : List (List Nat)} {i : Nat} {s : List Nat} (h : gl[i]? = some s) : fltL es (gl.take (i + 1)) = fltL es (gl.take i) ++ (if keepF es s = true then [s] else []) := by
  unfold fltL
  rw [List.take_add_one, h, Option.toList_some, List.filter_append]
  congr 1
  cases hh : keepF es s <;> simp [hh]
theorem keepF_true {es : List (List Nat)} {s : List Nat} (h : ∀ e ∈ es, s ≠ e) : keepF es s = true := List.all_eq_true.2 fun e he => by simp [h e he]
theorem keepF_false {es : List (List Nat)} {s e : List Nat} (he : e ∈ es) (h : s = e) : keepF es s = false := by
  cases hh : keepF es s with
  | false => rfl
  | true =>
    have := List.all_eq_true.1 hh e he
    simp [h] at this
theorem fltL_mem {es gl : List (List Nat)} {s : List Nat} (h : s ∈ fltL es gl) : s ∈ gl ∧ ∀ e ∈ es, s ≠ e := by
  obtain ⟨h1, h2⟩ := List.mem_filter.1 h
  refine ⟨h1, fun e he hse => ?_⟩
  rw [keepF_false he hse] at h2
  cases h2
theorem fltL_len (es gl : List (List Nat)) : (fltL es gl).length ≤ gl.length := List.length_filter_le _ _
theorem elder_flt {K : Nat} {es gl : List (List Nat)} (hg : Elder (K + 4) gl) (hs : ∀ j, j < 4 → termN (K + j + 1) ∈ es) : Elder K (fltL es gl) := fun s hm => by
  obtain ⟨h1, h2⟩ := fltL_mem hm
  obtain ⟨j, hj, rfl⟩ := hg s h1
  refine ⟨j, ?_, rfl⟩
  rcases Nat.lt_or_ge j K with h | h
  · exact h
  · exact absurd (by rw [show K + (j - K) + 1 = j + 1 by omega]) (h2 _ (hs (j - K) (by omega)))
theorem tells_true {ts : List TermL} {told : List (List Nat)} {b : List Bool} {s : List Nat} (hb : IsK ts told b) (h : KnownS ts (KN ts told) s) : Tells true (KnownS ts (hadP b) s) := ⟨fun _ n hn => (hb.2 n).2 (h n hn), fun _ => rfl⟩
theorem tells_false {ts : List TermL} {told : List (List Nat)} {b : List Bool} {s : List Nat} (hb : IsK ts told b) (h : ¬ KnownS ts (KN ts told) s) : Tells false (KnownS ts (hadP b) s) := ⟨fun e => (by cases e), fun h2 => absurd (fun n hn => (hb.2 n).1 (h2 n hn)) h⟩
theorem at_true {ts : List TermL} {told : List (List Nat)} {b : List Bool} {n : Nat} (hb : IsK ts told b) (hl : ts.length < 1000000) (h : KN ts told n) : Tells true (KnownS ts (hadP b) (termN (n + 1))) := tells_true hb ((known_at hl (kn_lt h)).2 h)
theorem at_false {ts : List TermL} {told : List (List Nat)} {b : List Bool} {n : Nat} (hb : IsK ts told b) (hl : ts.length < 1000000) (hn : n < ts.length) (h : ¬ KN ts told n) : Tells false (KnownS ts (hadP b) (termN (n + 1))) := tells_false hb fun h2 => h ((known_at hl hn).1 h2)
/-- A secret text: too long for the acts. -/
structure OwnS (s : List Nat) : Prop where
  bytes : Bytes s
  big : 300 < s.length
  small : s.length ≤ 4000
theorem own_ok {s : List Nat} (h : s.all (fun x => decide (x < 256)) = true) (h0 : 0 < s.length) (h1 : s.length ≤ 400) : OwnS (ownL s) where
  bytes := ownL_bytes (bytes_of_all fun x hx => by simpa using List.all_eq_true.1 h x hx)
  big := by rw [ownL_len]; omega
  small := by rw [ownL_len]; omega
theorem OwnS.max {s : List Nat} (h : OwnS s) : s.length ≤ maxLen := by have := h.small; unfold maxLen; omega
theorem ownL_ne {s t : List Nat} (h : s.length ≠ t.length) : ownL s ≠ ownL t := fun e => by
  have := congrArg List.length e
  rw [ownL_len, ownL_len] at this
  omega
theorem TermsB.atom {ts us : List TermL} {s N : List Nat} (h : TermsB ts) (hs : Bytes s) (hp : putL ts (1, [s]) = (us, N)) : TermsB us := by
  have := h.put (t := (1, [s])) ⟨fun p hp => by rw [List.mem_singleton.1 hp]; exact hs, .inl ⟨rfl, _, rfl⟩⟩ (fun e => by cases e)
  rwa [hp] at this
theorem TermsB.pub {ts us : List TermL} {s N : List Nat} (h : TermsB ts) (hs : Bytes s) (hp : putL ts (2, [s]) = (us, N)) : TermsB us := by
  have := h.put (t := (2, [s])) ⟨fun p hp => by rw [List.mem_singleton.1 hp]; exact hs, .inr (.inl ⟨rfl, _, rfl⟩)⟩ (fun e => by cases e)
  rwa [hp] at this
theorem TermsB.dh {ts us : List TermL} {a y N : List Nat} (h : TermsB ts) (ha : Bytes a) (hy : Bytes y) (hp : putL ts (3, sort2 a y) = (us, N)) : TermsB us := by
  have := h.put (t := (3, sort2 a y)) ⟨sort2_bytes ha hy, .inr (.inr (.inl ⟨rfl, sort2_two a y⟩))⟩ (fun e => by cases e)
  rwa [hp] at this
theorem TermsB.hash {ts us : List TermL} {ll : List (List Nat)} {N : List Nat} (h : TermsB ts) (hl : ∀ l ∈ ll, Bytes l) (hp : putL ts (4, ll) = (us, N)) : TermsB us := by
  have := h.put (t := (4, ll)) ⟨hl, .inr (.inr (.inr (.inl rfl)))⟩ (fun e => by cases e)
  rwa [hp] at this
theorem TermsB.seal {ts us : List TermL} {k n a x N : List Nat} (h : TermsB ts) (hl : ∀ l ∈ [k, n, a, x], Bytes l) (hp : putL ts (5, [k, n, a, x]) = (us, N)) : TermsB us := by
  have := h.put (t := (5, [k, n, a, x])) ⟨hl, .inr (.inr (.inr (.inr rfl)))⟩ (fun _ => ⟨_, _, _, _, rfl⟩)
  rwa [hp] at this

section
variable {ts : List TermL} (hK : TermsK ts) (hlow : LowT ts) (hN : ts.length ≤ 1000)
/-- KnowBoxes: what is added. -/
structure BoxX (ts u1 u2 u3 u4 : List TermL) (ka xa ya s : List Nat) : Prop where
  p1 : putL ts (1, [ka]) = (u1, termN (ts.length + 1))
  p2 : putL u1 (1, [xa]) = (u2, termN (ts.length + 2))
  p3 : putL u2 (1, [ya]) = (u3, termN (ts.length + 3))
  p4 : putL u3 (5, [termN (ts.length + 1), numL 7, s, joinL 3 [termN (ts.length + 2), termN (ts.length + 3), s]]) = (u4, termN (ts.length + 4))
  added : Added ts (boxT ts.length ka xa ya s) u4
  terms : TermsB u4
  l1 : u1.length = ts.length + 1
  l2 : u2.length = ts.length + 2
  l3 : u3.length = ts.length + 3
  l4 : u4.length = ts.length + 4
include hK hlow hN
theorem boxX {ka xa ya s : List Nat} (hk : OwnS ka) (hx : OwnS xa) (hy : OwnS ya) (n1 : xa ≠ ka) (n2 : ya ≠ ka) (n3 : ya ≠ xa) (hs : Bytes s) (hl : s.length ≤ 300) : ∃ u1 u2 u3 u4, BoxX ts u1 u2 u3 u4 ka xa ya s := by
  have p1 := atom_new hK hk.big hk.small
  have p2 := atom_more (more := [(1, [ka])]) hK hx.big hx.small (by simp [n1])
  have p3 := atom_more (more := [(1, [ka]), (1, [xa])]) hK hy.big hy.small (by simp [n2, n3])
  have hF : Fits [termN (ts.length + 1), numL 7, s, joinL 3 [termN (ts.length + 2), termN (ts.length + 3), s]] := fits_small (by simp) (fun l h => by
    simp only [List.mem_cons, List.not_mem_nil, or_false] at h
    rcases h with rfl | rfl | rfl | rfl
    · rw [termN_len]; decide
    · decide
    · omega
    · rw [joinL_len, itemsL_len]
      have h1 := termN_len (ts.length + 2)
      have h2 := termN_len (ts.length + 3)
      simp
      omega)
  have p4 := low_more (more := [(1, [ka]), (1, [xa]), (1, [ya])]) (t := (5, [termN (ts.length + 1), numL 7, s, joinL 3 [termN (ts.length + 2), termN (ts.length + 3), s]])) (j := 0) hlow hF (by simp; omega) (by simp) rfl (by simp) (by simp)
  have t1 := hK.toB.atom hk.bytes p1
  have t2 := t1.atom hx.bytes p2
  have t3 := t2.atom hy.bytes p3
  have t4 := t3.seal (fun l h => by
    simp only [List.mem_cons, List.not_mem_nil, or_false] at h
    rcases h with rfl | rfl | rfl | rfl
    · exact termN_bytes _
    · exact numL_bytes _
    · exact hs
    · exact joinL_bytes (by decide) (fun l h => by
        simp only [List.mem_cons, List.not_mem_nil, or_false] at h
        rcases h with rfl | rfl | rfl
        · exact termN_bytes _
        · exact termN_bytes _
        · exact hs) (fits_both hl)) p4
  exact ⟨_, _, _, _, ⟨p1, p2, p3, p4, ⟨rfl, hlow, by simp; omega⟩, t4, by simp, by simp, by simp, by simp⟩⟩
/-- KnowShared: what is added. -/
structure SharedX (ts u1 u2 u3 u4 u5 u6 : List TermL) (aa ba o : List Nat) : Prop where
  p1 : putL ts (1, [aa]) = (u1, termN (ts.length + 1))
  p2 : putL u1 (1, [ba]) = (u2, termN (ts.length + 2))
  p3 : putL u2 (2, [termN (ts.length + 1)]) = (u3, termN (ts.length + 3))
  p4 : putL u3 (2, [termN (ts.length + 2)]) = (u4, termN (ts.length + 4))
  p5 : dhL u4 (termN (ts.length + 1)) (termN (ts.length + 4)) = (u5, termN (ts.length + 5), true)
  p6 : putL u5 (4, [o, termN (ts.length + 5)]) = (u6, termN (ts.length + 6))
  added : Added ts (sharedT ts.length aa ba o) u6
  terms : TermsB u6
  l1 : u1.length = ts.length + 1
  l2 : u2.length = ts.length + 2
  l3 : u3.length = ts.length + 3
  l4 : u4.length = ts.length + 4
  l5 : u5.length = ts.length + 5
  l6 : u6.length = ts.length + 6
omit hK hlow hN in
theorem mem_sort2 (a y : List Nat) : a ∈ sort2 a y := by
  rcases sort2_or a y with e | e <;> rw [e] <;> simp
omit hK hlow hN in
theorem sort2_fits {a y : List Nat} (ha : a.length ≤ 400) (hy : y.length ≤ 400) : Fits (sort2 a y) := by
  rcases sort2_or a y with e | e <;> rw [e] <;> exact fits_small (by simp) (fun l h => by
    simp only [List.mem_cons, List.not_mem_nil, or_false] at h
    rcases h with rfl | rfl <;> omega)
theorem sharedX {aa ba o : List Nat} (ha : OwnS aa) (hb : OwnS ba) (n1 : ba ≠ aa) (ho : Bytes o) (hol : o.length ≤ 300) : ∃ u1 u2 u3 u4 u5 u6, SharedX ts u1 u2 u3 u4 u5 u6 aa ba o := by
  have L := fun n => (termN_len n)
  have L4 : ∀ n, (termN n).length ≤ 400 := fun n => by rw [termN_len]; decide
  have F1 : ∀ n, Fits [termN n] := fun n => fits_small (by simp) (fun l h => by rw [List.mem_singleton.1 h]; exact L4 n)
  have p1 := atom_new hK ha.big ha.small
  have p2 := atom_more (more := [(1, [aa])]) hK hb.big hb.small (by simp [n1])
  have p3 := low_more (more := [(1, [aa]), (1, [ba])]) (t := (2, [termN (ts.length + 1)])) (j := 0) hlow (F1 _) (by simp; omega) (by simp) rfl (by simp) (by simp)
  have p4 := low_more (more := [(1, [aa]), (1, [ba]), (2, [termN (ts.length + 1)])]) (t := (2, [termN (ts.length + 2)])) (j := 1) hlow (F1 _) (by simp; omega) (by simp) rfl (by simp) (by simp [termN_ne9 (i := ts.length + 2) (j := ts.length + 1) (by omega) (by omega) (by omega)])
  have hx : partX (ts ++ [(1, [aa]), (1, [ba]), (2, [termN (ts.length + 1)]), (2, [termN (ts.length + 2)])]) (termN (ts.length + 4)) = some (2, [termN (ts.length + 2)]) := by
    rw [show ts.length + 4 = ts.length + 3 + 1 by omega, partX_name (by simp) (by simp; omega), List.getElem?_append_right (by omega), show ts.length + 3 - ts.length = 3 by omega]
    rfl
  have p5' := low_more (more := [(1, [aa]), (1, [ba]), (2, [termN (ts.length + 1)]), (2, [termN (ts.length + 2)])]) (t := (3, sort2 (termN (ts.length + 1)) (termN (ts.length + 2)))) (j := 0) hlow (sort2_fits (L4 _) (L4 _)) (by simp; omega) (by simp) rfl (mem_sort2 _ _) (by simp)
  have p5 := dhL_two (a := termN (ts.length + 1)) hx
  rw [p5'] at p5
  have p6 := low_more (more := [(1, [aa]), (1, [ba]), (2, [termN (ts.length + 1)]), (2, [termN (ts.length + 2)]), (3, sort2 (termN (ts.length + 1)) (termN (ts.length + 2)))]) (t := (4, [o, termN (ts.length + 5)])) (j := 4) hlow (fits_small (by simp) (fun l h => by
    simp only [List.mem_cons, List.not_mem_nil, or_false] at h
    rcases h with rfl | rfl
    · omega
    · exact L4 _)) (by simp; omega) (by simp) rfl (by simp) (by simp)
  have t1 := hK.toB.atom ha.bytes p1
  have t2 := t1.atom hb.bytes p2
  have t3 := t2.pub (termN_bytes _) p3
  have t4 := t3.pub (termN_bytes _) p4
  have t5 := t4.dh (termN_bytes _) (termN_bytes _) p5'
  have t6 := t5.hash (fun l h => by
    simp only [List.mem_cons, List.not_mem_nil, or_false] at h
    rcases h with rfl | rfl
    · exact ho
    · exact termN_bytes _) p6
  have hne : decide (termN (ts.length + 5) ≠ []) = true := decide_eq_true fun e => by
    have := congrArg List.length e
    rw [termN_len] at this
    cases this
  refine ⟨_, _, _, _, _, _, ⟨p1, p2, p3, p4, p5.trans ?_, p6, ⟨rfl, hlow, by simp; omega⟩, t6, by simp, by simp, by simp, by simp, by simp, by simp⟩⟩
  show (_, _, decide (termN (ts.length + 4 + 1) ≠ [])) = _
  rw [hne]
  rfl
/-- KnowHashes: what is added. -/
structure HashX (ts u1 u2 u3 u4 : List TermL) (aa ba mo : List Nat) : Prop where
  p1 : putL ts (1, [aa]) = (u1, termN (ts.length + 1))
  p2 : putL u1 (1, [ba]) = (u2, termN (ts.length + 2))
  p3 : putL u2 (4, [termN (ts.length + 1), termN (ts.length + 2)]) = (u3, termN (ts.length + 3))
  p4 : putL u3 (4, [termN (ts.length + 3), mo]) = (u4, termN (ts.length + 4))
  added : Added ts (hashT ts.length aa ba mo) u4
  terms : TermsB u4
  l1 : u1.length = ts.length + 1
  l2 : u2.length = ts.length + 2
  l3 : u3.length = ts.length + 3
  l4 : u4.length = ts.length + 4
theorem hashX {aa ba mo : List Nat} (ha : OwnS aa) (hb : OwnS ba) (n1 : ba ≠ aa) (ho : Bytes mo) (hol : mo.length ≤ 300) : ∃ u1 u2 u3 u4, HashX ts u1 u2 u3 u4 aa ba mo := by
  have L4 : ∀ n, (termN n).length ≤ 400 := fun n => by rw [termN_len]; decide
  have p1 := atom_new hK ha.big ha.small
  have p2 := atom_more (more := [(1, [aa])]) hK hb.big hb.small (by simp [n1])
  have p3 := low_more (more := [(1, [aa]), (1, [ba])]) (t := (4, [termN (ts.length + 1), termN (ts.length + 2)])) (j := 0) hlow (fits_small (by simp) (fun l h => by
    simp only [List.mem_cons, List.not_mem_nil, or_false] at h
    rcases h with rfl | rfl <;> exact L4 _)) (by simp; omega) (by simp) rfl (by simp) (by simp)
  have p4 := low_more (more := [(1, [aa]), (1, [ba]), (4, [termN (ts.length + 1), termN (ts.length + 2)])]) (t := (4, [termN (ts.length + 3), mo])) (j := 2) hlow (fits_small (by simp) (fun l h => by
    simp only [List.mem_cons, List.not_mem_nil, or_false] at h
    rcases h with rfl | rfl
    · exact L4 _
    · omega)) (by simp; omega) (by simp) rfl (by simp) (by simp [termN_ne9 (i := ts.length + 3) (j := ts.length + 1) (by omega) (by omega) (by omega)])
  have t1 := hK.toB.atom ha.bytes p1
  have t2 := t1.atom hb.bytes p2
  have t3 := t2.hash (fun l h => by
    simp only [List.mem_cons, List.not_mem_nil, or_false] at h
    rcases h with rfl | rfl <;> exact termN_bytes _) p3
  have t4 := t3.hash (fun l h => by
    simp only [List.mem_cons, List.not_mem_nil, or_false] at h
    rcases h with rfl | rfl
    · exact termN_bytes _
    · exact ho) p4
  exact ⟨_, _, _, _, ⟨p1, p2, p3, p4, ⟨rfl, hlow, by simp; omega⟩, t4, by simp, by simp, by simp, by simp⟩⟩
end
end Go.Proofs.YtniogaimhkcedaaDoor.sh
