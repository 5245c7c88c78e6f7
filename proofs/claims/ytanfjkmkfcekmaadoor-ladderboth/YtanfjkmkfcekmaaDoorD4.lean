/-
  A bit of a number; the two points in each other's place.
-/
import Derived.Test.YtanfjkmkfcekmaaDoorD3
import Derived.Deep.MidRow
namespace Go.Proofs.YtanfjkmkfcekmaaDoor
open Go Go.RowKit
set_option linter.unusedVariables false
set_option linter.unusedSimpArgs false

theorem and_one : ∀ x : Fin 256, (bits .and .u8 (x.val : Int) 1 == 1) = decide (x.val % 2 = 1) := by decide +kernel
theorem low_bit (m r : Nat) (h : r < 8) : m % 256 / 2 ^ r % 2 = m / 2 ^ r % 2 := by
  rcases (show r = 0 ∨ r = 1 ∨ r = 2 ∨ r = 3 ∨ r = 4 ∨ r = 5 ∨ r = 6 ∨ r = 7 by omega) with rfl | rfl | rfl | rfl | rfl | rfl | rfl | rfl <;> simp <;> omega
theorem bit_eq (n i : Nat) : n / 256 ^ (i / 8) % 256 / 2 ^ (i % 8) % 2 = n / 2 ^ i % 2 := by
  have e : 2 ^ i = 256 ^ (i / 8) * 2 ^ (i % 8) := by
    rw [show (256 : Nat) = 2 ^ 8 from rfl, ← Nat.pow_mul, ← Nat.pow_add]
    congr 1; omega
  rw [low_bit _ _ (Nat.mod_lt _ (by decide)), Nat.div_div_eq_div_mul, ← e]
theorem byte_lt (n i : Nat) : n / 256 ^ (i / 8) % 256 / 2 ^ (i % 8) < 256 := Nat.lt_of_le_of_lt (Nat.div_le_self _ _) (Nat.mod_lt _ (by decide))

set_option maxHeartbeats 400000 in
theorem bit_any (n i : Nat) (w : World) (hi : i < 256) :
    Calls Tryd.prog 44 #[.agg (numA n), .int .i64 (i : Int)] w fun e w' => e = .returned (.bool (decide (n / 2 ^ i % 2 = 1))) ∧ Below w.heap.size w w' := by
  have A0 : At (w.alloc (.cells (numA n) 22)) w.heap.size n := at_new w n
  have QB : Below w.heap.size w (w.alloc (.cells (numA n) 22)) := (Below.refl _ _).alloc (Nat.le_refl _) _
  go_enter Tryd.func44, Tryd.ntmps44
  go_wp2_with (first | (refine wpList_byte rfl (.tmp 7) rfl _ (i / 8) rfl (numA n) _ A0 (numA_get n (i / 8) (by omega)) ?_))
  go_ret
  refine ⟨?_, QB⟩
  have h := and_one ⟨_, byte_lt n i⟩
  simp only [bit_eq] at h
  rw [← h]
  show Ending.returned (Value.bool (bits BinOp.and IntKind.u8 _ 1 == 1)) = _
  congr 5

def setRange : Array Value → Nat → List Value → Array Value
  | A, _, [] => A
  | A, o, v :: r => setRange (A.setIfInBounds o v) (o + 1) r
theorem setRange_size : ∀ (vs : List Value) (A : Array Value) (o : Nat), (setRange A o vs).size = A.size
  | [], _, _ => rfl
  | v :: r, A, o => by rw [setRange, setRange_size r]; simp
theorem setRange_out : ∀ (vs : List Value) (A : Array Value) (o j : Nat), (j < o ∨ o + vs.length ≤ j) → (setRange A o vs)[j]? = A[j]?
  | [], _, _, _, _ => rfl
  | v :: r, A, o, j, h => by
    simp only [List.length_cons] at h
    rw [setRange, setRange_out r _ _ _ (by omega), Array.getElem?_setIfInBounds_ne (by omega)]
theorem setRange_in : ∀ (vs : List Value) (A : Array Value) (o j : Nat), o + vs.length ≤ A.size → j < vs.length → (setRange A o vs)[o + j]? = vs[j]?
  | v :: r, A, o, 0, h, _ => by
    simp only [List.length_cons] at h
    rw [setRange, setRange_out r _ _ _ (by omega), Nat.add_zero, Array.getElem?_setIfInBounds_self_of_lt (by omega)]; rfl
  | v :: r, A, o, j + 1, h, hj => by
    simp only [List.length_cons] at h hj
    rw [setRange, show o + (j + 1) = o + 1 + j from by omega, setRange_in r _ _ _ (by simp; omega) (by omega)]; rfl
theorem setCells_heap {g : Nat} {t : TypeId} : ∀ (vs : List Value) (A : Array Value) (o : Nat) (w : World), w.heap[g]? = some (.cells A t (0, 0)) → (w.setCells g o vs).heap[g]? = some (.cells (setRange A o vs) t (0, 0))
  | [], _, _, _, h => h
  | v :: r, A, o, w, h => setCells_heap r _ _ _ (heap_setCell_same w g o A t v h)
theorem setCells_other {g k : Nat} (hne : k ≠ g) : ∀ (vs : List Value) (o : Nat) (w : World), (w.setCells g o vs).heap[k]? = w.heap[k]?
  | [], _, _ => rfl
  | v :: r, o, w => by rw [World.setCells, setCells_other hne r]; exact heap_setCell_other w ⟨g, o, none⟩ k v hne
theorem setCells_same (g : Nat) : ∀ (vs : List Value) (o : Nat) (w : World), (w.setCells g o vs).heap.size = w.heap.size ∧ (w.setCells g o vs).os = w.os ∧ (w.setCells g o vs).tape = w.tape ∧ (w.setCells g o vs).output = w.output
  | [], _, _ => ⟨rfl, rfl, rfl, rfl⟩
  | v :: r, o, w => by
    have h := setCells_same g r (o + 1) (w.setCell ⟨g, o, none⟩ v)
    rw [World.setCells]
    exact ⟨by rw [h.1]; simp, h.2.1, h.2.2.1, h.2.2.2⟩

theorem rowA_get4 (a b c d j : Nat) (h : j < 128) : ∃ n, [a, b, c, d][j / 32]? = some n ∧ (rowA [a, b, c, d])[j]? = (numA n)[j % 32]? := by
  obtain ⟨n, hn⟩ : ∃ n, [a, b, c, d][j / 32]? = some n := ⟨_, List.getElem?_eq_getElem (by simp; omega)⟩
  refine ⟨n, hn, ?_⟩
  obtain ⟨v, hv⟩ : ∃ v, (numA n)[j % 32]? = some v := ⟨_, numA_get n _ (Nat.mod_lt _ (by decide))⟩
  rw [hv]
  have := rowA_at [a, b, c, d] hn (j % 32) v hv
  rwa [show j / 32 * 32 + j % 32 = j from by omega] at this
theorem rowA_set (a b c d n i : Nat) (hi : i < 4) : setRange (rowA [a, b, c, d]) (i * 32) (numA n).toList = rowA ([a, b, c, d].set i n) := by
  obtain ⟨a', b', c', d', e⟩ : ∃ a' b' c' d', [a, b, c, d].set i n = [a', b', c', d'] := by
    rcases (show i = 0 ∨ i = 1 ∨ i = 2 ∨ i = 3 by omega) with rfl | rfl | rfl | rfl <;> exact ⟨_, _, _, _, rfl⟩
  apply Array.ext_getElem?
  intro j
  by_cases hj : j < 128
  · obtain ⟨m, h1, h2⟩ := rowA_get4 a' b' c' d' j hj
    rw [e, h2]
    rw [← e, List.getElem?_set] at h1
    by_cases hji : j / 32 = i
    · rw [if_pos hji.symm, if_pos (by simp; omega)] at h1
      cases h1
      have := setRange_in (numA n).toList (rowA [a, b, c, d]) (i * 32) (j % 32) (by rw [rowA_size]; simp [numA_size]; omega) (by simp [numA_size]; omega)
      rw [show i * 32 + j % 32 = j from by omega] at this
      rw [this, Array.getElem?_toList]
    · rw [if_neg (Ne.symm hji)] at h1
      rw [setRange_out _ _ _ _ (by simp [numA_size]; omega)]
      obtain ⟨m', h3, h4⟩ := rowA_get4 a b c d j hj
      rw [h3] at h1
      cases h1
      exact h4
  · rw [Array.getElem?_eq_none (by rw [setRange_size, rowA_size]; omega), e, Array.getElem?_eq_none (by rw [rowA_size]; omega)]

/-- One of four numbers in a block is written. -/
theorem wpList_qset {ops : Array Oper} {rest : List Oper} {o : Oper} {a : Act} {w : World} {Q : Exit → Act → World → Prop} (hgd : o.guard = none) (x y : Operand) (ho : o.op = .store 22 x y)
    (t : TypeId) (g i n0 n1 n2 n3 n : Nat) (hi : i < 4) (hx : a.eval x = .pointer (some ⟨g, i * 32, none⟩)) (hy : a.eval y = .agg (numA n)) (hg : AtQ t w g [n0, n1, n2, n3])
    (h : ∀ w', AtQ t w' g ([n0, n1, n2, n3].set i n) → Put w w' g → wpList Tryd.prog ops Q rest (a.put o.dst undef) w') : wpList Tryd.prog ops Q (o :: rest) a w := by
  have ht : w.there g (i * 32) (numA n).size := fun j hj => by
    rw [numA_size] at hj
    have hlt : i * 32 + j < (rowA [n0, n1, n2, n3]).size := by rw [rowA_size]; omega
    exact ⟨by rw [cell_row hg (Array.getElem?_eq_getElem hlt)]; rfl, frozen_of_row w g _ _ _ hg⟩
  refine wpList_store_mid hgd 22 x y ho g (i * 32) (numA n) hx hy ht (by rw [numA_size]; kernel_rfl) (numA_one n) (h _ ?_ ?_)
  · have := setCells_heap (numA n).toList (rowA [n0, n1, n2, n3]) (i * 32) w hg
    rw [rowA_set _ _ _ _ _ _ hi] at this
    exact this
  · have hs := setCells_same g (numA n).toList (i * 32) w
    exact ⟨⟨hs.2.1, hs.2.2.1, hs.2.2.2, by rw [hs.1]; exact Nat.le_refl _, fun k _ hk => setCells_other (fun e => hk (by rw [e])) _ _ _⟩, hs.1⟩

set_option maxHeartbeats 1000000 in
theorem swap_true (a b c d : Nat) (w : World) :
    Calls Tryd.prog 45 #[.agg (rowA [a, b, c, d]), .bool true] w fun e w' => e = .returned (.agg (rowA [c, d, a, b])) ∧ Below w.heap.size w w' := by
  go_enter Tryd.func45, Tryd.ntmps45
  have AQ : AtQ 55 ((w.alloc (.cells (rowA [a, b, c, d]) 55)).alloc (.cells Tryd.zeroCells55 55)) w.heap.size [a, b, c, d] := (atQ_new _ w _).alloc _
  have RR : RoomQ 55 ((w.alloc (.cells (rowA [a, b, c, d]) 55)).alloc (.cells Tryd.zeroCells55 55)) (w.heap.size + 1) := ⟨Tryd.zeroCells55, by kernel_rfl, heap_alloc2_new _ _ _⟩
  have QB : Below w.heap.size w ((w.alloc (.cells (rowA [a, b, c, d]) 55)).alloc (.cells Tryd.zeroCells55 55)) := ((Below.refl _ _).alloc (Nat.le_refl _) _).alloc (by simp) _
  go_wp2_with (first | (refine wpList_qget rfl (.tmp 7) rfl 55 _ 0 _ a rfl rfl AQ ?_) | (refine wpList_qget rfl (.tmp 9) rfl 55 _ 2 _ c rfl rfl AQ ?_))
  refine (Swap_yes a c _).mono ?_
  rintro e w1 ⟨rfl, hb1⟩
  have AQ1 := AQ.under hb1
  have RR1 := RR.under hb1
  have QB1 := QB.trans (hb1.mono QB.size)
  clear AQ RR QB hb1
  go_wp2_with (first | (refine wpList_qset rfl (.tmp 14) (.tmp 12) rfl 55 _ 0 a b c d c (by decide) rfl rfl AQ1 ?_))
  intro w2 AQ2 P2
  replace AQ2 : AtQ 55 w2 w.heap.size [c, b, c, d] := AQ2
  have RR2 := P2.roomQ RR1 (by omega)
  have QB2 : Below w.heap.size w w2 := QB1.trans (P2.below (Nat.le_refl _))
  clear AQ1 RR1 QB1 P2
  go_wp2_with (first | (refine wpList_qset rfl (.tmp 15) (.tmp 13) rfl 55 _ 2 c b c d a (by decide) rfl rfl AQ2 ?_))
  intro w3 AQ3 P3
  replace AQ3 : AtQ 55 w3 w.heap.size [c, b, a, d] := AQ3
  have RR3 := P3.roomQ RR2 (by omega)
  have QB3 : Below w.heap.size w w3 := QB2.trans (P3.below (Nat.le_refl _))
  clear AQ2 RR2 QB2 P3
  go_wp2_with (first | (refine wpList_qget rfl (.tmp 18) rfl 55 _ 1 _ b rfl rfl AQ3 ?_) | (refine wpList_qget rfl (.tmp 20) rfl 55 _ 3 _ d rfl rfl AQ3 ?_))
  refine (Swap_yes b d _).mono ?_
  rintro e w4 ⟨rfl, hb4⟩
  have AQ4 := AQ3.under hb4
  have RR4 := RR3.under hb4
  have QB4 := QB3.trans (hb4.mono QB3.size)
  clear AQ3 RR3 QB3 hb4
  go_wp2_with (first | (refine wpList_qset rfl (.tmp 25) (.tmp 23) rfl 55 _ 1 c b a d d (by decide) rfl rfl AQ4 ?_))
  intro w5 AQ5 P5
  replace AQ5 : AtQ 55 w5 w.heap.size [c, d, a, d] := AQ5
  have RR5 := P5.roomQ RR4 (by omega)
  have QB5 : Below w.heap.size w w5 := QB4.trans (P5.below (Nat.le_refl _))
  clear AQ4 RR4 QB4 P5
  go_wp2_with (first | (refine wpList_qset rfl (.tmp 26) (.tmp 24) rfl 55 _ 3 c d a d b (by decide) rfl rfl AQ5 ?_))
  intro w6 AQ6 P6
  replace AQ6 : AtQ 55 w6 w.heap.size [c, d, a, b] := AQ6
  have RR6 := P6.roomQ RR5 (by omega)
  have QB6 : Below w.heap.size w w6 := QB5.trans (P6.below (Nat.le_refl _))
  clear AQ5 RR5 QB5 P6
  go_wp2_with (first | (refine wpList_qall Tryd.underlying55 iQ1 rfl (.tmp 2) rfl _ c d a b rfl AQ6 ?_) | (refine wpList_qput iQ1 rfl (.tmp 4) (.tmp 27) rfl _ c d a b rfl rfl RR6 ?_))
  intro w7 AQ7 P7
  have QB7 : Below w.heap.size w w7 := QB6.trans (P7.below (by omega))
  clear AQ6 RR6 QB6 P7
  go_wp2
  exact bodyPost_ret (v := .agg (rowA [c, d, a, b])) (ret_quad Tryd.underlying55 iQ1 Tryd.results45 _ _ _ c d a b rfl AQ7) rfl ⟨rfl, QB7⟩

set_option maxHeartbeats 1000000 in
theorem swap_false (a b c d : Nat) (w : World) :
    Calls Tryd.prog 45 #[.agg (rowA [a, b, c, d]), .bool false] w fun e w' => e = .returned (.agg (rowA [a, b, c, d])) ∧ Below w.heap.size w w' := by
  go_enter Tryd.func45, Tryd.ntmps45
  have AQ : AtQ 55 ((w.alloc (.cells (rowA [a, b, c, d]) 55)).alloc (.cells Tryd.zeroCells55 55)) w.heap.size [a, b, c, d] := (atQ_new _ w _).alloc _
  have RR : RoomQ 55 ((w.alloc (.cells (rowA [a, b, c, d]) 55)).alloc (.cells Tryd.zeroCells55 55)) (w.heap.size + 1) := ⟨Tryd.zeroCells55, by kernel_rfl, heap_alloc2_new _ _ _⟩
  have QB : Below w.heap.size w ((w.alloc (.cells (rowA [a, b, c, d]) 55)).alloc (.cells Tryd.zeroCells55 55)) := ((Below.refl _ _).alloc (Nat.le_refl _) _).alloc (by simp) _
  go_wp2_with (first | (refine wpList_qget rfl (.tmp 7) rfl 55 _ 0 _ a rfl rfl AQ ?_) | (refine wpList_qget rfl (.tmp 9) rfl 55 _ 2 _ c rfl rfl AQ ?_))
  refine (Swap_no a c _).mono ?_
  rintro e w1 ⟨rfl, hb1⟩
  have AQ1 := AQ.under hb1
  have RR1 := RR.under hb1
  have QB1 := QB.trans (hb1.mono QB.size)
  clear AQ RR QB hb1
  go_wp2_with (first | (refine wpList_qset rfl (.tmp 14) (.tmp 12) rfl 55 _ 0 a b c d a (by decide) rfl rfl AQ1 ?_))
  intro w2 AQ2 P2
  replace AQ2 : AtQ 55 w2 w.heap.size [a, b, c, d] := AQ2
  have RR2 := P2.roomQ RR1 (by omega)
  have QB2 : Below w.heap.size w w2 := QB1.trans (P2.below (Nat.le_refl _))
  clear AQ1 RR1 QB1 P2
  go_wp2_with (first | (refine wpList_qset rfl (.tmp 15) (.tmp 13) rfl 55 _ 2 a b c d c (by decide) rfl rfl AQ2 ?_))
  intro w3 AQ3 P3
  replace AQ3 : AtQ 55 w3 w.heap.size [a, b, c, d] := AQ3
  have RR3 := P3.roomQ RR2 (by omega)
  have QB3 : Below w.heap.size w w3 := QB2.trans (P3.below (Nat.le_refl _))
  clear AQ2 RR2 QB2 P3
  go_wp2_with (first | (refine wpList_qget rfl (.tmp 18) rfl 55 _ 1 _ b rfl rfl AQ3 ?_) | (refine wpList_qget rfl (.tmp 20) rfl 55 _ 3 _ d rfl rfl AQ3 ?_))
  refine (Swap_no b d _).mono ?_
  rintro e w4 ⟨rfl, hb4⟩
  have AQ4 := AQ3.under hb4
  have RR4 := RR3.under hb4
  have QB4 := QB3.trans (hb4.mono QB3.size)
  clear AQ3 RR3 QB3 hb4
  go_wp2_with (first | (refine wpList_qset rfl (.tmp 25) (.tmp 23) rfl 55 _ 1 a b c d b (by decide) rfl rfl AQ4 ?_))
  intro w5 AQ5 P5
  replace AQ5 : AtQ 55 w5 w.heap.size [a, b, c, d] := AQ5
  have RR5 := P5.roomQ RR4 (by omega)
  have QB5 : Below w.heap.size w w5 := QB4.trans (P5.below (Nat.le_refl _))
  clear AQ4 RR4 QB4 P5
  go_wp2_with (first | (refine wpList_qset rfl (.tmp 26) (.tmp 24) rfl 55 _ 3 a b c d d (by decide) rfl rfl AQ5 ?_))
  intro w6 AQ6 P6
  replace AQ6 : AtQ 55 w6 w.heap.size [a, b, c, d] := AQ6
  have RR6 := P6.roomQ RR5 (by omega)
  have QB6 : Below w.heap.size w w6 := QB5.trans (P6.below (Nat.le_refl _))
  clear AQ5 RR5 QB5 P6
  go_wp2_with (first | (refine wpList_qall Tryd.underlying55 iQ1 rfl (.tmp 2) rfl _ a b c d rfl AQ6 ?_) | (refine wpList_qput iQ1 rfl (.tmp 4) (.tmp 27) rfl _ a b c d rfl rfl RR6 ?_))
  intro w7 AQ7 P7
  have QB7 : Below w.heap.size w w7 := QB6.trans (P7.below (by omega))
  clear AQ6 RR6 QB6 P7
  go_wp2
  exact bodyPost_ret (v := .agg (rowA [a, b, c, d])) (ret_quad Tryd.underlying55 iQ1 Tryd.results45 _ _ _ a b c d rfl AQ7) rfl ⟨rfl, QB7⟩

theorem l_bq2 {ops : Array Oper} {Q : Exit → Act → World → Prop} {a : Act} {o : Oper} {rest : List Oper} {w : World} (hg : o.guard = none) (x0 x1 x2 x3 : Operand) (ho : o.op = .build 50 #[(0, x0), (1, x1), (2, x2), (3, x3)]) (n0 n1 n2 n3 : Nat) (h0 : a.eval x0 = .agg (numA n0)) (h1 : a.eval x1 = .agg (numA n1)) (h2 : a.eval x2 = .agg (numA n2)) (h3 : a.eval x3 = .agg (numA n3)) (h : wpList Tryd.prog ops Q rest (a.put o.dst (.agg (rowA [n0, n1, n2, n3]))) w) : wpList Tryd.prog ops Q (o :: rest) a w :=
  l_val hg _ (by unfold execOp; simp [ho, h0, h1, h2, h3, buildQ2]) h

set_option maxHeartbeats 1000000 in
theorem turned_any (a b c d : Nat) (w : World) :
    Calls Tryd.prog 41 #[.agg (rowA [a, b, c, d])] w fun e w' => e = .returned (.agg (rowA [c, d, a, b])) ∧ Below w.heap.size w w' := by
  go_enter Tryd.func41, Tryd.ntmps41
  have AQ : AtQ 50 ((w.alloc (.cells (rowA [a, b, c, d]) 50)).alloc (.cells Tryd.zeroCells50 50)) w.heap.size [a, b, c, d] := (atQ_new _ w _).alloc _
  have RR : RoomQ 50 ((w.alloc (.cells (rowA [a, b, c, d]) 50)).alloc (.cells Tryd.zeroCells50 50)) (w.heap.size + 1) := ⟨Tryd.zeroCells50, by kernel_rfl, heap_alloc2_new _ _ _⟩
  have QB : Below w.heap.size w ((w.alloc (.cells (rowA [a, b, c, d]) 50)).alloc (.cells Tryd.zeroCells50 50)) := ((Below.refl _ _).alloc (Nat.le_refl _) _).alloc (by simp) _
  go_wp2_with (first | (refine wpList_qget rfl (.tmp 3) rfl 50 _ 2 _ c rfl rfl AQ ?_) | (refine wpList_qget rfl (.tmp 5) rfl 50 _ 3 _ d rfl rfl AQ ?_) | (refine wpList_qget rfl (.tmp 7) rfl 50 _ 0 _ a rfl rfl AQ ?_) | (refine wpList_qget rfl (.tmp 9) rfl 50 _ 1 _ b rfl rfl AQ ?_) | (refine l_bq2 rfl (.tmp 4) (.tmp 6) (.tmp 8) (.tmp 10) rfl c d a b rfl rfl rfl rfl ?_; simp only [Act.put, List.setIfInBounds_toArray, List.set_cons_succ, List.set_cons_zero]) | (refine wpList_qput iQ2 rfl (.tmp 2) (.tmp 11) rfl _ c d a b rfl rfl RR ?_))
  intro w7 AQ7 P7
  have QB7 : Below w.heap.size w w7 := QB.trans (P7.below (by omega))
  clear AQ RR QB P7
  go_wp2
  exact bodyPost_ret (v := .agg (rowA [c, d, a, b])) (ret_quad Tryd.underlying50 iQ2 Tryd.results41 _ _ _ c d a b rfl AQ7) rfl ⟨rfl, QB7⟩
end Go.Proofs.YtanfjkmkfcekmaaDoor
