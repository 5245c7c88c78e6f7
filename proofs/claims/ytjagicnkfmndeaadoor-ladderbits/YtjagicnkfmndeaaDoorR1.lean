/-
  What the small functions of the reference package of layer 1 do: the digits of a number, the digits of p.
-/
import Derived.Test.YtjagicnkfmndeaaDoorW1
import Derived.Test.YtjagicnkfmndeaaDoorQ
import Derived.Test.YtjagicnkfmndeaaDoorRM
namespace Go.Proofs.YtjagicnkfmndeaaDoor
open Go.RowKit
set_option linter.unusedSimpArgs false
set_option linter.unusedVariables false

theorem info3 : (Tryd.prog.info? 3).map (fun i => (i.zero, i.size, i.bytes)) = some (some (.int .i64 0), 1, 8) := by kernel_rfl

/-- A row of ints. -/
def irow (l : List Nat) : List Value := l.map fun d : Nat => Value.int .i64 (d : Int)
theorem irow_snoc (l : List Nat) (d : Nat) : irow (l ++ [d]) = irow l ++ [.int .i64 (d : Int)] := by simp [irow]
theorem irow_len (l : List Nat) : (irow l).length = l.length := by simp [irow]
theorem irow_get (l : List Nat) (i d : Nat) (h : l[i]? = some d) : (irow l)[i]? = some (.int .i64 (d : Int)) := by simp [irow, h]

/-- The first k digits of a number. -/
def digs (n k : Nat) : List Nat := (List.range k).map fun i => n / 256 ^ i % 256
theorem digs_succ (n k : Nat) : digs n (k + 1) = digs n k ++ [n / 256 ^ k % 256] := by simp [digs, List.range_succ]
theorem digs_len (n k : Nat) : (digs n k).length = k := by simp [digs]

theorem ownsRow_mono {w : World} {b b' : Nat} {e : TypeId} {s : Nat} {v : Value} {n : Nat} {xs : List Value} (h : w.ownsRow b e s v n xs) (hb : b' ≤ b) : w.ownsRow b' e s v n xs := by
  obtain ⟨h1, h2⟩ := h
  refine ⟨h1, ?_⟩
  rcases h2 with h | ⟨g, cap, cur, a, b, c⟩
  · exact .inl h
  · exact .inr ⟨g, cap, cur, a, Nat.le_trans hb b, c⟩

theorem cell_row {w : World} {g : Nat} {A : Array Value} {t : TypeId} {fr : Nat × Nat} {j : Nat} {v : Value} (hg : w.heap[g]? = some (.cells A t fr)) (hv : A[j]? = some v) : w.cell? ⟨g, j, none⟩ = some v := by
  simp [World.cell?, hg, hv]

theorem heap_new (w : World) (o : Obj) : (w.alloc o).heap[w.heap.size]? = some o := by
  show (w.heap.push o)[w.heap.size]? = some o
  simp

theorem grown_below {B : Nat} {w w' : World} {v : Value} {b : Nat} {e : TypeId} {s n : Nat} {xs : List Value} (hg : w.grownBy w' v.ownBlock) (ho : w.ownsRow b e s v n xs) (hb : B ≤ b) (hB : B ≤ w.heap.size) : Below B w w' :=
  (Below.refl _ _).grown hg hB (fun k hk => Nat.le_trans hb (ho.lt k hk).1)

/-- 'append(l, x)' of ints, onto a slice of the call's own. -/
theorem wpList_app1 {ops : Array Oper} {rest : List Oper} {o : Oper} {a : Act} {w : World} {Q : Exit → Act → World → Prop} (hgd : o.guard = none) (s x : Operand)
    (ho : o.op = .call { callee := .builtin .append, args := #[s, x], argTypes := #[49, 49] })
    (base : Nat) (v : Value) (n : Nat) (xs : List Value) (hs : a.eval s = v) (hown : w.ownsRow base 3 1 v n xs) (g : Nat) (u : Int) (hx : a.eval x = .slice (some ⟨g, 0, none⟩) 1 1) (hg : w.cell? ⟨g, 0, none⟩ = some (.int .i64 u))
    (hn : n + 1 ≤ 8796093022208) (hbase : base ≤ w.heap.size)
    (h : ∀ v' w', w'.ownsRow base 3 1 v' (n + 1) (xs ++ [.int .i64 u]) → w.grownBy w' v.ownBlock → wpList Tryd.prog ops Q rest (a.put o.dst v') w') : wpList Tryd.prog ops Q (o :: rest) a w := by
  obtain ⟨i0, hi, hz0, hz1, hz2⟩ := info_parts info3
  refine wpList_append_own _ hgd s x 49 ho base 3 i0 (.int .i64 0) 1 8 Tryd.underlying49 hi hz0 hz1 hz2 rfl (by decide) v n xs hs hown ⟨g, 0, none⟩ 1 1 [.int .i64 u] hx rfl ?_ ?_ ?_ ?_ hbase fun v' w' h1 h2 _ => h v' w' h1 h2
  · intro j y hj
    match j, hj with
    | 0, hj => simp at hj; subst hj; simpa [Addr.add] using hg
  · intro y hy; simp at hy; subst hy; rfl
  · unfold maxLen; omega
  · omega

set_option maxHeartbeats 400000 in
theorem digits_any (n : Nat) (w : World) :
    Calls Tryd.prog 38 #[.agg (numA n)] w fun e w' => ∃ v, e = .returned v ∧ w'.ownsRow w.heap.size 3 1 v 32 (irow (digs n 32)) ∧ Below w.heap.size w w' := by
  go_enter Tryd.func38, Tryd.ntmps38
  go_wp2
  go_loopw [3, 4] (fun v i wr => ∃ k : Nat, k ≤ 32 ∧ i = .int .i64 k ∧ wr.ownsRow (w.heap.size + 1) 3 1 v k (irow (digs n k)) ∧ wr.heap[w.heap.size]? = some (.cells (numA n) 22 (0, 0)) ∧ Below w.heap.size w wr)
    (fun _ i _ => 32 - (intOf i).toNat)
  case atStart => exact ⟨0, by omega, rfl, World.ownsRow_nil _ _ _ _, heap_new _ _, (Below.refl _ _).alloc (Nat.le_refl _) _⟩
  case round =>
    obtain ⟨k, hk, rfl, hown, hA, hb⟩ := hrel
    by_cases hlt : k < 32
    · have hc := cell_row hA (numA_get n k hlt)
      have hd : n / 256 ^ k % 256 < 256 := Nat.mod_lt _ (by decide)
      have hsn : Hid (irow (digs n (k + 1)) = irow (digs n k) ++ [.int .i64 ((n / 256 ^ k % 256 : Nat) : Int)]) := by show _ = _; rw [digs_succ, irow_snoc]
      generalize n / 256 ^ k % 256 = d at *
      have hsz : w.heap.size < wr.heap.size := (Array.getElem?_eq_some_iff.1 hA).1
      go_wp2_with (first
        | (at_builtin; refine wpList_app1 rfl _ _ rfl (w.heap.size + 1) _ _ _ rfl (hown.alloc _) wr.heap.size (d : Int) rfl ?c1 ?c3 ?c5 ?_)
        | go_in)
      case c1 => simp
      case c3 => omega
      case c5 => simp; omega
      intro v' w1 hown' hgrow
      go_wp2
      go_roundw
      case rel =>
        have hb1 : Below (w.heap.size + 1) (wr.alloc (.cells #[.int .i64 (d : Int)] 3)) w1 := grown_below hgrow (hown.alloc _) (Nat.le_refl _) (by simp; omega)
        refine ⟨k + 1, by omega, by go_num, ?_, ?_, ?_⟩
        · rw [hsn.out]; exact hown'
        · rw [hb1.block _ (by omega), Below.heap_alloc _ _ _ hsz]; exact hA
        · exact (hb.alloc (by omega) _).trans (hb1.mono (by omega))
      case measure => simp [intOf]; omega
    · go_wp2
      go_ret
      have e : k = 32 := by omega
      subst e
      exact ⟨_, rfl, ownsRow_mono hown (by omega), hb⟩

/-- A block holds a row of ints at its head. -/
def Holds (w : World) (g : Nat) (l : List Nat) : Prop := g < w.heap.size ∧ ∀ j, j < l.length → w.cell? ⟨g, j, none⟩ = some (.int .i64 ((l.getD j 0 : Nat) : Int))
theorem Holds.below {w w' : World} {g B : Nat} {l : List Nat} (h : Holds w g l) (hb : Below B w w') (hB : g < B) : Holds w' g l :=
  ⟨Nat.lt_of_lt_of_le h.1 hb.size, fun j hj => (hb.cell (p := ⟨g, j, none⟩) hB).trans (h.2 j hj)⟩
theorem Holds.under {w w' : World} {g : Nat} {l : List Nat} (h : Holds w g l) (hb : Below w.heap.size w w') : Holds w' g l := h.below hb h.1
theorem owns_holds {w : World} {b n : Nat} {v : Value} {l : List Nat} (h : w.ownsRow b 3 1 v n (irow l)) (hn : 0 < n) : ∃ g cap, v = .slice (some ⟨g, 0, none⟩) n cap ∧ n ≤ cap ∧ cap ≤ maxLen ∧ b ≤ g ∧ l.length = n ∧ Holds w g l := by
  obtain ⟨h1, h2⟩ := h
  rw [irow_len] at h1
  rcases h2 with ⟨_, h⟩ | ⟨g, cap, cur, rfl, hb, hg, hc, hm, hs, ht⟩
  · omega
  · refine ⟨g, cap, rfl, hc, hm, hb, by omega, (Array.getElem?_eq_some_iff.1 hg).1, fun j hj => ?_⟩
    refine cell_row hg ?_
    have h3 : (cur.toList.take (n * 1))[j]? = (irow l)[j]? := by rw [ht]
    rw [List.getElem?_take_of_lt (by omega), Array.getElem?_toList] at h3
    rw [h3]
    refine irow_get l j _ ?_
    simp [List.getD, hj]

set_option maxHeartbeats 400000 in
theorem prime_any (w : World) :
    Calls Tryd.prog 41 #[] w fun e w' => ∃ v, e = .returned v ∧ w'.ownsRow w.heap.size 3 1 v 32 (irow primeL) ∧ Below w.heap.size w w' := by
  go_enter Tryd.func41, Tryd.ntmps41
  go_wp2
  go_loopw [1, 2] (fun v i wr => ∃ k : Nat, k ≤ 30 ∧ i = .int .i64 k ∧ wr.ownsRow w.heap.size 3 1 v (1 + k) (irow (237 :: List.replicate k 255)) ∧ Below w.heap.size w wr)
    (fun _ i _ => 30 - (intOf i).toNat)
  case atStart => exact ⟨0, by omega, rfl, World.ownsRow_lit w #[.int .i64 237] 1 (Nat.le_refl _) (by unfold maxLen; omega) rfl, (Below.refl _ _).alloc (Nat.le_refl _) _⟩
  case round =>
    obtain ⟨k, hk, rfl, hown, hb⟩ := hrel
    have hz := hb.size
    by_cases hlt : k < 30
    · go_wp2_with (first
        | (at_builtin; refine wpList_app1 rfl _ _ rfl w.heap.size _ _ _ rfl (hown.alloc _) wr.heap.size 255 rfl ?c1 ?c3 ?c5 ?_)
        | go_in)
      case c1 => simp
      case c3 => omega
      case c5 => simp; omega
      intro v' w1 hown' hgrow
      go_wp2
      go_roundw
      case rel =>
        refine ⟨k + 1, by omega, by go_num, ?_, (hb.alloc hz _).trans (grown_below hgrow (hown.alloc _) (Nat.le_refl _) (by simp; omega))⟩
        have e : irow (237 :: List.replicate (k + 1) 255) = irow (237 :: List.replicate k 255) ++ [.int .i64 255] := by
          rw [List.replicate_succ', ← List.cons_append, irow_snoc]; rfl
        rw [e]; exact hown'
      case measure => simp [intOf]; omega
    · have e : k = 30 := by omega
      subst e
      go_wp2_with (first
        | (at_builtin; refine wpList_app1 rfl _ _ rfl w.heap.size _ _ _ rfl (hown.alloc _) wr.heap.size 127 rfl ?c1 ?c3 ?c5 ?_)
        | go_in)
      case c1 => simp
      case c3 => omega
      case c5 => simp; omega
      intro v' w1 hown' hgrow
      go_wp2
      go_ret
      exact ⟨_, rfl, hown', (hb.alloc hz _).trans (grown_below hgrow (hown.alloc _) (Nat.le_refl _) (by simp; omega))⟩
end Go.Proofs.YtjagicnkfmndeaaDoor
