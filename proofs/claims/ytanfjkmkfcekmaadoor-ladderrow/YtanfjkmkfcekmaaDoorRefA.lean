/-
  Joined texts: R1 R2 R3 R4.
-/
import Derived.Test.YtanfjkmkfcekmaaDoorW1
import Derived.Test.YtanfjkmkfcekmaaDoorQ
import Derived.Test.YtanfjkmkfcekmaaDoorRM
import Derived.Deep.LoopGhost
/-
  What the small functions of the reference package of layer 1 do: the digits of a number, the digits of p.
-/
namespace Go.Proofs.YtanfjkmkfcekmaaDoor
open Go.RowKit
set_option linter.unusedSimpArgs false
set_option linter.unusedVariables false

theorem info3 : (Tryd.prog.info? 3).map (fun i => (i.zero, i.size, i.bytes)) = some (some (.int .i64 0), 1, 8) := by kernel_rfl

/-- A row of ints. -/
def irow (l : List Nat) : List Value := l.map fun d : Nat => Value.int .i64 (d : Int)
theorem irow_snoc (l : List Nat) (d : Nat) : irow (l ++ [d]) = irow l ++ [.int .i64 (d : Int)] := by simp [irow]
theorem irow_len (l : List Nat) : (irow l).length = l.length := by simp [irow]
theorem irow_get (l : List Nat) (i d : Nat) (h : l[i]? = some d) : (irow l)[i]? = some (.int .i64 (d : Int)) := by simp [irow, h]

/-- The first k digits of a number. -/
def digs (n k : Nat) : List Nat := (List.range k).map fun i => n / 256 ^ i % 256
theorem digs_succ (n k : Nat) : digs n (k + 1) = digs n k ++ [n / 256 ^ k % 256] := by simp [digs, List.range_succ]
theorem digs_len (n k : Nat) : (digs n k).length = k := by simp [digs]

theorem ownsRow_mono {w : World} {b b' : Nat} {e : TypeId} {s : Nat} {v : Value} {n : Nat} {xs : List Value} (h : w.ownsRow b e s v n xs) (hb : b' ≤ b) : w.ownsRow b' e s v n xs := by
  obtain ⟨h1, h2⟩ := h
  refine ⟨h1, ?_⟩
  rcases h2 with h | ⟨g, cap, cur, a, b, c⟩
  · exact .inl h
  · exact .inr ⟨g, cap, cur, a, Nat.le_trans hb b, c⟩

theorem cell_row {w : World} {g : Nat} {A : Array Value} {t : TypeId} {fr : Nat × Nat} {j : Nat} {v : Value} (hg : w.heap[g]? = some (.cells A t fr)) (hv : A[j]? = some v) : w.cell? ⟨g, j, none⟩ = some v := by
  simp [World.cell?, hg, hv]

theorem heap_new (w : World) (o : Obj) : (w.alloc o).heap[w.heap.size]? = some o := by
  show (w.heap.push o)[w.heap.size]? = some o
  simp

theorem grown_below {B : Nat} {w w' : World} {v : Value} {b : Nat} {e : TypeId} {s n : Nat} {xs : List Value} (hg : w.grownBy w' v.ownBlock) (ho : w.ownsRow b e s v n xs) (hb : B ≤ b) (hB : B ≤ w.heap.size) : Below B w w' :=
  (Below.refl _ _).grown hg hB (fun k hk => Nat.le_trans hb (ho.lt k hk).1)

/-- 'append(l, x)' of ints, onto a slice of the call's own. -/
theorem wpList_app1 {ops : Array Oper} {rest : List Oper} {o : Oper} {a : Act} {w : World} {Q : Exit → Act → World → Prop} (hgd : o.guard = none) (s x : Operand)
    (ho : o.op = .call { callee := .builtin .append, args := #[s, x], argTypes := #[45, 45] })
    (base : Nat) (v : Value) (n : Nat) (xs : List Value) (hs : a.eval s = v) (hown : w.ownsRow base 3 1 v n xs) (g : Nat) (u : Int) (hx : a.eval x = .slice (some ⟨g, 0, none⟩) 1 1) (hg : w.cell? ⟨g, 0, none⟩ = some (.int .i64 u))
    (hn : n + 1 ≤ 8796093022208) (hbase : base ≤ w.heap.size)
    (h : ∀ v' w', w'.ownsRow base 3 1 v' (n + 1) (xs ++ [.int .i64 u]) → w.grownBy w' v.ownBlock → wpList Tryd.prog ops Q rest (a.put o.dst v') w') : wpList Tryd.prog ops Q (o :: rest) a w := by
  obtain ⟨i0, hi, hz0, hz1, hz2⟩ := info_parts info3
  refine wpList_append_own _ hgd s x 45 ho base 3 i0 (.int .i64 0) 1 8 Tryd.underlying45 hi hz0 hz1 hz2 rfl (by decide) v n xs hs hown ⟨g, 0, none⟩ 1 1 [.int .i64 u] hx rfl ?_ ?_ ?_ ?_ hbase fun v' w' h1 h2 _ => h v' w' h1 h2
  · intro j y hj
    match j, hj with
    | 0, hj => simp at hj; subst hj; simpa [Addr.add] using hg
  · intro y hy; simp at hy; subst hy; rfl
  · unfold maxLen; omega
  · omega

set_option maxHeartbeats 400000 in
theorem digits_any (n : Nat) (w : World) :
    Calls Tryd.prog 34 #[.agg (numA n)] w fun e w' => ∃ v, e = .returned v ∧ w'.ownsRow w.heap.size 3 1 v 32 (irow (digs n 32)) ∧ Below w.heap.size w w' := by
  go_enter Tryd.func34, Tryd.ntmps34
  go_wp2
  go_loopw [3, 4] (fun v i wr => ∃ k : Nat, k ≤ 32 ∧ i = .int .i64 k ∧ wr.ownsRow (w.heap.size + 1) 3 1 v k (irow (digs n k)) ∧ wr.heap[w.heap.size]? = some (.cells (numA n) 22 (0, 0)) ∧ Below w.heap.size w wr)
    (fun _ i _ => 32 - (intOf i).toNat)
  case atStart => exact ⟨0, by omega, rfl, World.ownsRow_nil _ _ _ _, heap_new _ _, (Below.refl _ _).alloc (Nat.le_refl _) _⟩
  case round =>
    obtain ⟨k, hk, rfl, hown, hA, hb⟩ := hrel
    by_cases hlt : k < 32
    · have hc := cell_row hA (numA_get n k hlt)
      have hd : n / 256 ^ k % 256 < 256 := Nat.mod_lt _ (by decide)
      have hsn : Hid (irow (digs n (k + 1)) = irow (digs n k) ++ [.int .i64 ((n / 256 ^ k % 256 : Nat) : Int)]) := by show _ = _; rw [digs_succ, irow_snoc]
      generalize n / 256 ^ k % 256 = d at *
      have hsz : w.heap.size < wr.heap.size := (Array.getElem?_eq_some_iff.1 hA).1
      go_wp2_with (first
        | (at_builtin; refine wpList_app1 rfl _ _ rfl (w.heap.size + 1) _ _ _ rfl (hown.alloc _) wr.heap.size (d : Int) rfl ?c1 ?c3 ?c5 ?_)
        | go_in)
      case c1 => simp
      case c3 => omega
      case c5 => simp; omega
      intro v' w1 hown' hgrow
      go_wp2
      go_roundw
      case rel =>
        have hb1 : Below (w.heap.size + 1) (wr.alloc (.cells #[.int .i64 (d : Int)] 3)) w1 := grown_below hgrow (hown.alloc _) (Nat.le_refl _) (by simp; omega)
        refine ⟨k + 1, by omega, by go_num, ?_, ?_, ?_⟩
        · rw [hsn.out]; exact hown'
        · rw [hb1.block _ (by omega), Below.heap_alloc _ _ _ hsz]; exact hA
        · exact (hb.alloc (by omega) _).trans (hb1.mono (by omega))
      case measure => simp [intOf]; omega
    · go_wp2
      go_ret
      have e : k = 32 := by omega
      subst e
      exact ⟨_, rfl, ownsRow_mono hown (by omega), hb⟩

/-- A block holds a row of ints at its head. -/
def Holds (w : World) (g : Nat) (l : List Nat) : Prop := g < w.heap.size ∧ ∀ j, j < l.length → w.cell? ⟨g, j, none⟩ = some (.int .i64 ((l.getD j 0 : Nat) : Int))
theorem Holds.below {w w' : World} {g B : Nat} {l : List Nat} (h : Holds w g l) (hb : Below B w w') (hB : g < B) : Holds w' g l :=
  ⟨Nat.lt_of_lt_of_le h.1 hb.size, fun j hj => (hb.cell (p := ⟨g, j, none⟩) hB).trans (h.2 j hj)⟩
theorem Holds.under {w w' : World} {g : Nat} {l : List Nat} (h : Holds w g l) (hb : Below w.heap.size w w') : Holds w' g l := h.below hb h.1
theorem owns_holds {w : World} {b n : Nat} {v : Value} {l : List Nat} (h : w.ownsRow b 3 1 v n (irow l)) (hn : 0 < n) : ∃ g cap, v = .slice (some ⟨g, 0, none⟩) n cap ∧ n ≤ cap ∧ cap ≤ maxLen ∧ b ≤ g ∧ l.length = n ∧ Holds w g l := by
  obtain ⟨h1, h2⟩ := h
  rw [irow_len] at h1
  rcases h2 with ⟨_, h⟩ | ⟨g, cap, cur, rfl, hb, hg, hc, hm, hs, ht⟩
  · omega
  · refine ⟨g, cap, rfl, hc, hm, hb, by omega, (Array.getElem?_eq_some_iff.1 hg).1, fun j hj => ?_⟩
    refine cell_row hg ?_
    have h3 : (cur.toList.take (n * 1))[j]? = (irow l)[j]? := by rw [ht]
    rw [List.getElem?_take_of_lt (by omega), Array.getElem?_toList] at h3
    rw [h3]
    refine irow_get l j _ ?_
    simp [List.getD, hj]

set_option maxHeartbeats 400000 in
theorem prime_any (w : World) :
    Calls Tryd.prog 37 #[] w fun e w' => ∃ v, e = .returned v ∧ w'.ownsRow w.heap.size 3 1 v 32 (irow primeL) ∧ Below w.heap.size w w' := by
  go_enter Tryd.func37, Tryd.ntmps37
  go_wp2
  go_loopw [1, 2] (fun v i wr => ∃ k : Nat, k ≤ 30 ∧ i = .int .i64 k ∧ wr.ownsRow w.heap.size 3 1 v (1 + k) (irow (237 :: List.replicate k 255)) ∧ Below w.heap.size w wr)
    (fun _ i _ => 30 - (intOf i).toNat)
  case atStart => exact ⟨0, by omega, rfl, World.ownsRow_lit w #[.int .i64 237] 1 (Nat.le_refl _) (by unfold maxLen; omega) rfl, (Below.refl _ _).alloc (Nat.le_refl _) _⟩
  case round =>
    obtain ⟨k, hk, rfl, hown, hb⟩ := hrel
    have hz := hb.size
    by_cases hlt : k < 30
    · go_wp2_with (first
        | (at_builtin; refine wpList_app1 rfl _ _ rfl w.heap.size _ _ _ rfl (hown.alloc _) wr.heap.size 255 rfl ?c1 ?c3 ?c5 ?_)
        | go_in)
      case c1 => simp
      case c3 => omega
      case c5 => simp; omega
      intro v' w1 hown' hgrow
      go_wp2
      go_roundw
      case rel =>
        refine ⟨k + 1, by omega, by go_num, ?_, (hb.alloc hz _).trans (grown_below hgrow (hown.alloc _) (Nat.le_refl _) (by simp; omega))⟩
        have e : irow (237 :: List.replicate (k + 1) 255) = irow (237 :: List.replicate k 255) ++ [.int .i64 255] := by
          rw [List.replicate_succ', ← List.cons_append, irow_snoc]; rfl
        rw [e]; exact hown'
      case measure => simp [intOf]; omega
    · have e : k = 30 := by omega
      subst e
      go_wp2_with (first
        | (at_builtin; refine wpList_app1 rfl _ _ rfl w.heap.size _ _ _ rfl (hown.alloc _) wr.heap.size 127 rfl ?c1 ?c3 ?c5 ?_)
        | go_in)
      case c1 => simp
      case c3 => omega
      case c5 => simp; omega
      intro v' w1 hown' hgrow
      go_wp2
      go_ret
      exact ⟨_, rfl, hown', (hb.alloc hz _).trans (grown_below hgrow (hown.alloc _) (Nat.le_refl _) (by simp; omega))⟩
end Go.Proofs.YtanfjkmkfcekmaaDoor
/-
  What the reference package's carry and high do: the same number in digits below 256; has it a digit above the 32nd.
-/
namespace Go.Proofs.YtanfjkmkfcekmaaDoor
open Go.RowKit
set_option linter.unusedSimpArgs false
set_option linter.unusedVariables false

theorem late_bound {k c : Nat} (h : 64 ≤ k → c * 256 ^ (k - 64) ≤ 1099511627776) (hc : 0 < c) : k ≤ 69 := by
  refine Nat.le_of_not_lt fun h70 => ?_
  have h1 := h (by omega)
  have h2 : 256 ^ 6 ≤ 256 ^ (k - 64) := Nat.pow_le_pow_right (by decide) (by omega)
  have h3 : 1 * 256 ^ (k - 64) ≤ c * 256 ^ (k - 64) := Nat.mul_le_mul_right _ hc
  omega
theorem late_step {k c x : Nat} (h : 64 ≤ k → c * 256 ^ (k - 64) ≤ 1099511627776) (hc : c ≤ 1099511627776) (hx : x ≤ 1099511627776) (h0 : 64 ≤ k → x = 0) : 64 ≤ k + 1 → (c + x) / 256 * 256 ^ (k + 1 - 64) ≤ 1099511627776 := by
  intro hk
  by_cases e : k + 1 = 64
  · rw [e]; simp; omega
  · have h1 := h (by omega)
    rw [h0 (by omega), Nat.add_zero, show k + 1 - 64 = (k - 64) + 1 from by omega, Nat.pow_succ, Nat.mul_comm _ 256, ← Nat.mul_assoc]
    exact Nat.le_trans (Nat.mul_le_mul_right _ (Nat.div_mul_le_self c 256)) h1
theorem take_all_val (l : List Nat) (k : Nat) (h : l.length ≤ k) : l.take k = l := List.take_of_length_le h
theorem div_zero_lt {a b : Nat} (hb : 0 < b) (h : 0 = a / b) : a < b := by
  have := (Nat.div_eq_zero_iff (a := a) (b := b)).1 h.symm
  omega

set_option maxHeartbeats 1000000 in
theorem carry_any (l : List Nat) (g n cap : Nat) (w : World) (hn : l.length = n) (h64 : n ≤ 64) (hM : ∀ j, l.getD j 0 ≤ 1099511627776) (hh : Holds w g l) :
    Calls Tryd.prog 58 #[.slice (some ⟨g, 0, none⟩) n cap] w fun e w' => ∃ g' cap' m, e = .returned (.slice (some ⟨g', 0, none⟩) m cap') ∧ m ≤ cap' ∧ cap' ≤ maxLen ∧ w.heap.size ≤ g' ∧ 32 ≤ m ∧ m ≤ 70 ∧ val l < 256 ^ m ∧ Holds w' g' (digs (val l) m) ∧ Below w.heap.size w w' := by
  go_enter Tryd.func58, Tryd.ntmps58
  go_wp2
  go_loopw [3, 4, 5] (fun v sc i wr => ∃ k c : Nat, k ≤ 70 ∧ i = .int .i64 k ∧ sc = .int .i64 (c : Int) ∧ c ≤ 1099511627776 ∧ Hid (c = val (l.take k) / 256 ^ k) ∧ Hid (64 ≤ k → c * 256 ^ (k - 64) ≤ 1099511627776) ∧ wr.ownsRow w.heap.size 3 1 v k (irow (digs (val l) k)) ∧ Below w.heap.size w wr)
    (fun _ sc i _ => (64 - (intOf i).toNat) * 2199023255553 + (intOf sc).toNat)
  case atStart => exact ⟨0, 0, by omega, rfl, rfl, by omega, (by show _ = _; simp [val]), (by show _ → _; omega), World.ownsRow_nil _ _ _ _, Below.refl _ _⟩
  case round =>
    obtain ⟨k, c, hk, rfl, rfl, hc, HC, HL, hown, hb⟩ := hrel
    have hz := hb.size
    by_cases hgo : k < n ∨ 0 < c ∨ k < 32
    · have hk69 : k ≤ 69 := by
        by_cases h0 : 0 < c
        · exact late_bound HL.out h0
        · omega
      have hx : l.getD k 0 ≤ 1099511627776 := hM k
      have HS : Hid ((c + l.getD k 0) % 256 = val l / 256 ^ k % 256 ∧ (c + l.getD k 0) / 256 = val (l.take (k + 1)) / 256 ^ (k + 1)) := by
        have := carry_step l k
        rw [← HC.out] at this
        exact this
      have HL' : Hid (64 ≤ k + 1 → (c + l.getD k 0) / 256 * 256 ^ (k + 1 - 64) ≤ 1099511627776) := late_step HL.out hc hx (fun h => getD_over l k (by omega))
      have hcell : k < n → wr.cell? ⟨g, k, none⟩ = some (.int .i64 ((l.getD k 0 : Nat) : Int)) := fun h => (hh.under hb).2 k (by omega)
      have hx0 : ¬ k < n → l.getD k 0 = 0 := fun h => getD_over l k (by omega)
      have HD : Hid (irow (digs (val l) (k + 1)) = irow (digs (val l) k) ++ [.int .i64 (((c + l.getD k 0) % 256 : Nat) : Int)]) := by show _ = _; rw [digs_succ, irow_snoc, HS.out.1]
      have HQ : Hid ((c + l.getD k 0) / 256 = val (l.take (k + 1)) / 256 ^ (k + 1)) := HS.out.2
      have HM : Hid (k < 64 ∨ 0 < c) := by show _ ∨ _; omega
      have HZ : Hid (64 ≤ k → l.getD k 0 = 0) := fun h => getD_over l k (by omega)
      clear HS HC HL hM hh
      generalize l.getD k 0 = x at *
      by_cases hkn : k < n
      · have hcell' := hcell hkn
        clear hcell hx0 hgo
        go_wp2_with (first
          | (at_builtin; refine wpList_app1 rfl _ _ rfl w.heap.size _ _ _ rfl (hown.alloc _) wr.heap.size (((c + x) % 256 : Nat) : Int) rfl ?c1 ?c3 ?c5 ?_)
          | go_in)
        case c1 => simp
        case c3 => omega
        case c5 => first | omega | (simp; omega)
        intro v' w1 hown' hgrow
        go_wp2
        go_roundw
        case rel =>
          refine ⟨k + 1, (c + x) / 256, by omega, by go_num, by go_num, by omega, HQ, HL', ?_, (hb.alloc hz _).trans (grown_below hgrow (hown.alloc _) (Nat.le_refl _) (by simp; omega))⟩
          rw [HD.out]; exact hown'
        case measure => have := HM.out; have := HZ.out; simp [intOf]; omega
      · have e0 := hx0 hkn
        clear hcell hx0
        subst e0
        by_cases h0 : 0 < c
        all_goals
          go_wp2_with (first
            | (at_builtin; refine wpList_app1 rfl _ _ rfl w.heap.size _ _ _ rfl (hown.alloc _) wr.heap.size (((c + 0) % 256 : Nat) : Int) rfl ?c1 ?c3 ?c5 ?_)
            | go_in)
          (try case c1 => simp)
          case c3 => omega
          case c5 => first | omega | (simp; omega)
          intro v' w1 hown' hgrow
          go_wp2
          go_roundw
          case rel =>
            refine ⟨k + 1, (c + 0) / 256, by omega, by go_num, by go_num, by omega, HQ, HL', ?_, (hb.alloc hz _).trans (grown_below hgrow (hown.alloc _) (Nat.le_refl _) (by simp; omega))⟩
            rw [HD.out]; exact hown'
          case measure => have := HM.out; simp [intOf]; omega
    · have e0 : c = 0 := by omega
      subst e0
      have h1 : ¬ k < n := by omega
      have h2 : ¬ k < 32 := by omega
      have HV : Hid (val l < 256 ^ k) := by
        have := HC.out
        rw [take_all_val l k (by omega)] at this
        exact div_zero_lt (Nat.pow_pos (by decide)) this
      clear HC HL hgo
      go_wp2
      go_ret
      obtain ⟨g', cap', rfl, h3, h4, h5, h6, h7⟩ := owns_holds hown (by omega)
      exact ⟨g', cap', k, rfl, h3, h4, h5, by omega, hk, HV.out, h7, hb⟩

set_option maxHeartbeats 1000000 in
theorem high_any (V g m cap : Nat) (w : World) (h32 : 32 ≤ m) (hm : m ≤ 70) (hV : V < 256 ^ m) (hh : Holds w g (digs V m)) :
    Calls Tryd.prog 59 #[.slice (some ⟨g, 0, none⟩) m cap] w fun e w' => e = .returned (.bool (decide (256 ^ 32 ≤ V))) ∧ w' = w := by
  have HV : Hid (V < 256 ^ m) := hV
  clear hV
  go_enter Tryd.func59, Tryd.ntmps59
  go_wp2
  go_loop [3] (fun i => ∃ k : Nat, 32 ≤ k ∧ k ≤ m ∧ i = .int .i64 k ∧ Hid (∀ j, 32 ≤ j → j < k → V / 256 ^ j % 256 = 0)) (fun i => m - (intOf i).toNat)
  case atStart => exact ⟨32, by omega, by omega, rfl, fun j _ _ => by omega⟩
  case round =>
    obtain ⟨k, hk1, hk2, rfl, HN⟩ := hrel
    by_cases hlt : k < m
    · have hcell := hh.2 k (by rw [digs_len]; exact hlt)
      have hd : (digs V m).getD k 0 = V / 256 ^ k % 256 := by simp [digs, List.getD, hlt]
      rw [hd] at hcell
      have HD : Hid (∀ d, V / 256 ^ k % 256 = d → d = V / 256 ^ k % 256) := fun d h => h.symm
      generalize hdd : V / 256 ^ k % 256 = d at *
      have HE : Hid (V / 256 ^ k % 256 = d) := hdd
      clear hd HD hh hdd
      by_cases hd0 : 0 < d
      · go_wp2
        go_ret
        have h1 := high_some V k hk1 (by rw [HE.out]; omega)
        exact ⟨congrArg (fun b => Ending.returned (Value.bool b)) (decide_eq_true h1).symm, rfl⟩
      · go_wp2
        go_round
        case rel =>
          refine ⟨k + 1, by omega, by omega, by go_num, fun j h1 h2 => ?_⟩
          by_cases e : j = k
          · subst e; rw [HE.out]; omega
          · exact HN.out j h1 (by omega)
        case measure => simp [intOf]; omega
    · go_wp2
      go_ret
      have e : k = m := by omega
      subst e
      have h1 := high_none V k HV.out h32 HN.out
      exact ⟨congrArg (fun b => Ending.returned (Value.bool b)) (decide_eq_false (by omega)).symm, rfl⟩
end Go.Proofs.YtanfjkmkfcekmaaDoor
/-
  What the reference package's below does: is a number of 32 digits below p.
-/
namespace Go.Proofs.YtanfjkmkfcekmaaDoor
open Go.RowKit
set_option linter.unusedSimpArgs false
set_option linter.unusedVariables false

theorem digs_at (V m k : Nat) (h : k < m) : (digs V m).getD k 0 = V / 256 ^ k % 256 := by simp [digs, List.getD, h]

set_option maxHeartbeats 1000000 in
theorem below_any (V g cap : Nat) (w : World) (hV : V < 256 ^ 32) (hh : Holds w g (digs V 32)) :
    Calls Tryd.prog 50 #[.slice (some ⟨g, 0, none⟩) 32 cap] w fun e w' => e = .returned (.bool (decide (V < 57896044618658097711785492504343953926634992332820282019728792003956564819949))) ∧ Below w.heap.size w w' := by
  have HP : Hid (57896044618658097711785492504343953926634992332820282019728792003956564819949 < 256 ^ 32 ∧ ∀ i, i < 32 → primeL.getD i 0 = 57896044618658097711785492504343953926634992332820282019728792003956564819949 / 256 ^ i % 256) := ⟨by decide, primeL_at⟩
  generalize 57896044618658097711785492504343953926634992332820282019728792003956564819949 = p at *
  have HV : Hid (V < 256 ^ 32) := hV
  clear hV
  go_enter Tryd.func50, Tryd.ntmps50
  go_wp2_with fail
  refine (prime_any _).mono ?_
  rintro e w1 ⟨v, rfl, hown, hb1⟩
  obtain ⟨gp, cp, rfl, _, _, hgp, _, hhp⟩ := owns_holds hown (by omega)
  have hh1 := hh.under hb1
  clear hown hh
  go_wp2
  go_loopw [4] (fun i wr => ∃ k : Nat, k ≤ 32 ∧ i = .int .i64 ((k : Int) - 1) ∧ Hid (V / 256 ^ k = p / 256 ^ k) ∧ Below w1.heap.size w1 wr) (fun i _ => (intOf i + 1).toNat)
  case atStart => exact ⟨32, by omega, rfl, (by show _ = _; rw [Nat.div_eq_of_lt HV.out, Nat.div_eq_of_lt HP.out.1]), Below.refl _ _⟩
  case round =>
    obtain ⟨k, hk, rfl, HE, hb⟩ := hrel
    cases k with
    | zero =>
      go_wp2
      go_ret
      have e : V = p := by have := HE.out; simpa using this
      exact ⟨congrArg (fun b => Ending.returned (Value.bool b)) (decide_eq_false (by omega)).symm, hb1.trans (hb.mono hb1.size)⟩
    | succ j =>
      have e1 : (((j + 1 : Nat) : Int) - 1) = (j : Int) := by omega
      rw [e1]
      have c1 := (hh1.under hb).2 j (by rw [digs_len]; omega)
      have c2 := (hhp.under hb).2 j (by rw [primeL_len]; omega)
      rw [digs_at V 32 j (by omega)] at c1
      rw [HP.out.2 j (by omega)] at c2
      have HS := cmp_same V p j HE.out
      have HO := cmp_other V p j HE.out
      have hj : j < 32 := by omega
      generalize hx : V / 256 ^ j % 256 = x at *
      generalize hy : p / 256 ^ j % 256 = y at *
      have HS' : Hid _ := HS
      have HO' : Hid _ := HO
      clear HS HO hx hy e1 hk
      by_cases hxy : x = y
      · have hne : ((x : Int) != (y : Int)) = false := by simp [hxy]
        go_wp2
        go_quiet (fail)
        go_wp2
        go_roundw
        case rel => exact ⟨j, by omega, by go_num, HS'.out hxy, by exact Below.trans hb ⟨rfl, rfl, rfl, Nat.le_refl _, fun _ _ => rfl⟩⟩
        case measure => simp [intOf]
      · have hne : ((x : Int) != (y : Int)) = true := by rw [bne_iff_ne]; omega
        have HR : Hid (decide (x < y) = decide (V < p)) := by
          have := HO'.out hxy
          show _ = _
          rw [decide_eq_decide]; omega
        go_wp2
        go_quiet (fail)
        go_wp2
        go_quiet (fail)
        go_wp2
        go_ret
        refine ⟨?_, hb1.trans (Below.mono (hb.trans ⟨rfl, rfl, rfl, Nat.le_refl _, fun _ _ => rfl⟩) hb1.size)⟩
        exact congrArg (fun b => Ending.returned (Value.bool b)) HR.out
end Go.Proofs.YtanfjkmkfcekmaaDoor
/-
  What the reference package's fold does: a number below 2^512 comes to one below 2^256 that is the same modulo p.
-/
namespace Go.Proofs.YtanfjkmkfcekmaaDoor
open Go.RowKit
set_option linter.unusedSimpArgs false
set_option linter.unusedVariables false

/-- 'make([]int, n)'. -/
theorem wpList_mk {ops : Array Oper} {rest : List Oper} {o : Oper} {a : Act} {w : World} {Q : Exit → Act → World → Prop} (hgd : o.guard = none) (l c : Operand)
    (ho : o.op = Op.makeSlice 45 l c) (n : Nat) (hl : a.eval l = .int .i64 (n : Int)) (hc : a.eval c = .int .i64 (n : Int)) (hn : n ≤ 100000)
    (h : ∀ w', w'.ownsRow w.heap.size 3 1 (.slice (some ⟨w.heap.size, 0, none⟩) n n) n (irow (List.replicate n 0)) → Below w.heap.size w w' → w.heap.size < w'.heap.size → wpList Tryd.prog ops Q rest (a.put o.dst (.slice (some ⟨w.heap.size, 0, none⟩) n n)) w') : wpList Tryd.prog ops Q (o :: rest) a w := by
  obtain ⟨i0, hi, hz0, hz1, hz2⟩ := info_parts info3
  refine wpList_make_full w hgd l c 45 ho w.heap.size 3 i0 (.int .i64 0) 1 Tryd.underlying45 hi hz0 hz1 .i64 .i64 n n n hl hc rfl rfl ?_ ?_ (Nat.le_refl _) fun w' h1 h2 => h w' ?_ ?_ ?_
  · rw [hz2]; omega
  · unfold maxLen; omega
  · have e : (madeCells (Value.int .i64 0).cells (n * 1)).toList = irow (List.replicate n 0) := by
      rw [show (Value.int .i64 0).cells = #[Value.int .i64 0] from rfl, toList_madeCells_one]
      simp [irow]
    rw [e] at h1
    exact h1
  · exact (Below.refl _ _).grown h2 (Nat.le_refl _) (fun k hk => by cases hk)
  · rcases h1.2 with ⟨h', _⟩ | ⟨g', cap', cur, h', _, hg, _⟩
    · simp at h'
    · simp only [Value.slice.injEq, Option.some.injEq, Addr.mk.injEq, and_true, true_and] at h'
      obtain ⟨rfl, _⟩ := h'
      exact (Array.getElem?_eq_some_iff.1 hg).1

theorem rep_zero (n j : Nat) : (List.replicate n 0).getD j 0 = 0 := by
  simp only [List.getD, List.getElem?_replicate]
  split <;> rfl

theorem irow_set (l : List Nat) (k x : Nat) : (irow l).set k (.int .i64 (x : Int)) = irow (l.set k x) := by simp [irow, List.map_set]
theorem own_cell {w : World} {b g n cap : Nat} {l : List Nat} (h : w.ownsRow b 3 1 (.slice (some ⟨g, 0, none⟩) n cap) n (irow l)) (j : Nat) (hj : j < n) : w.cell? ⟨g, j, none⟩ = some (.int .i64 ((l.getD j 0 : Nat) : Int)) := by
  rw [h.cellAt j (by omega)]
  have hl : l.length = n := by have := h.1; rw [irow_len] at this; omega
  exact irow_get l j _ (by simp [List.getD, show j < l.length by omega])

theorem high_yes (V g m cap : Nat) (w : World) (h32 : 32 ≤ m) (hm : m ≤ 70) (hV : V < 256 ^ m) (hh : Holds w g (digs V m)) (h : 256 ^ 32 ≤ V) :
    Calls Tryd.prog 59 #[.slice (some ⟨g, 0, none⟩) m cap] w fun e w' => e = .returned (.bool true) ∧ w' = w := by
  have := high_any V g m cap w h32 hm hV hh
  rwa [decide_eq_true h] at this
theorem high_no (V g m cap : Nat) (w : World) (h32 : 32 ≤ m) (hm : m ≤ 70) (hV : V < 256 ^ m) (hh : Holds w g (digs V m)) (h : ¬ 256 ^ 32 ≤ V) :
    Calls Tryd.prog 59 #[.slice (some ⟨g, 0, none⟩) m cap] w fun e w' => e = .returned (.bool false) ∧ w' = w := by
  have := high_any V g m cap w h32 hm hV hh
  rwa [decide_eq_false h] at this

theorem Holds.take {w : World} {g V m k : Nat} (h : Holds w g (digs V m)) (hk : k ≤ m) : Holds w g (digs V k) :=
  ⟨h.1, fun j hj => by
    rw [digs_len] at hj
    have := h.2 j (by rw [digs_len]; omega)
    rw [digs_at V m j (by omega)] at this
    rw [digs_at V k j hj]
    exact this⟩

theorem getD_set (l : List Nat) (k x j : Nat) (hk : k < l.length) : (l.set k x).getD j 0 = if j = k then x else l.getD j 0 := by
  simp only [List.getD, List.getElem?_set]
  by_cases e : k = j
  · subst e; simp [hk]
  · simp [e, Ne.symm e]

set_option maxHeartbeats 2000000 in
theorem fold_ref (l : List Nat) (g n cap : Nat) (w : World) (hn : l.length = n) (h64 : n ≤ 64) (hM : ∀ j, l.getD j 0 ≤ 1099511627776) (hh : Holds w g l) (hV : val l < 256 ^ 64) :
    Calls Tryd.prog 49 #[.slice (some ⟨g, 0, none⟩) n cap] w fun e w' => ∃ g' cap' V, e = .returned (.slice (some ⟨g', 0, none⟩) 32 cap') ∧ 32 ≤ cap' ∧ w.heap.size ≤ g' ∧ V < 256 ^ 32 ∧ V % 57896044618658097711785492504343953926634992332820282019728792003956564819949 = val l % 57896044618658097711785492504343953926634992332820282019728792003956564819949 ∧ Holds w' g' (digs V 32) ∧ Below w.heap.size w w' := by
  have HF : Hid (∀ V : Nat, (V % 256 ^ 32 + 38 * (V / 256 ^ 32)) % 57896044618658097711785492504343953926634992332820282019728792003956564819949 = V % 57896044618658097711785492504343953926634992332820282019728792003956564819949) := fold_mod
  generalize 57896044618658097711785492504343953926634992332820282019728792003956564819949 = p at *
  have HV : Hid (val l < 256 ^ 64) := hV
  clear hV
  go_enter Tryd.func49, Tryd.ntmps49
  go_wp2_with fail
  refine (carry_any l g n cap _ hn h64 hM hh).mono ?_
  rintro e w1 ⟨g1, c1, m1, rfl, h1, h2, h3, h4, h5, h6, h7, hb1⟩
  have H6 : Hid (val l < 256 ^ m1) := h6
  clear h6 hM hh
  go_wp2
  go_loopg [3] (val l) (fun V s3 wr => ∃ gd cd m : Nat, s3 = .slice (some ⟨gd, 0, none⟩) m cd ∧ 32 ≤ m ∧ m ≤ 70 ∧ m ≤ cd ∧ cd ≤ maxLen ∧ w.heap.size ≤ gd ∧ Hid (V < 256 ^ m ∧ V < 256 ^ 64 ∧ V % p = val l % p) ∧ Holds wr gd (digs V m) ∧ Below w.heap.size w wr)
  case atStart => exact ⟨g1, c1, m1, rfl, h4, h5, h1, h2, h3, ⟨H6.out, HV.out, rfl⟩, h7, hb1⟩
  case round =>
    obtain ⟨gd, cd, m, rfl, hm1, hm2, hm3, hm4, hgd, HW, hhd, hb⟩ := hrel
    by_cases h32 : Hid (256 ^ 32 ≤ gk)
    · go_wp2_with fail
      refine (high_yes gk gd m cd _ hm1 hm2 HW.out.1 hhd h32.out).mono ?_
      rintro e w2 ⟨rfl, rfl⟩
      go_wp2_with (first | (at_make; refine wpList_mk rfl _ _ rfl 32 rfl rfl (by omega) ?_) | go_in)
      intro w3 hown0 hb3 hlt3
      have hhd3 := hhd.under hb3
      have hgdl : gd < w2.heap.size := hhd.1
      go_wp2
      go_loopw [5] (fun i wi => ∃ (t : Nat) (out : List Nat), t ≤ m ∧ i = .int .i64 t ∧ out.length = 32 ∧ Hid (val out = foldTo gk t) ∧ Hid (∀ j, out.getD j 0 ≤ 9690 * t) ∧ wi.ownsRow w2.heap.size 3 1 (.slice (some ⟨w2.heap.size, 0, none⟩) 32 32) 32 (irow out) ∧ Below w2.heap.size w2 wi) (fun i _ => m - (intOf i).toNat)
      case atStart => exact ⟨0, List.replicate 32 0, by omega, rfl, rfl, (by show _ = _; rfl), (by show ∀ _, _; intro j; rw [rep_zero]; exact Nat.zero_le _), hown0, hb3⟩
      case round =>
        obtain ⟨t, out, ht, rfl, hol, HO, HB, hown, hbi⟩ := hrel
        by_cases htm : t < m
        · have hcd := (hhd.under hbi).2 t (by rw [digs_len]; exact htm)
          rw [digs_at _ _ _ htm] at hcd
          have hk32 : t % 32 < 32 := by omega
          have hco := own_cell hown (t % 32) hk32
          have hfz := hown.frozenAt (t % 32)
          have hbo : out.getD (t % 32) 0 ≤ 9690 * t := HB.out _
          have hbd : gk / 256 ^ t % 256 < 256 := Nat.mod_lt _ (by decide)
          generalize hxx : gk / 256 ^ t % 256 = x at *
          generalize hyy : out.getD (t % 32) 0 = y at *
          have HX : Hid _ := hxx
          have HY : Hid _ := hyy
          clear hxx hyy
          by_cases ht32 : t < 32
          · go_wp2
            go_region
            go_wp2
            refine ⟨⟨t + 1, out.set (t % 32) (y + x), by omega, by go_num, by simp [hol], ?_, ?_, ?_, ?_⟩, by simp [intOf]; omega⟩
            · show _ = _
              have e := val_set out x (t % 32) (by omega)
              rw [HY.out] at e
              rw [e, HO.out, foldTo, if_pos ht32, HX.out, Nat.one_mul]
            · show ∀ _, _
              intro j
              rw [getD_set _ _ _ _ (by omega)]
              split
              · omega
              · have := HB.out j; omega
            · have h := (hown.stored (t % 32) (.int .i64 (((y + x : Nat)) : Int))).1
              rw [irow_set] at h
              exact h.drew
            · exact (hbi.setCell (Nat.le_refl _) _).drew
          · go_wp2
            go_region
            go_wp2
            refine ⟨⟨t + 1, out.set (t % 32) (y + 38 * x), by omega, by go_num, by simp [hol], ?_, ?_, ?_, ?_⟩, by simp [intOf]; omega⟩
            · show _ = _
              have e := val_set out (38 * x) (t % 32) (by omega)
              rw [HY.out] at e
              rw [e, HO.out, foldTo, if_neg ht32, HX.out]
            · show ∀ _, _
              intro j
              rw [getD_set _ _ _ _ (by omega)]
              split
              · omega
              · have := HB.out j; omega
            · have h := (hown.stored (t % 32) (.int .i64 (((y + 38 * x : Nat)) : Int))).1
              rw [irow_set] at h
              exact h.drew
            · exact (hbi.setCell (Nat.le_refl _) _).drew
        · have e : t = m := by omega
          subst e
          have HA : Hid (val out = gk % 256 ^ 32 + 38 * (gk / 256 ^ 32)) := by
            show _ = _
            rw [HO.out]; exact foldTo_all gk t HW.out.2.1 HW.out.1 hm1
          have hM2 : ∀ j, out.getD j 0 ≤ 1099511627776 := fun j => by have := HB.out j; omega
          obtain ⟨go, co, e2, _, _, hgo, _, hho⟩ := owns_holds hown (by omega)
          simp only [Value.slice.injEq, Option.some.injEq, Addr.mk.injEq, and_true, true_and] at e2
          obtain ⟨rfl, rfl⟩ := e2
          have HM2 : Hid _ := hM2
          clear hM2
          go_wp2_with fail
          refine (carry_any out _ 32 32 _ hol (by omega) HM2.out hho).mono ?_
          rintro e w4 ⟨g4, c4, m4, rfl, a1, a2, a3, a4, a5, a6, a7, hb4⟩
          have A6 : Hid (val out < 256 ^ m4) := a6
          clear a6
          go_wp2
          go_roundg (val out)
          case measure => rw [HA.out]; exact fold_less gk h32.out
          case rel =>
            have hz := hbi.size
            have hz2 := hb.size
            refine ⟨g4, c4, m4, rfl, a4, a5, a1, a2, by omega, ⟨A6.out, ?_, ?_⟩, a7, ?_⟩
            · rw [HA.out]; exact fold_bound gk HW.out.2.1
            · rw [HA.out, HF.out]; exact HW.out.2.2
            · exact hb.trans ((hbi.trans (hb4.mono (by omega))).mono (by omega))
    · go_wp2_with fail
      refine (high_no gk gd m cd _ hm1 hm2 HW.out.1 hhd h32).mono ?_
      rintro e w2 ⟨rfl, rfl⟩
      go_wp2
      go_ret
      exact ⟨gd, cd, gk, rfl, by omega, hgd, Nat.lt_of_not_le h32, HW.out.2.2, hhd.take hm1, hb⟩
end Go.Proofs.YtanfjkmkfcekmaaDoor
