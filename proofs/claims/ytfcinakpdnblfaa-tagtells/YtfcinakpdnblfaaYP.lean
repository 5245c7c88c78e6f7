/-
  Slices of ints that a call owns; the reference's carry.
-/
import Derived.Test.YtfcinakpdnblfaaYI
namespace Go.Proofs.Ytfcinakpdnblfaa.sh
open Go Go.RowKit
set_option linter.unusedVariables false
set_option linter.unusedSimpArgs false

/-- A slice of ints in a block of its own. -/
def OI (base g n cap : Nat) (l : List Nat) (w : World) : Prop := base ≤ g ∧ l.length = n ∧ n ≤ cap ∧ cap ≤ maxLen ∧ ∃ cur, Blk w g 3 cur ∧ cur.size = cap ∧ ∀ (i x : Nat), l[i]? = some x → cur[i]? = some (.int .i64 (x : Int))
theorem OI.len {base g n cap : Nat} {l : List Nat} {w : World} (h : OI base g n cap l w) : l.length = n := h.2.1
theorem OI.lt {base g n cap : Nat} {l : List Nat} {w : World} (h : OI base g n cap l w) : g < w.heap.size := by obtain ⟨_, _, _, _, cur, hB, _⟩ := h; exact hB.lt
theorem OI.cell {base g n cap : Nat} {l : List Nat} {w : World} (h : OI base g n cap l w) {i x : Nat} (hx : l[i]? = some x) : w.cell? ⟨g, i, none⟩ = some (.int .i64 (x : Int)) := by
  obtain ⟨_, _, _, _, cur, hB, _, hc⟩ := h
  exact hB.cell (hc i x hx)
theorem OI.under {base g n cap : Nat} {l : List Nat} {w w' : World} (h : OI base g n cap l w) (hb : Below w.heap.size w w') : OI base g n cap l w' := by
  obtain ⟨h1, h2, h3, h4, cur, hB, hs, hc⟩ := h
  exact ⟨h1, h2, h3, h4, cur, hB.under hb, hs, hc⟩
theorem OI.alloc {base g n cap : Nat} {l : List Nat} {w : World} (h : OI base g n cap l w) (o : Obj) : OI base g n cap l (w.alloc o) := by
  obtain ⟨h1, h2, h3, h4, cur, hB, hs, hc⟩ := h
  exact ⟨h1, h2, h3, h4, cur, hB.alloc o, hs, hc⟩
theorem OI.put {base g n cap k : Nat} {l : List Nat} {w w' : World} (h : OI base g n cap l w) (hp : Put w w' k) (hne : g ≠ k) : OI base g n cap l w' := by
  obtain ⟨h1, h2, h3, h4, cur, hB, hs, hc⟩ := h
  exact ⟨h1, h2, h3, h4, cur, hp.blk hB hne, hs, hc⟩
theorem OI.mono {base b' g n cap : Nat} {l : List Nat} {w : World} (h : OI base g n cap l w) (hb : b' ≤ base) : OI b' g n cap l w := ⟨Nat.le_trans hb h.1, h.2⟩
theorem OI.ints {base g n cap : Nat} {l : List Nat} {w : World} (h : OI base g n cap l w) : IntsV .i64 (.slice (some ⟨g, 0, none⟩) n cap) w l := by
  have hl := h.len
  subst hl
  refine ⟨some ⟨g, 0, none⟩, cap, rfl, h.2.2.1, fun _ => ⟨⟨g, 0, none⟩, rfl, h.lt, fun j x hx => ?_⟩⟩
  rw [addr_add, Nat.zero_add]
  exact h.cell hx
theorem OI.holds {base g n cap : Nat} {l : List Nat} {w : World} (h : OI base g n cap l w) : Holds w g l :=
  ⟨h.lt, fun j hj => h.cell (by rw [List.getD_eq_getElem?_getD, List.getElem?_eq_getElem hj]; rfl)⟩
theorem OI.holdsTake {base g n cap : Nat} {l : List Nat} {w : World} (h : OI base g n cap l w) (m : Nat) : Holds w g (l.take m) :=
  ⟨h.lt, fun j hj => h.cell (by
    rw [List.length_take] at hj
    rw [List.getD_eq_getElem?_getD, List.getElem?_take_of_lt (by omega), List.getElem?_eq_getElem (by omega)]; rfl)⟩
theorem oi_row {base : Nat} {l : List Nat} {v : Value} {w : World} (h : Row base 3 .i64 l v w) (h0 : 0 < l.length) : ∃ g cap, v = .slice (some ⟨g, 0, none⟩) l.length cap ∧ OI base g l.length cap l w := by
  obtain ⟨h1, h2⟩ := h
  rcases h2 with ⟨_, h⟩ | ⟨g, cap, cur, rfl, hb, hg, hc, hm, hs, ht⟩
  · omega
  · refine ⟨g, cap, rfl, hb, rfl, hc, hm, cur, hg, by omega, fun i x hx => ?_⟩
    have hi := (List.getElem?_eq_some_iff.1 hx).1
    have h3 : (cur.toList.take (l.length * 1))[i]? = (sh.ints .i64 l).toList[i]? := by rw [ht]
    rw [List.getElem?_take_of_lt (by omega), Array.getElem?_toList, Array.getElem?_toList] at h3
    rw [h3]
    exact ints_get hx
theorem oi_blk {base g n : Nat} {l : List Nat} {w : World} (h : Blk w g 3 (ints .i64 l)) (hb : base ≤ g) (hn : l.length = n) (hm : n ≤ maxLen) : OI base g n n l w := ⟨hb, hn, Nat.le_refl _, hm, _, h, by rw [ints_size, hn], fun i x hx => ints_get hx⟩
section
variable {ops : Array Oper} {rest : List Oper} {o : Oper} {a : Act} {w : World} {Q : Exit → Act → World → Prop}
theorem wl_setOI (hgd : o.guard = none) (x y : Operand) (ho : o.op = .store 3 x y) (base g n cap k z : Nat) (l : List Nat) (hx : a.eval x = .pointer (some ⟨g, k, none⟩)) (hy : a.eval y = .int .i64 (z : Int)) (h : OI base g n cap l w) (hk : k < n)
    (hw : ∀ w', OI base g n cap (l.set k z) w' → Put w w' g → wpList Try.prog ops Q rest (a.put o.dst undef) w') : wpList Try.prog ops Q (o :: rest) a w := by
  obtain ⟨h1, h2, h3, h4, cur, hB, hs, hc⟩ := h
  refine wl_setElem hgd 3 sz_int x y ho g k .i64 (z : Int) hx hy cur hB (by omega) fun w' hB' hp => ?_
  refine hw w' ⟨h1, by rw [List.length_set]; exact h2, h3, h4, _, hB', by rw [Array.size_setIfInBounds]; exact hs, fun i x hx => ?_⟩ hp
  rw [List.getElem?_set] at hx
  rw [Array.getElem?_setIfInBounds]
  split at hx
  · rename_i e
    subst e
    rw [if_pos (by omega)] at hx
    cases hx
    rw [if_pos rfl, if_pos (by omega)]
  · rename_i e
    rw [if_neg e]
    exact hc i x hx
end
theorem row_emptyI {base : Nat} (w : World) (hb : base ≤ w.heap.size) : Row base 3 .i64 [] (.slice (some ⟨w.heap.size, 0, none⟩) 0 0) (w.alloc (.cells #[] 3)) := World.ownsRow_lit w #[] 0 hb (by unfold maxLen; omega) rfl
theorem inf_int : (Try.prog.info? 3).map (fun i => (i.zero, i.size, i.bytes)) = some (some (.int .i64 0), 1, 8) := by kernel_rfl
theorem run_maxI (m n : Nat) (ts : Array TypeId) {o : Oper} {a : Act} {x y : Operand} {z : Nat} (ho : o.op = .call { callee := .builtin .max, args := #[x, y], argTypes := ts }) (hx : a.eval x = .int .i64 (m : Int)) (hy : a.eval y = .int .i64 (n : Int)) (hz : z = max m n) (w : World) : (execOp a.eval o).run Try.prog w = .ok (.value (.int .i64 (z : Int))) w := by
  unfold execOp
  simp only [ho, resolve, invoke, builtin, Sem.run_bind, Sem.run_pure, Result.andThen_ok, List.map_toArray, List.map_cons, List.map_nil, hx, hy, run_max_int2]
  have e : (if (m : Int) < (n : Int) then (n : Int) else (m : Int)) = (z : Int) := by split <;> omega
  rw [e]

theorem irow_ints (l : List Nat) : irow l = (ints .i64 l).toList := by simp [irow, ints]

theorem own_oi {w : World} {base k : Nat} {v : Value} {l : List Nat} (h : w.ownsRow base 3 1 v k (irow l)) (hl : l.length = k) (h0 : 0 < k) : ∃ g cap, v = .slice (some ⟨g, 0, none⟩) k cap ∧ OI base g k cap l w := by
  subst hl
  rw [irow_ints] at h
  exact oi_row h h0

set_option maxHeartbeats 2000000 in
theorem carry6 (l : List Nat) (g n cap N : Nat) (w : World) (hn : l.length = n) (h64 : n ≤ 64) (hN : N ≤ 32) (hN0 : 0 < N) (hM : ∀ j, l.getD j 0 ≤ 1099511627776) (hh : Holds w g l) :
    Calls Try.prog 22 #[.slice (some ⟨g, 0, none⟩) n cap, .int .i64 (N : Int)] w fun e w' => ∃ g' cap' m, e = .returned (.slice (some ⟨g', 0, none⟩) m cap') ∧ OI w.heap.size g' m cap' (digs (val l) m) w' ∧ N ≤ m ∧ m ≤ 70 ∧ val l < 256 ^ m ∧ Below w.heap.size w w' := by
  go_enter Try.func22, Try.ntmps22
  go_wp2
  go_loopw [5, 6, 7] (fun v sc i wr => ∃ k c : Nat, k ≤ 70 ∧ i = .int .i64 k ∧ sc = .int .i64 (c : Int) ∧ c ≤ 1099511627776 ∧ Hid (c = val (l.take k) / 256 ^ k) ∧ Hid (64 ≤ k → c * 256 ^ (k - 64) ≤ 1099511627776) ∧ wr.ownsRow w.heap.size 3 1 v k (irow (digs (val l) k)) ∧ Below w.heap.size w wr)
    (fun _ sc i _ => (64 - (intOf i).toNat) * 2199023255553 + (intOf sc).toNat)
  case atStart => exact ⟨0, 0, by omega, rfl, rfl, by omega, (by show _ = _; simp [val]), (by show _ → _; omega), World.ownsRow_nil _ _ _ _, Below.refl _ _⟩
  case round =>
    obtain ⟨k, c, hk, rfl, rfl, hc, HC, HL, hown, hb⟩ := hrel
    have hz := hb.size
    by_cases hgo : k < n ∨ 0 < c ∨ k < N
    · have hk69 : k ≤ 69 := by
        by_cases h0 : 0 < c
        · exact late_bound HL.out h0
        · omega
      have hx : l.getD k 0 ≤ 1099511627776 := hM k
      have HS : Hid ((c + l.getD k 0) % 256 = val l / 256 ^ k % 256 ∧ (c + l.getD k 0) / 256 = val (l.take (k + 1)) / 256 ^ (k + 1)) := by
        have := carry_step l k
        rw [← HC.out] at this
        exact this
      have HL' : Hid (64 ≤ k + 1 → (c + l.getD k 0) / 256 * 256 ^ (k + 1 - 64) ≤ 1099511627776) := late_step HL.out hc hx (fun h => getD_over l k (by omega))
      have hcell : k < n → wr.cell? ⟨g, k, none⟩ = some (.int .i64 ((l.getD k 0 : Nat) : Int)) := fun h => (hh.under hb).2 k (by omega)
      have hx0 : ¬ k < n → l.getD k 0 = 0 := fun h => getD_over l k (by omega)
      have HD : Hid (irow (digs (val l) (k + 1)) = irow (digs (val l) k) ++ [.int .i64 (((c + l.getD k 0) % 256 : Nat) : Int)]) := by show _ = _; rw [digs_succ, irow_snoc, HS.out.1]
      have HQ : Hid ((c + l.getD k 0) / 256 = val (l.take (k + 1)) / 256 ^ (k + 1)) := HS.out.2
      have HM : Hid (k < 64 ∨ 0 < c) := by show _ ∨ _; omega
      have HZ : Hid (64 ≤ k → l.getD k 0 = 0) := fun h => getD_over l k (by omega)
      clear HS HC HL hM hh
      generalize l.getD k 0 = x at *
      by_cases hkn : k < n
      · have hcell' := hcell hkn
        clear hcell hx0 hgo
        go_wp2_with (first
          | (at_builtin; refine wpList_app1 rfl _ _ rfl w.heap.size _ _ _ rfl (hown.alloc _) wr.heap.size (((c + x) % 256 : Nat) : Int) rfl ?c1 ?c3 ?c5 ?_)
          | go_in)
        case c1 => simp
        case c3 => omega
        case c5 => first | omega | (simp; omega)
        intro v' w1 hown' hgrow
        go_wp2
        go_roundw
        case rel =>
          refine ⟨k + 1, (c + x) / 256, by omega, by go_num, by go_num, by omega, HQ, HL', ?_, (hb.alloc hz _).trans (grown_below hgrow (hown.alloc _) (Nat.le_refl _) (by simp; omega))⟩
          rw [HD.out]; exact hown'
        case measure => have := HM.out; have := HZ.out; simp [intOf]; omega
      · have e0 := hx0 hkn
        clear hcell hx0
        subst e0
        by_cases h0 : 0 < c
        all_goals
          go_wp2_with (first
            | (at_builtin; refine wpList_app1 rfl _ _ rfl w.heap.size _ _ _ rfl (hown.alloc _) wr.heap.size (((c + 0) % 256 : Nat) : Int) rfl ?c1 ?c3 ?c5 ?_)
            | go_in)
          (try case c1 => simp)
          case c3 => omega
          case c5 => first | omega | (simp; omega)
          intro v' w1 hown' hgrow
          go_wp2
          go_roundw
          case rel =>
            refine ⟨k + 1, (c + 0) / 256, by omega, by go_num, by go_num, by omega, HQ, HL', ?_, (hb.alloc hz _).trans (grown_below hgrow (hown.alloc _) (Nat.le_refl _) (by simp; omega))⟩
            rw [HD.out]; exact hown'
          case measure => have := HM.out; simp [intOf]; omega
    · have e0 : c = 0 := by omega
      subst e0
      have h1 : ¬ k < n := by omega
      have h2 : ¬ k < N := by omega
      have HV : Hid (val l < 256 ^ k) := by
        have := HC.out
        rw [take_all_val l k (by omega)] at this
        exact div_zero_lt (Nat.pow_pos (by decide)) this
      clear HC HL hgo
      go_wp2
      go_ret
      obtain ⟨g', cap', rfl, ho⟩ := own_oi hown (digs_len _ _) (by omega)
      exact ⟨g', cap', k, rfl, ho, by omega, hk, HV.out, hb⟩
end Go.Proofs.Ytfcinakpdnblfaa.sh
