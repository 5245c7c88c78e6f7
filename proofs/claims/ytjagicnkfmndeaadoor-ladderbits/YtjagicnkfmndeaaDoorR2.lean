/-
  What the reference package's carry and high do: the same number in digits below 256; has it a digit above the 32nd.
-/
import Derived.Test.YtjagicnkfmndeaaDoorR1
namespace Go.Proofs.YtjagicnkfmndeaaDoor
open Go.RowKit
set_option linter.unusedSimpArgs false
set_option linter.unusedVariables false

theorem late_bound {k c : Nat} (h : 64 ≤ k → c * 256 ^ (k - 64) ≤ 1099511627776) (hc : 0 < c) : k ≤ 69 := by
  refine Nat.le_of_not_lt fun h70 => ?_
  have h1 := h (by omega)
  have h2 : 256 ^ 6 ≤ 256 ^ (k - 64) := Nat.pow_le_pow_right (by decide) (by omega)
  have h3 : 1 * 256 ^ (k - 64) ≤ c * 256 ^ (k - 64) := Nat.mul_le_mul_right _ hc
  omega
theorem late_step {k c x : Nat} (h : 64 ≤ k → c * 256 ^ (k - 64) ≤ 1099511627776) (hc : c ≤ 1099511627776) (hx : x ≤ 1099511627776) (h0 : 64 ≤ k → x = 0) : 64 ≤ k + 1 → (c + x) / 256 * 256 ^ (k + 1 - 64) ≤ 1099511627776 := by
  intro hk
  by_cases e : k + 1 = 64
  · rw [e]; simp; omega
  · have h1 := h (by omega)
    rw [h0 (by omega), Nat.add_zero, show k + 1 - 64 = (k - 64) + 1 from by omega, Nat.pow_succ, Nat.mul_comm _ 256, ← Nat.mul_assoc]
    exact Nat.le_trans (Nat.mul_le_mul_right _ (Nat.div_mul_le_self c 256)) h1
theorem take_all_val (l : List Nat) (k : Nat) (h : l.length ≤ k) : l.take k = l := List.take_of_length_le h
theorem div_zero_lt {a b : Nat} (hb : 0 < b) (h : 0 = a / b) : a < b := by
  have := (Nat.div_eq_zero_iff (a := a) (b := b)).1 h.symm
  omega

set_option maxHeartbeats 1000000 in
theorem carry_any (l : List Nat) (g n cap : Nat) (w : World) (hn : l.length = n) (h64 : n ≤ 64) (hM : ∀ j, l.getD j 0 ≤ 1099511627776) (hh : Holds w g l) :
    Calls Tryd.prog 62 #[.slice (some ⟨g, 0, none⟩) n cap] w fun e w' => ∃ g' cap' m, e = .returned (.slice (some ⟨g', 0, none⟩) m cap') ∧ m ≤ cap' ∧ cap' ≤ maxLen ∧ w.heap.size ≤ g' ∧ 32 ≤ m ∧ m ≤ 70 ∧ val l < 256 ^ m ∧ Holds w' g' (digs (val l) m) ∧ Below w.heap.size w w' := by
  go_enter Tryd.func62, Tryd.ntmps62
  go_wp2
  go_loopw [3, 4, 5] (fun v sc i wr => ∃ k c : Nat, k ≤ 70 ∧ i = .int .i64 k ∧ sc = .int .i64 (c : Int) ∧ c ≤ 1099511627776 ∧ Hid (c = val (l.take k) / 256 ^ k) ∧ Hid (64 ≤ k → c * 256 ^ (k - 64) ≤ 1099511627776) ∧ wr.ownsRow w.heap.size 3 1 v k (irow (digs (val l) k)) ∧ Below w.heap.size w wr)
    (fun _ sc i _ => (64 - (intOf i).toNat) * 2199023255553 + (intOf sc).toNat)
  case atStart => exact ⟨0, 0, by omega, rfl, rfl, by omega, (by show _ = _; simp [val]), (by show _ → _; omega), World.ownsRow_nil _ _ _ _, Below.refl _ _⟩
  case round =>
    obtain ⟨k, c, hk, rfl, rfl, hc, HC, HL, hown, hb⟩ := hrel
    have hz := hb.size
    by_cases hgo : k < n ∨ 0 < c ∨ k < 32
    · have hk69 : k ≤ 69 := by
        by_cases h0 : 0 < c
        · exact late_bound HL.out h0
        · omega
      have hx : l.getD k 0 ≤ 1099511627776 := hM k
      have HS : Hid ((c + l.getD k 0) % 256 = val l / 256 ^ k % 256 ∧ (c + l.getD k 0) / 256 = val (l.take (k + 1)) / 256 ^ (k + 1)) := by
        have := carry_step l k
        rw [← HC.out] at this
        exact this
      have HL' : Hid (64 ≤ k + 1 → (c + l.getD k 0) / 256 * 256 ^ (k + 1 - 64) ≤ 1099511627776) := late_step HL.out hc hx (fun h => getD_over l k (by omega))
      have hcell : k < n → wr.cell? ⟨g, k, none⟩ = some (.int .i64 ((l.getD k 0 : Nat) : Int)) := fun h => (hh.under hb).2 k (by omega)
      have hx0 : ¬ k < n → l.getD k 0 = 0 := fun h => getD_over l k (by omega)
      have HD : Hid (irow (digs (val l) (k + 1)) = irow (digs (val l) k) ++ [.int .i64 (((c + l.getD k 0) % 256 : Nat) : Int)]) := by show _ = _; rw [digs_succ, irow_snoc, HS.out.1]
      have HQ : Hid ((c + l.getD k 0) / 256 = val (l.take (k + 1)) / 256 ^ (k + 1)) := HS.out.2
      have HM : Hid (k < 64 ∨ 0 < c) := by show _ ∨ _; omega
      have HZ : Hid (64 ≤ k → l.getD k 0 = 0) := fun h => getD_over l k (by omega)
      clear HS HC HL hM hh
      generalize l.getD k 0 = x at *
      by_cases hkn : k < n
      · have hcell' := hcell hkn
        clear hcell hx0 hgo
        go_wp2_with (first
          | (at_builtin; refine wpList_app1 rfl _ _ rfl w.heap.size _ _ _ rfl (hown.alloc _) wr.heap.size (((c + x) % 256 : Nat) : Int) rfl ?c1 ?c3 ?c5 ?_)
          | go_in)
        case c1 => simp
        case c3 => omega
        case c5 => first | omega | (simp; omega)
        intro v' w1 hown' hgrow
        go_wp2
        go_roundw
        case rel =>
          refine ⟨k + 1, (c + x) / 256, by omega, by go_num, by go_num, by omega, HQ, HL', ?_, (hb.alloc hz _).trans (grown_below hgrow (hown.alloc _) (Nat.le_refl _) (by simp; omega))⟩
          rw [HD.out]; exact hown'
        case measure => have := HM.out; have := HZ.out; simp [intOf]; omega
      · have e0 := hx0 hkn
        clear hcell hx0
        subst e0
        by_cases h0 : 0 < c
        all_goals
          go_wp2_with (first
            | (at_builtin; refine wpList_app1 rfl _ _ rfl w.heap.size _ _ _ rfl (hown.alloc _) wr.heap.size (((c + 0) % 256 : Nat) : Int) rfl ?c1 ?c3 ?c5 ?_)
            | go_in)
          (try case c1 => simp)
          case c3 => omega
          case c5 => first | omega | (simp; omega)
          intro v' w1 hown' hgrow
          go_wp2
          go_roundw
          case rel =>
            refine ⟨k + 1, (c + 0) / 256, by omega, by go_num, by go_num, by omega, HQ, HL', ?_, (hb.alloc hz _).trans (grown_below hgrow (hown.alloc _) (Nat.le_refl _) (by simp; omega))⟩
            rw [HD.out]; exact hown'
          case measure => have := HM.out; simp [intOf]; omega
    · have e0 : c = 0 := by omega
      subst e0
      have h1 : ¬ k < n := by omega
      have h2 : ¬ k < 32 := by omega
      have HV : Hid (val l < 256 ^ k) := by
        have := HC.out
        rw [take_all_val l k (by omega)] at this
        exact div_zero_lt (Nat.pow_pos (by decide)) this
      clear HC HL hgo
      go_wp2
      go_ret
      obtain ⟨g', cap', rfl, h3, h4, h5, h6, h7⟩ := owns_holds hown (by omega)
      exact ⟨g', cap', k, rfl, h3, h4, h5, by omega, hk, HV.out, h7, hb⟩

set_option maxHeartbeats 1000000 in
theorem high_any (V g m cap : Nat) (w : World) (h32 : 32 ≤ m) (hm : m ≤ 70) (hV : V < 256 ^ m) (hh : Holds w g (digs V m)) :
    Calls Tryd.prog 63 #[.slice (some ⟨g, 0, none⟩) m cap] w fun e w' => e = .returned (.bool (decide (256 ^ 32 ≤ V))) ∧ w' = w := by
  have HV : Hid (V < 256 ^ m) := hV
  clear hV
  go_enter Tryd.func63, Tryd.ntmps63
  go_wp2
  go_loop [3] (fun i => ∃ k : Nat, 32 ≤ k ∧ k ≤ m ∧ i = .int .i64 k ∧ Hid (∀ j, 32 ≤ j → j < k → V / 256 ^ j % 256 = 0)) (fun i => m - (intOf i).toNat)
  case atStart => exact ⟨32, by omega, by omega, rfl, fun j _ _ => by omega⟩
  case round =>
    obtain ⟨k, hk1, hk2, rfl, HN⟩ := hrel
    by_cases hlt : k < m
    · have hcell := hh.2 k (by rw [digs_len]; exact hlt)
      have hd : (digs V m).getD k 0 = V / 256 ^ k % 256 := by simp [digs, List.getD, hlt]
      rw [hd] at hcell
      have HD : Hid (∀ d, V / 256 ^ k % 256 = d → d = V / 256 ^ k % 256) := fun d h => h.symm
      generalize hdd : V / 256 ^ k % 256 = d at *
      have HE : Hid (V / 256 ^ k % 256 = d) := hdd
      clear hd HD hh hdd
      by_cases hd0 : 0 < d
      · go_wp2
        go_ret
        have h1 := high_some V k hk1 (by rw [HE.out]; omega)
        exact ⟨congrArg (fun b => Ending.returned (Value.bool b)) (decide_eq_true h1).symm, rfl⟩
      · go_wp2
        go_round
        case rel =>
          refine ⟨k + 1, by omega, by omega, by go_num, fun j h1 h2 => ?_⟩
          by_cases e : j = k
          · subst e; rw [HE.out]; omega
          · exact HN.out j h1 (by omega)
        case measure => simp [intOf]; omega
    · go_wp2
      go_ret
      have e : k = m := by omega
      subst e
      have h1 := high_none V k HV.out h32 HN.out
      exact ⟨congrArg (fun b => Ending.returned (Value.bool b)) (decide_eq_false (by omega)).symm, rfl⟩
end Go.Proofs.YtjagicnkfmndeaaDoor
