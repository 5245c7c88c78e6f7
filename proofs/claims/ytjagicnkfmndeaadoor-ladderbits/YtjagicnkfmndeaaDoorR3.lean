/-
  What the reference package's below does: is a number of 32 digits below p.
-/
import Derived.Test.YtjagicnkfmndeaaDoorR2
namespace Go.Proofs.YtjagicnkfmndeaaDoor
open Go.RowKit
set_option linter.unusedSimpArgs false
set_option linter.unusedVariables false

theorem digs_at (V m k : Nat) (h : k < m) : (digs V m).getD k 0 = V / 256 ^ k % 256 := by simp [digs, List.getD, h]

set_option maxHeartbeats 1000000 in
theorem below_any (V g cap : Nat) (w : World) (hV : V < 256 ^ 32) (hh : Holds w g (digs V 32)) :
    Calls Tryd.prog 54 #[.slice (some ⟨g, 0, none⟩) 32 cap] w fun e w' => e = .returned (.bool (decide (V < 57896044618658097711785492504343953926634992332820282019728792003956564819949))) ∧ Below w.heap.size w w' := by
  have HP : Hid (57896044618658097711785492504343953926634992332820282019728792003956564819949 < 256 ^ 32 ∧ ∀ i, i < 32 → primeL.getD i 0 = 57896044618658097711785492504343953926634992332820282019728792003956564819949 / 256 ^ i % 256) := ⟨by decide, primeL_at⟩
  generalize 57896044618658097711785492504343953926634992332820282019728792003956564819949 = p at *
  have HV : Hid (V < 256 ^ 32) := hV
  clear hV
  go_enter Tryd.func54, Tryd.ntmps54
  go_wp2_with fail
  refine (prime_any _).mono ?_
  rintro e w1 ⟨v, rfl, hown, hb1⟩
  obtain ⟨gp, cp, rfl, _, _, hgp, _, hhp⟩ := owns_holds hown (by omega)
  have hh1 := hh.under hb1
  clear hown hh
  go_wp2
  go_loopw [4] (fun i wr => ∃ k : Nat, k ≤ 32 ∧ i = .int .i64 ((k : Int) - 1) ∧ Hid (V / 256 ^ k = p / 256 ^ k) ∧ Below w1.heap.size w1 wr) (fun i _ => (intOf i + 1).toNat)
  case atStart => exact ⟨32, by omega, rfl, (by show _ = _; rw [Nat.div_eq_of_lt HV.out, Nat.div_eq_of_lt HP.out.1]), Below.refl _ _⟩
  case round =>
    obtain ⟨k, hk, rfl, HE, hb⟩ := hrel
    cases k with
    | zero =>
      go_wp2
      go_ret
      have e : V = p := by have := HE.out; simpa using this
      exact ⟨congrArg (fun b => Ending.returned (Value.bool b)) (decide_eq_false (by omega)).symm, hb1.trans (hb.mono hb1.size)⟩
    | succ j =>
      have e1 : (((j + 1 : Nat) : Int) - 1) = (j : Int) := by omega
      rw [e1]
      have c1 := (hh1.under hb).2 j (by rw [digs_len]; omega)
      have c2 := (hhp.under hb).2 j (by rw [primeL_len]; omega)
      rw [digs_at V 32 j (by omega)] at c1
      rw [HP.out.2 j (by omega)] at c2
      have HS := cmp_same V p j HE.out
      have HO := cmp_other V p j HE.out
      have hj : j < 32 := by omega
      generalize hx : V / 256 ^ j % 256 = x at *
      generalize hy : p / 256 ^ j % 256 = y at *
      have HS' : Hid _ := HS
      have HO' : Hid _ := HO
      clear HS HO hx hy e1 hk
      by_cases hxy : x = y
      · have hne : ((x : Int) != (y : Int)) = false := by simp [hxy]
        go_wp2
        go_quiet (fail)
        go_wp2
        go_roundw
        case rel => exact ⟨j, by omega, by go_num, HS'.out hxy, by exact Below.trans hb ⟨rfl, rfl, rfl, Nat.le_refl _, fun _ _ => rfl⟩⟩
        case measure => simp [intOf]
      · have hne : ((x : Int) != (y : Int)) = true := by rw [bne_iff_ne]; omega
        have HR : Hid (decide (x < y) = decide (V < p)) := by
          have := HO'.out hxy
          show _ = _
          rw [decide_eq_decide]; omega
        go_wp2
        go_quiet (fail)
        go_wp2
        go_quiet (fail)
        go_wp2
        go_ret
        refine ⟨?_, hb1.trans (Below.mono (hb.trans ⟨rfl, rfl, rfl, Nat.le_refl _, fun _ _ => rfl⟩) hb1.size)⟩
        exact congrArg (fun b => Ending.returned (Value.bool b)) HR.out
end Go.Proofs.YtjagicnkfmndeaaDoor
