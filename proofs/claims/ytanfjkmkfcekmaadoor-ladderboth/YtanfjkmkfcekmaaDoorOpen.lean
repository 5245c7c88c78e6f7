/-
  Arguments that are read as numbers of 32 bytes; the program's variable that holds p, as it is laid.
-/
import Derived.Test.YtanfjkmkfcekmaaDoorW13
import Derived.ProofKit
import Derived.LaidMore
import Derived.OpenShut
import Derived.Stop.Joined
import Derived.ChangeOld
import Derived.Below
namespace Go.Proofs.YtanfjkmkfcekmaaDoor
open Go.ChangeShapes Go.WideShapes Go.ChangeAt Go.RowKit
set_option linter.unusedVariables false
set_option linter.unusedSimpArgs false

theorem own : ownKnob Tryd.prog.godebug = none := by kernel_rfl
theorem laidOut : laidOutB Tryd.prog = true := by kernel_rfl
theorem gPrime : Tryd.prog.globalNamed "signetring/limb.prime" = some 0 := by kernel_rfl
theorem tPrime : (Tryd.prog.globals[0]?).map (·.type) = some 41 := by kernel_rfl
theorem c5 : Tryd.prog.cellsOf 5 = 1 := by kernel_rfl
theorem c22 : Tryd.prog.cellsOf 22 = 32 := by kernel_rfl
theorem c36 : Tryd.prog.cellsOf 39 = 1 := by kernel_rfl
theorem c38 : Tryd.prog.cellsOf 41 = 4 := by kernel_rfl

/-- The number of digits. -/
def valOf (b : Nat → Nat) : Nat → Nat
  | 0 => 0
  | k + 1 => valOf b k + b k * 256 ^ k
theorem valOf_lt (b : Nat → Nat) (h : ∀ i, b i < 256) : ∀ k, valOf b k < 256 ^ k
  | 0 => by simp [valOf]
  | k + 1 => by
    have h1 := valOf_lt b h k
    have h2 : b k * 256 ^ k ≤ 255 * 256 ^ k := Nat.mul_le_mul_right _ (by have := h k; omega)
    simp only [valOf, Nat.pow_succ]
    omega
theorem valOf_digit (b : Nat → Nat) (h : ∀ i, b i < 256) : ∀ k i, i < k → valOf b k / 256 ^ i % 256 = b i
  | 0, i, hi => by omega
  | k + 1, i, hi => by
    simp only [valOf]
    by_cases hik : i = k
    · subst hik
      rw [Nat.add_mul_div_right _ _ (Nat.pow_pos (by decide)), Nat.div_eq_of_lt (valOf_lt b h i), Nat.zero_add, Nat.mod_eq_of_lt (h i)]
    · have hlt : i < k := by omega
      have e : b k * 256 ^ k = 256 ^ i * (256 * (b k * 256 ^ (k - i - 1))) := by
        have : 256 ^ k = 256 ^ i * (256 * 256 ^ (k - i - 1)) := by
          rw [← Nat.pow_succ', ← Nat.pow_add]
          congr 1
          omega
        rw [this]
        simp only [Nat.mul_left_comm, Nat.mul_comm, Nat.mul_assoc]
      rw [e, Nat.add_mul_div_left _ _ (Nat.pow_pos (by decide)), Nat.add_mul_mod_self_left]
      exact valOf_digit b h k i hlt

theorem numA_of (cs : Array Value) (hs : cs.size = 32) (h : ∀ i, i < 32 → ∃ k : Int, cs[i]? = some (.int .u8 k) ∧ 0 ≤ k ∧ k ≤ 255) : ∃ n, cs = numA n ∧ n < 115792089237316195423570985008687907853269984665640564039457584007913129639936 := by
  have hb : ∀ i, ∃ k : Nat, k < 256 ∧ (i < 32 → cs[i]? = some (.int .u8 (k : Int))) := by
    intro i
    by_cases hi : i < 32
    · obtain ⟨k, hk, h0, h1⟩ := h i hi
      exact ⟨k.toNat, by omega, fun _ => by rw [hk, Int.toNat_of_nonneg h0]⟩
    · exact ⟨0, by omega, fun h' => absurd h' hi⟩
  let b : Nat → Nat := fun i => Classical.choose (hb i)
  have b1 : ∀ i, b i < 256 := fun i => (Classical.choose_spec (hb i)).1
  have b2 : ∀ i, i < 32 → cs[i]? = some (.int .u8 (b i : Int)) := fun i => (Classical.choose_spec (hb i)).2
  refine ⟨valOf b 32, ?_, by have := valOf_lt b b1 32; exact Nat.lt_of_lt_of_le this (by decide)⟩
  apply Array.ext_getElem?
  intro j
  by_cases hj : j < 32
  · rw [b2 j hj, numA_get _ j hj, valOf_digit b b1 32 j hj]
  · rw [Array.getElem?_eq_none (by omega), Array.getElem?_eq_none (by rw [numA_size]; omega)]

theorem open_num {H : Type} {enc : TypeId × Value → H} {W : World} {r : Reach} {b0 base : Nat} {sp : Nat → Bool} {held : Bool} {v : Value} {d : DataW H} {p : List MemPlace}
    (hv : Value.okWide Tryd.prog W r b0 22 v) (h : DataW.Trod enc Tryd.prog W base sp held 22 v d p) : ∃ n, v = .agg (numA n) ∧ n < 115792089237316195423570985008687907853269984665640564039457584007913129639936 := by
  unfold Value.okWide at hv
  rw [Tryd.underlying22] at hv
  obtain ⟨cs, rfl, hsz, _⟩ := hv
  rw [c22] at hsz
  obtain ⟨fuel, hf⟩ := h
  obtain ⟨xs, m, rfl, hx, hlen, hn, hel⟩ := DataW.trod_array Tryd.underlying22 hf
  obtain ⟨n, rfl, hn'⟩ := numA_of cs hsz (fun i hi => by
    have h1 := hel i hi
    rw [c5, Nat.mul_one] at h1
    have hxi : xs[i]? = some (xs[i]'(by omega)) := List.getElem?_eq_getElem _
    rw [hxi] at h1
    obtain ⟨k, e1, e2, hwf⟩ := DataW.trod_int Tryd.underlying5 h1
    have hi' : i < cs.size := by omega
    have e3 : ((Value.agg cs).cells.toList.drop i).take 1 = [cs[i]] := by
      simp only [Value.cells]
      rw [List.drop_eq_getElem_cons (by simpa using hi')]
      simp
    rw [e3] at e1
    refine ⟨k, ?_, ?_⟩
    · rw [Array.getElem?_eq_getElem hi']
      simpa using e1
    · exact bounds_u8 hwf)
  exact ⟨n, rfl, hn'⟩

/-- What the condition on the listed variable gives the walks. -/
theorem of_laid {W : World} (h : laidMetH Tryd.prog [("signetring/limb.prime", Rows.laid_signetring_limb_prime)] W) : PrimeAt W := by
  rw [MakeChecks.laidMetH_plain _ _ _ (by kernel_rfl)] at h
  obtain ⟨ps, ⟨g0, t0, cs0, f0, p0, q0, hg0, ht0, hv0, hd0, _, _⟩, _, _⟩ := h
  obtain rfl := Option.some.inj (gPrime.symm.trans hg0)
  obtain rfl := Option.some.inj (tPrime.symm.trans ht0)
  have hcell := fun j => World.var?_cell hg0 hv0 j
  obtain ⟨xs, m1, rfl, hx1, hlen, hn4, hel⟩ := DataW.trod_array Tryd.underlying41 hd0
  simp only [Prod.mk.injEq, DataW.agg.injEq, Rows.laid_signetring_limb_prime] at hx1
  have key : ∀ (i : Nat) (n : Int), i < 4 → (xs.map (·.1))[i]? = some (.lit (.int .u64 n)) → W.cell? ⟨0, i, none⟩ = some (.int .u64 n) := by
    intro i n hi hn
    have h1 := hel i hi
    rw [c36, Nat.mul_one] at h1
    have hxi : xs[i]? = some (xs[i]'(by omega)) := List.getElem?_eq_getElem _
    rw [hxi] at h1
    obtain ⟨k, e1, e2, _⟩ := DataW.trod_int Tryd.underlying39 h1
    have hk : k = n := by
      rw [List.getElem?_map, hxi, e2] at hn
      simpa using hn
    subst hk
    have hi' : i < cs0.toList.length := by rw [hlen, c38]; exact hi
    rw [List.drop_eq_getElem_cons hi'] at e1
    simp at e1
    have := hcell i
    rw [this]
    rw [Array.getElem?_eq_getElem (by simpa using hi')]
    exact congrArg some e1
  rw [← hx1.1] at key
  exact ⟨key 0 _ (by decide) rfl, key 1 _ (by decide) rfl, key 2 _ (by decide) rfl, key 3 _ (by decide) rfl⟩
end Go.Proofs.YtanfjkmkfcekmaaDoor
