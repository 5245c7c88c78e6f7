/-
  General pieces, joined: L2 D8 L1 Open E7 E1 E5.
-/
import Derived.Test.YtkibojjbghopkaaDoorG08
import Derived.Test.YtkibojjbghopkaaDoorG11
import Derived.Test.YtkibojjbghopkaaDoorG14
import Derived.Test.YtkibojjbghopkaaDoorG17
import Derived.Test.YtkibojjbghopkaaDoorG07
import Derived.ProofKit
import Derived.LaidMore
import Derived.OpenShut
import Derived.Stop.Joined
import Derived.ChangeOld
import Derived.Below
import Derived.Test.YtkibojjbghopkaaDoorG16
/-
  What LimbInverts answers: true, whatever the number is.
-/
namespace Go.Proofs.YtkibojjbghopkaaDoor
open Go.RowKit
set_option linter.unusedSimpArgs false
set_option linter.unusedVariables false

theorem b0 (w : World) : (Instr.build 22 #[]).run Tryd.prog w = .ok (.agg (numA 0)) w := by kernel_rfl
end Go.Proofs.YtkibojjbghopkaaDoor
/-
  The answers that the document fixes for the ladder are as they must be.
-/
namespace Go.Proofs.YtkibojjbghopkaaDoor
open Go Go.RowKit
set_option linter.unusedVariables false
set_option linter.unusedSimpArgs false

end Go.Proofs.YtkibojjbghopkaaDoor
/-
  What LimbTells answers: true, whatever two numbers are.
-/
namespace Go.Proofs.YtkibojjbghopkaaDoor
open Go.RowKit
set_option linter.unusedSimpArgs false
set_option linter.unusedVariables false

theorem two_nums (w : World) (a b : Nat) (W : World) (hW : (w.alloc (.cells (numA a) 22)).alloc (.cells (numA b) 22) = W) : At W w.heap.size a ∧ At W (w.heap.size + 1) b ∧ Below w.heap.size w W := by
  subst hW
  refine ⟨(at_new w a).alloc _, ?_, ((Below.refl _ _).alloc (Nat.le_refl _) _).alloc (by simp) _⟩
  have h := at_new (w.alloc (.cells (numA a) 22)) b
  rw [show (w.alloc (.cells (numA a) 22)).heap.size = w.heap.size + 1 from by simp] at h
  exact h

end Go.Proofs.YtkibojjbghopkaaDoor
/-
  Arguments that are read as numbers of 32 bytes; the program's variable that holds p, as it is laid.
-/
namespace Go.Proofs.YtkibojjbghopkaaDoor
open Go.ChangeShapes Go.WideShapes Go.ChangeAt Go.RowKit
set_option linter.unusedVariables false
set_option linter.unusedSimpArgs false

theorem own : ownKnob Tryd.prog.godebug = none := by kernel_rfl
theorem laidOut : laidOutB Tryd.prog = true := by kernel_rfl
theorem c5 : Tryd.prog.cellsOf 5 = 1 := by kernel_rfl
theorem c22 : Tryd.prog.cellsOf 22 = 32 := by kernel_rfl
/-- The number of digits. -/
def valOf (b : Nat → Nat) : Nat → Nat
  | 0 => 0
  | k + 1 => valOf b k + b k * 256 ^ k
theorem valOf_lt (b : Nat → Nat) (h : ∀ i, b i < 256) : ∀ k, valOf b k < 256 ^ k
  | 0 => by simp [valOf]
  | k + 1 => by
    have h1 := valOf_lt b h k
    have h2 : b k * 256 ^ k ≤ 255 * 256 ^ k := Nat.mul_le_mul_right _ (by have := h k; omega)
    simp only [valOf, Nat.pow_succ]
    omega
theorem valOf_digit (b : Nat → Nat) (h : ∀ i, b i < 256) : ∀ k i, i < k → valOf b k / 256 ^ i % 256 = b i
  | 0, i, hi => by omega
  | k + 1, i, hi => by
    simp only [valOf]
    by_cases hik : i = k
    · subst hik
      rw [Nat.add_mul_div_right _ _ (Nat.pow_pos (by decide)), Nat.div_eq_of_lt (valOf_lt b h i), Nat.zero_add, Nat.mod_eq_of_lt (h i)]
    · have hlt : i < k := by omega
      have e : b k * 256 ^ k = 256 ^ i * (256 * (b k * 256 ^ (k - i - 1))) := by
        have : 256 ^ k = 256 ^ i * (256 * 256 ^ (k - i - 1)) := by
          rw [← Nat.pow_succ', ← Nat.pow_add]
          congr 1
          omega
        rw [this]
        simp only [Nat.mul_left_comm, Nat.mul_comm, Nat.mul_assoc]
      rw [e, Nat.add_mul_div_left _ _ (Nat.pow_pos (by decide)), Nat.add_mul_mod_self_left]
      exact valOf_digit b h k i hlt

theorem numA_of (cs : Array Value) (hs : cs.size = 32) (h : ∀ i, i < 32 → ∃ k : Int, cs[i]? = some (.int .u8 k) ∧ 0 ≤ k ∧ k ≤ 255) : ∃ n, cs = numA n ∧ n < 115792089237316195423570985008687907853269984665640564039457584007913129639936 := by
  have hb : ∀ i, ∃ k : Nat, k < 256 ∧ (i < 32 → cs[i]? = some (.int .u8 (k : Int))) := by
    intro i
    by_cases hi : i < 32
    · obtain ⟨k, hk, h0, h1⟩ := h i hi
      exact ⟨k.toNat, by omega, fun _ => by rw [hk, Int.toNat_of_nonneg h0]⟩
    · exact ⟨0, by omega, fun h' => absurd h' hi⟩
  let b : Nat → Nat := fun i => Classical.choose (hb i)
  have b1 : ∀ i, b i < 256 := fun i => (Classical.choose_spec (hb i)).1
  have b2 : ∀ i, i < 32 → cs[i]? = some (.int .u8 (b i : Int)) := fun i => (Classical.choose_spec (hb i)).2
  refine ⟨valOf b 32, ?_, by have := valOf_lt b b1 32; exact Nat.lt_of_lt_of_le this (by decide)⟩
  apply Array.ext_getElem?
  intro j
  by_cases hj : j < 32
  · rw [b2 j hj, numA_get _ j hj, valOf_digit b b1 32 j hj]
  · rw [Array.getElem?_eq_none (by omega), Array.getElem?_eq_none (by rw [numA_size]; omega)]

set_option maxRecDepth 100000 in
theorem open_num {H : Type} {enc : TypeId × Value → H} {W : World} {r : Reach} {b0 base : Nat} {sp : Nat → Bool} {held : Bool} {v : Value} {d : DataW H} {p : List MemPlace}
    (hv : Value.okWide Tryd.prog W r b0 22 v) (h : DataW.Trod enc Tryd.prog W base sp held 22 v d p) : ∃ n, v = .agg (numA n) ∧ n < 115792089237316195423570985008687907853269984665640564039457584007913129639936 := by
  unfold Value.okWide at hv
  rw [Tryd.underlying22] at hv
  obtain ⟨cs, rfl, hsz, _⟩ := hv
  rw [c22] at hsz
  obtain ⟨fuel, hf⟩ := h
  obtain ⟨xs, m, rfl, hx, hlen, hn, hel⟩ := DataW.trod_array Tryd.underlying22 hf
  obtain ⟨n, rfl, hn'⟩ := numA_of cs hsz (fun i hi => by
    have h1 := hel i hi
    rw [c5, Nat.mul_one] at h1
    have hxi : xs[i]? = some (xs[i]'(by omega)) := List.getElem?_eq_getElem _
    rw [hxi] at h1
    obtain ⟨k, e1, e2, hwf⟩ := DataW.trod_int Tryd.underlying5 h1
    have hi' : i < cs.size := by omega
    have e3 : ((Value.agg cs).cells.toList.drop i).take 1 = [cs[i]] := by
      simp only [Value.cells]
      rw [List.drop_eq_getElem_cons (by simpa using hi')]
      simp
    rw [e3] at e1
    refine ⟨k, ?_, ?_⟩
    · rw [Array.getElem?_eq_getElem hi']
      simpa using e1
    · exact bounds_u8 hwf)
  exact ⟨n, rfl, hn'⟩

end Go.Proofs.YtkibojjbghopkaaDoor
/-
  What LadderBoth answers: true, whatever the two secrets and the point are.
-/
namespace Go.Proofs.YtkibojjbghopkaaDoor
open Go Go.RowKit
set_option linter.unusedVariables false
set_option linter.unusedSimpArgs false

end Go.Proofs.YtkibojjbghopkaaDoor
/-
  What LadderReduced answers: true, whatever the secret and the point are.
-/
namespace Go.Proofs.YtkibojjbghopkaaDoor
open Go Go.RowKit
set_option linter.unusedVariables false
set_option linter.unusedSimpArgs false

end Go.Proofs.YtkibojjbghopkaaDoor
/-
  What LadderBits answers: true, whatever the secret, the point and the bits are.
-/
namespace Go.Proofs.YtkibojjbghopkaaDoor
open Go Go.RowKit
set_option linter.unusedVariables false
set_option linter.unusedSimpArgs false

theorem clamp_comp (d m h : Nat) (hd : d < 256) (hm : m < 1766847064778384329583297500742918515827483896875618958121606201292619776) (hh : h < 256) : clampN (comp d m h) = comp (d - d % 8) m (h % 64 + 64) := by
  have e1 : comp d m h % 256 = d := comp_low d m h hd
  have e2 : comp d m h % 8 = d % 8 := by unfold comp; omega
  have e3 : comp d m h / 256 % 1766847064778384329583297500742918515827483896875618958121606201292619776 = m := by unfold comp; omega
  have e4 : comp d m h / 452312848583266388373324160190187140051835877600158453279131187530910662656 % 64 = h % 64 := by unfold comp; omega
  unfold clampN
  rw [e1, e2, e3, e4]
theorem clamp_of (k : Nat) : clampN k = comp (k % 256 - k % 8) (k / 256 % 1766847064778384329583297500742918515827483896875618958121606201292619776) (k / 452312848583266388373324160190187140051835877600158453279131187530910662656 % 64 + 64) := rfl
theorem clamp_twice (k : Nat) : clampN (clampN k) = clampN k := by
  rw [clamp_of k, clamp_comp _ _ _ (by omega) (Nat.mod_lt _ (by decide)) (by omega)]
  congr 1 <;> omega
theorem XN_ck (k l u v : Nat) (h1 : clampN l = clampN k) (h2 : lowN v = lowN u) : XN l v = XN k u := by rw [XN_eq, XN_eq, h1, h2]

end Go.Proofs.YtkibojjbghopkaaDoor
