/-
  What package limb does with 32 bytes: their four words.
-/
import Derived.Test.YtanfjkmkfcekmaaDoorW2
import Derived.Deep.RegionWith
namespace Go.Proofs.YtanfjkmkfcekmaaDoor
open Go.RowKit
set_option linter.unusedSimpArgs false
set_option linter.unusedVariables false

/-- A word of a number, from byte 'off' on. -/
def wd (n off : Nat) : Int := ((n / 256 ^ off % 18446744073709551616 : Nat) : Int)

theorem word_at (X : Value) (g off cap n : Nat) (w : World) (hX : X = .slice (some ⟨g, off, none⟩) 8 cap) (hW : w.heap[g]? = some (.cells (numA n) 22 (0, 0))) (ho : off + 8 ≤ 32) :
    Calls Tryd.prog 48 #[X] w fun e w' => e = .returned (.int .u64 (wd n off)) ∧ Below w.heap.size w w' := by
  subst hX
  exact word_any g off cap n w fun i hi => by rw [cell_of_row w g (off + i) _ _ _ hW, numA_get n (off + i) (by omega)]

set_option maxHeartbeats 4000000 in
theorem load_walk (n : Nat) (w : World) :
    Calls Tryd.prog 32 #[.agg (numA n)] w
      fun e w' => e = .returned (.agg #[.int .u64 (wd n 0), .int .u64 (wd n 8), .int .u64 (wd n 16), .int .u64 (wd n 24)]) ∧ Below w.heap.size w w' := by
  have hs := numA_size n
  go_enter Tryd.func32, Tryd.ntmps32
  go_wp2
  have K0 : ((w.alloc (.cells (numA n) 22)).alloc (.cells #[.int .u64 0, .int .u64 0, .int .u64 0, .int .u64 0] 41)).heap[w.heap.size]? = some (.cells (numA n) 22 (0, 0)) := heap_alloc2_old _ _ _
  have Q0 : Below w.heap.size w ((w.alloc (.cells (numA n) 22)).alloc (.cells #[.int .u64 0, .int .u64 0, .int .u64 0, .int .u64 0] 41)).drew := by (repeat (first | with_reducible exact Below.refl _ _ | with_reducible assumption | with_reducible refine Below.drew ?_ | (with_reducible refine Below.alloc ?_ ?hB _; (case hB => first | omega | (simp <;> omega))) | (with_reducible refine Below.setCell ?_ ?hB _; (case hB => first | omega | (simp <;> omega)))))
  have K : Hid _ := K0
  have QB : Hid _ := Q0
  clear K0 Q0
  have ca : ∀ j, ((w.alloc (.cells (numA n) 22)).alloc (.cells #[.int .u64 0, .int .u64 0, .int .u64 0, .int .u64 0] 41)).cell? ⟨w.heap.size + 1, j, none⟩ = [Value.int .u64 0, .int .u64 0, .int .u64 0, .int .u64 0][j]? := by intro j; simp [go_sem]
  have fa : ∀ j, ((w.alloc (.cells (numA n) 22)).alloc (.cells #[.int .u64 0, .int .u64 0, .int .u64 0, .int .u64 0] 41)).frozen? ⟨w.heap.size + 1, j, none⟩ = false := by intro j; simp [go_sem]
  have lt : Hid (w.heap.size + 1 < ((w.alloc (.cells (numA n) 22)).alloc (.cells #[.int .u64 0, .int .u64 0, .int .u64 0, .int .u64 0] 41)).heap.size) := by show _ < _; simp
  have CA : Hid _ := ca
  have FA : Hid _ := fa
  clear ca fa
  go_region_with (go_at_call 48; go_must (refine (word_at _ _ _ _ n _ rfl ?hW ?ho).mono ?_; (case hW => exact K.out); (case ho => omega); rintro e w1 ⟨rfl, hb⟩; replace K : Hid _ := (hb.block _ (Nat.lt_trans (Nat.lt_succ_self _) lt.out)).trans K.out; replace CA : Hid _ := (fun j => (hb.cell (p := ⟨w.heap.size + 1, j, none⟩) lt.out).trans (CA.out j)); replace FA : Hid _ := (fun j => (hb.frozen (p := ⟨w.heap.size + 1, j, none⟩) lt.out).trans (FA.out j)); replace QB : Hid (Below w.heap.size w w1) := Below.trans QB.out (hb.mono (Nat.le_of_lt (Nat.lt_trans (Nat.lt_succ_self _) lt.out))); replace lt : Hid (w.heap.size + 1 < w1.heap.size) := Nat.lt_of_lt_of_le lt.out hb.size; clear hb; have ca := CA.out; have fa := FA.out))
  go_wp2
  refine bodyPost_ret (v := .agg #[.int .u64 (wd n 0), .int .u64 (wd n 8), .int .u64 (wd n 16), .int .u64 (wd n 24)]) (by simp [results, Tryd.results32, go_sem, ca, fa]) rfl ⟨rfl, ?_⟩
  have q := QB.out
  repeat (first | with_reducible exact Below.refl _ _ | with_reducible assumption | with_reducible refine Below.drew ?_ | (with_reducible refine Below.alloc ?_ ?hB _; (case hB => first | omega | (simp <;> omega))) | (with_reducible refine Below.setCell ?_ ?hB _; (case hB => first | omega | (simp <;> omega))))

theorem load_at (X : Value) (n : Nat) (w : World) (hX : X = .agg (numA n)) :
    Calls Tryd.prog 32 #[X] w
      fun e w' => e = .returned (L4 (n % 18446744073709551616) (n / 18446744073709551616 % 18446744073709551616) (n / 18446744073709551616 / 18446744073709551616 % 18446744073709551616) (n / 18446744073709551616 / 18446744073709551616 / 18446744073709551616 % 18446744073709551616)) ∧ Below w.heap.size w w' := by
  subst hX
  refine (load_walk n w).mono ?_
  rintro e w' ⟨rfl, hb⟩
  refine ⟨congrArg Ending.returned (L4_mk ?_ ?_ ?_ ?_), hb⟩
  all_goals
    unfold wd
    simp only [Nat.reducePow, Nat.div_one] <;> omega

theorem lt4_of (n : Nat) : lt4 (n % 18446744073709551616) (n / 18446744073709551616 % 18446744073709551616) (n / 18446744073709551616 / 18446744073709551616 % 18446744073709551616) (n / 18446744073709551616 / 18446744073709551616 / 18446744073709551616 % 18446744073709551616) := by
  unfold lt4; omega
theorem v4_of (n : Nat) (h : n < 115792089237316195423570985008687907853269984665640564039457584007913129639936) : v4 (n % 18446744073709551616) (n / 18446744073709551616 % 18446744073709551616) (n / 18446744073709551616 / 18446744073709551616 % 18446744073709551616) (n / 18446744073709551616 / 18446744073709551616 / 18446744073709551616 % 18446744073709551616) = n := by
  unfold v4; omega
end Go.Proofs.YtanfjkmkfcekmaaDoor
