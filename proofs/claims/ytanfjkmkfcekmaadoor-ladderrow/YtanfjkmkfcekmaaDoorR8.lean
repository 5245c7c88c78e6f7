/-
  What the reference package's Mul answers.
-/
import Derived.Test.YtanfjkmkfcekmaaDoorR6
namespace Go.Proofs.YtanfjkmkfcekmaaDoor
open Go.RowKit
set_option linter.unusedSimpArgs false
set_option linter.unusedVariables false


theorem mul_in (a b i : Nat) : a % 256 ^ i * b + a / 256 ^ i % 256 * (b % 256 ^ 0) * 256 ^ i = a % 256 ^ i * b := by simp [Nat.mod_one]
theorem mul_row (a b i : Nat) (hb : b % 256 ^ 32 = b) : a % 256 ^ i * b + a / 256 ^ i % 256 * (b % 256 ^ 32) * 256 ^ i = a % 256 ^ (i + 1) * b := by
  rw [hb, mod_succ, Nat.add_mul, Nat.mul_right_comm]
theorem mul_cell (a b i k S : Nat) : S + a / 256 ^ i % 256 * (b % 256 ^ k) * 256 ^ i + a / 256 ^ i % 256 * (b / 256 ^ k % 256) * 256 ^ (i + k) = S + a / 256 ^ i % 256 * (b % 256 ^ (k + 1)) * 256 ^ i := by
  rw [mod_succ, Nat.mul_add, Nat.add_mul, ← Nat.add_assoc, Nat.pow_add]
  congr 1
  rw [← Nat.mul_assoc, Nat.mul_right_comm, Nat.mul_assoc (a / 256 ^ i % 256)]
theorem big3 : (115792089237316195423570985008687907853269984665640564039457584007913129639936 : Nat) * 115792089237316195423570985008687907853269984665640564039457584007913129639936 = 256 ^ 64 := by decide

set_option maxHeartbeats 2000000 in
theorem rMul_any (n m : Nat) (w : World) (hn : n < 115792089237316195423570985008687907853269984665640564039457584007913129639936) (hm : m < 115792089237316195423570985008687907853269984665640564039457584007913129639936) :
    Calls Tryd.prog 18 #[.agg (numA n), .agg (numA m)] w fun e w' => e = .returned (.agg (numA (n * m % 57896044618658097711785492504343953926634992332820282019728792003956564819949))) ∧ Below w.heap.size w w' := by
  obtain ⟨r, hr⟩ : ∃ r, r = n * m % 57896044618658097711785492504343953926634992332820282019728792003956564819949 := ⟨_, rfl⟩
  rw [← hr]
  have HV : Kept (n * m < 256 ^ 64 ∧ n * m % 57896044618658097711785492504343953926634992332820282019728792003956564819949 = r) := ⟨by rw [← big3]; exact Nat.mul_lt_mul'' hn hm, hr.symm⟩
  have HM : Kept (m % 256 ^ 32 = m) := ⟨by rw [big, Nat.mod_eq_of_lt hm]⟩
  have HN : Kept (n % 256 ^ 32 = n) := ⟨by rw [big, Nat.mod_eq_of_lt hn]⟩
  clear hn hm hr
  obtain ⟨q0, q1, q2, q3, q4⟩ := two_alloc w (.cells (numA n) 22 (0, 0)) (.cells (numA m) 22 (0, 0)) (.cells zeroA 22 (0, 0))
  unfold zeroA at q0 q1 q2 q3 q4
  have Q0 : Hid _ := q0
  have Q1 : Hid _ := q1
  have Q2 : Hid _ := q2
  have Q3 : Hid _ := q3
  have Q4 : Hid _ := q4
  clear q0 q1 q2 q3 q4
  go_enter Tryd.func18, Tryd.ntmps18
  go_wp2_with (first | (at_make; refine wpList_mk rfl _ _ rfl 64 rfl rfl (by omega) ?_) | go_in)
  intro w1 hown1 hb1 hlt1
  have hsz := Q4.out
  have G0 : Hid _ := (hb1.block w.heap.size (by omega)).trans Q1.out
  have G1 : Hid _ := (hb1.block (w.heap.size + 1) (by omega)).trans Q2.out
  have G2 : Hid _ := (hb1.block (w.heap.size + 1 + 1) (by omega)).trans Q3.out
  have QB : Hid (Below w.heap.size w w1) := Q0.out.trans (hb1.mono (by omega))
  have hz : w.heap.size + 3 ≤ w1.heap.size := by have := hb1.size; omega
  have hrep : irow (List.replicate 64 0) = irow (List.replicate 64 0) := rfl
  generalize hgl : w.heap.size + 1 + 1 + 1 = gl at hown1 hb1 hlt1 ⊢
  have hg : w.heap.size + 3 ≤ gl := by omega
  clear hgl hsz Q0 Q1 Q2 Q3 Q4 hb1 hrep
  go_wp2
  go_loopw [6] (fun si wr => ∃ (i : Nat) (out : List Nat), i ≤ 32 ∧ si = .int .i64 i ∧ out.length = 64 ∧ Kept (val out = n % 256 ^ i * m) ∧ Kept (∀ j, out.getD j 0 ≤ 2080800 * i) ∧ wr.ownsRow (w.heap.size + 3) 3 1 (.slice (some ⟨gl, 0, none⟩) 64 64) 64 (irow out) ∧ Below (w.heap.size + 3) w1 wr) (fun i _ => 32 - (intOf i).toNat)
  case atStart => exact ⟨0, List.replicate 64 0, by omega, rfl, rfl, ⟨by rw [Nat.pow_zero, Nat.mod_one, Nat.zero_mul]; rfl⟩, ⟨by intro j; rw [rep_zero]; omega⟩, ownsRow_shift hown1 hg, Below.refl _ _⟩
  case round =>
    obtain ⟨i, out, hi, rfl, hol, HO, HB, hown, hbi⟩ := hrel
    by_cases hi32 : i < 32
    · go_wp2
      go_loopw [7] (fun sk wq => ∃ (k : Nat) (out : List Nat), k ≤ 32 ∧ sk = .int .i64 k ∧ out.length = 64 ∧ Kept (val out = n % 256 ^ i * m + n / 256 ^ i % 256 * (m % 256 ^ k) * 256 ^ i) ∧ Kept (∀ j, out.getD j 0 ≤ 2080800 * i + 65025 * k) ∧ wq.ownsRow (w.heap.size + 3) 3 1 (.slice (some ⟨gl, 0, none⟩) 64 64) 64 (irow out) ∧ Below (w.heap.size + 3) w1 wq) (fun k _ => 32 - (intOf k).toNat)
      case atStart => exact ⟨0, out, by omega, rfl, hol, ⟨by rw [mul_in]; exact HO.out⟩, ⟨by intro j; have := HB.out j; omega⟩, hown, hbi⟩
      case round =>
        clear hown hbi HO HB hol
        obtain ⟨k, out, hk, rfl, hol, HO, HB, hown, hbi⟩ := hrel
        by_cases hk32 : k < 32
        · have hcn := cell_row ((hbi.block w.heap.size (by omega)).trans G0.out) (numA_get n i hi32)
          have hcm := cell_row ((hbi.block (w.heap.size + 1) (by omega)).trans G1.out) (numA_get m k hk32)
          have hik : i + k < 64 := by omega
          have hco := own_cell hown (i + k) hik
          have hfz := hown.frozenAt (i + k)
          have hbo : out.getD (i + k) 0 ≤ 2080800 * i + 65025 * k := HB.out _
          have hx : n / 256 ^ i % 256 < 256 := Nat.mod_lt _ (by decide)
          have hy : m / 256 ^ k % 256 < 256 := Nat.mod_lt _ (by decide)
          have HC : Kept (∀ S, S + n / 256 ^ i % 256 * (m % 256 ^ k) * 256 ^ i + n / 256 ^ i % 256 * (m / 256 ^ k % 256) * 256 ^ (i + k) = S + n / 256 ^ i % 256 * (m % 256 ^ (k + 1)) * 256 ^ i) := ⟨fun S => mul_cell n m i k S⟩
          have hxy : n / 256 ^ i % 256 * (m / 256 ^ k % 256) ≤ 65025 := Nat.mul_le_mul (show n / 256 ^ i % 256 ≤ 255 by omega) (show m / 256 ^ k % 256 ≤ 255 by omega)
          generalize n / 256 ^ i % 256 = x at *
          generalize m / 256 ^ k % 256 = y at *
          generalize hzz : out.getD (i + k) 0 = z at *
          have HZ : Kept _ := ⟨hzz⟩
          clear hzz
          go_wp2
          go_region
          go_wp2
          rw [show ((z : Int) + (x : Int) * (y : Int)) = ((z + x * y : Nat) : Int) from by simp]
          refine ⟨⟨k + 1, out.set (i + k) (z + x * y), by omega, by go_num, by simp [hol], ⟨?_⟩, ⟨?_⟩, ?_, ?_⟩, by simp [intOf]; omega⟩
          · have e := val_set out (x * y) (i + k) (by omega)
            rw [HZ.out] at e
            rw [e, HO.out, HC.out]
          · intro j
            rw [getD_set _ _ _ _ (by omega)]
            split
            · omega
            · have := HB.out j; omega
          · have h := (hown.stored (i + k) (.int .i64 (((z + x * y : Nat)) : Int))).1
            rw [irow_set] at h
            exact h.drew
          · refine Below.drew (Below.setCell hbi ?_ _); exact hg
        · have e : k = 32 := by omega
          subst e
          go_wp2
          refine ⟨⟨i + 1, out, by omega, by go_num, hol, ⟨?_⟩, ⟨?_⟩, hown, hbi⟩, by simp [intOf]; omega⟩
          · rw [HO.out, mul_row n m i HM.out]
          · intro j; have := HB.out j; omega
    · have e : i = 32 := by omega
      subst e
      have HO2 : Kept (val out < 256 ^ 64 ∧ val out % 57896044618658097711785492504343953926634992332820282019728792003956564819949 = r) := ⟨by rw [HO.out, HN.out]; exact HV.out⟩
      obtain ⟨go, co, e2, _, _, hgo, _, hho⟩ := owns_holds hown (by omega)
      simp only [Value.slice.injEq, Option.some.injEq, Addr.mk.injEq, and_true, true_and] at e2
      obtain ⟨rfl, rfl⟩ := e2
      have hzi := hbi.size
      go_wp2_with fail
      refine (num_any out gl 64 64 _ hol (by omega) (fun j => Nat.le_trans (HB.out j) (by omega)) hho HO2.out.1).mono ?_
      rintro e w2 ⟨rfl, hb2⟩
      have G3 : Hid _ := (hb2.block (w.heap.size + 1 + 1) (by omega)).trans ((hbi.block (w.heap.size + 1 + 1) (by omega)).trans G2.out)
      have QC : Hid (Below w.heap.size w w2) := QB.out.trans ((hbi.mono (by omega)).trans (hb2.mono (by omega)))
      rw [HO2.out.2]
      clear G2 QB
      go_wp2_with (refine wpList_store_row rfl 22 _ _ rfl _ (numA r) rfl rfl 22 _ G3.out ?hs ?hs2 (numA_one _) ?_; (case hs => rw [numA_size]; kernel_rfl); (case hs2 => rw [numA_size]; rfl))
      refine bodyPost_ret (v := .agg (numA r)) ?_ rfl ⟨rfl, ?_⟩
      · exact results_cell_row Tryd.results18 _ _ _ 22 (numA r) (0, 0) _ rfl (setRow_heap _ _ _ _ _ _ G3.out) Tryd.underlying22 rfl (by rw [numA_size]; kernel_rfl)
      · exact below_setRow QC.out (by omega)
end Go.Proofs.YtanfjkmkfcekmaaDoor
