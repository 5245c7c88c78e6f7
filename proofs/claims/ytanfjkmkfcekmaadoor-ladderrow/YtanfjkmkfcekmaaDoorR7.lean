/-
  What the reference package's Sub answers.
-/
import Derived.Test.YtanfjkmkfcekmaaDoorR6
namespace Go.Proofs.YtanfjkmkfcekmaaDoor
open Go.RowKit
set_option linter.unusedSimpArgs false
set_option linter.unusedVariables false

theorem owns_below {w w' : World} {b g n cap : Nat} {e : TypeId} {s : Nat} {xs : List Value} (h : w.ownsRow b e s (.slice (some ⟨g, 0, none⟩) n cap) n xs) (hb : Below w.heap.size w w') : w'.ownsRow b e s (.slice (some ⟨g, 0, none⟩) n cap) n xs := by
  obtain ⟨h1, h2⟩ := h
  refine ⟨h1, ?_⟩
  rcases h2 with ⟨h, _⟩ | ⟨g', cap', cur, e, h3, h4, h5⟩
  · cases h
  · cases e
    exact .inr ⟨g, cap, cur, rfl, h3, (hb.block _ (Array.getElem?_eq_some_iff.1 h4).1).trans h4, h5⟩
theorem Holds.drew {w : World} {g : Nat} {l : List Nat} (h : Holds w g l) : Holds w.drew g l := h
theorem Holds.setOther {w : World} {g : Nat} {a : Addr} {v : Value} {l : List Nat} (h : Holds w g l) (hne : g ≠ a.block) : Holds (w.setCell a v) g l :=
  ⟨by simpa using h.1, fun j hj => (World.cell?_of_block (heap_setCell_other w a g v hne)).trans (h.2 j hj)⟩

theorem primeL_in : ∀ i, i < 32 → 127 ≤ primeL.getD i 0 ∧ primeL.getD i 0 ≤ 255 := by decide +kernel
theorem sub_same (n m v : Nat) (hm : m < 115792089237316195423570985008687907853269984665640564039457584007913129639936) (h : v + m = n + 3 * 57896044618658097711785492504343953926634992332820282019728792003956564819949) : v % 57896044618658097711785492504343953926634992332820282019728792003956564819949 = (n + (57896044618658097711785492504343953926634992332820282019728792003956564819949 - m % 57896044618658097711785492504343953926634992332820282019728792003956564819949)) % 57896044618658097711785492504343953926634992332820282019728792003956564819949 := by omega
theorem p_mod : 57896044618658097711785492504343953926634992332820282019728792003956564819949 % 256 ^ 32 = 57896044618658097711785492504343953926634992332820282019728792003956564819949 := by decide

set_option maxHeartbeats 1000000 in
theorem rSub_any (n m : Nat) (w : World) (hn : n < 115792089237316195423570985008687907853269984665640564039457584007913129639936) (hm : m < 115792089237316195423570985008687907853269984665640564039457584007913129639936) :
    Calls Tryd.prog 16 #[.agg (numA n), .agg (numA m)] w fun e w' => e = .returned (.agg (numA ((n + (57896044618658097711785492504343953926634992332820282019728792003956564819949 - m % 57896044618658097711785492504343953926634992332820282019728792003956564819949)) % 57896044618658097711785492504343953926634992332820282019728792003956564819949))) ∧ Below w.heap.size w w' := by
  have hvd : val (digs n 32) = n := by rw [val_digs, big, Nat.mod_eq_of_lt hn]
  obtain ⟨r, hr⟩ : ∃ r, r = (n + (57896044618658097711785492504343953926634992332820282019728792003956564819949 - m % 57896044618658097711785492504343953926634992332820282019728792003956564819949)) % 57896044618658097711785492504343953926634992332820282019728792003956564819949 := ⟨_, rfl⟩
  rw [← hr]
  have HV : Kept (∀ v, v + m = n + 3 * 57896044618658097711785492504343953926634992332820282019728792003956564819949 → v < 256 ^ 64 ∧ v % 57896044618658097711785492504343953926634992332820282019728792003956564819949 = r) := ⟨fun v h => ⟨by have := big2; omega, by rw [sub_same n m v hm h, hr]⟩⟩
  have HE : Kept (val (digs n 32) = n) := ⟨hvd⟩
  have HM : Kept (m % 256 ^ 32 = m) := ⟨by rw [big, Nat.mod_eq_of_lt hm]⟩
  have HP : Kept ((∀ i, i < 32 → primeL.getD i 0 = 57896044618658097711785492504343953926634992332820282019728792003956564819949 / 256 ^ i % 256) ∧ 57896044618658097711785492504343953926634992332820282019728792003956564819949 % 256 ^ 32 = 57896044618658097711785492504343953926634992332820282019728792003956564819949) := ⟨primeL_at, p_mod⟩
  obtain ⟨p, hp⟩ : ∃ p, p = 57896044618658097711785492504343953926634992332820282019728792003956564819949 := ⟨_, rfl⟩
  rw [← hp] at HV HP
  have HQ : Kept (p = 57896044618658097711785492504343953926634992332820282019728792003956564819949) := ⟨hp⟩
  clear hp
  clear hn hm hvd hr
  obtain ⟨q0, q1, q2, q3, q4⟩ := two_alloc w (.cells (numA n) 22 (0, 0)) (.cells (numA m) 22 (0, 0)) (.cells zeroA 22 (0, 0))
  unfold zeroA at q0 q1 q2 q3 q4
  have Q0 : Hid _ := q0
  have Q1 : Hid _ := q1
  have Q2 : Hid _ := q2
  have Q3 : Hid _ := q3
  have Q4 : Hid _ := q4
  clear q0 q1 q2 q3 q4
  go_enter Tryd.func16, Tryd.ntmps16
  go_wp2_with (refine wpList_load_row rfl 22 _ rfl _ rfl 22 (numA n) (0, 0) _ Q1.out Tryd.underlying22 rfl ?hs ?_; (case hs => rw [numA_size]; kernel_rfl))
  refine (digits_any n _).mono ?_
  rintro e w1 ⟨v, rfl, hown1, hb1⟩
  obtain ⟨g1, c1, rfl, hc1, hc2, hg1, hl1, hh1⟩ := owns_holds hown1 (by omega)
  go_wp2_with fail
  refine (prime_any _).mono ?_
  rintro e w1p ⟨v, rfl, hownp, hbp⟩
  obtain ⟨gp, cp, rfl, _, _, hgp, _, hhp⟩ := owns_holds hownp (by omega)
  have hown2 := owns_below hown1 hbp
  have hz1 := hb1.size
  have hzp := hbp.size
  have G1 : Hid _ := (hbp.block (w.heap.size + 1) (by have := Q4.out; omega)).trans ((hb1.block (w.heap.size + 1) (by have := Q4.out; omega)).trans Q2.out)
  have G2 : Hid _ := (hbp.block (w.heap.size + 1 + 1) (by have := Q4.out; omega)).trans ((hb1.block (w.heap.size + 1 + 1) (by have := Q4.out; omega)).trans Q3.out)
  have QB : Hid (Below w.heap.size w w1p) := Q0.out.trans ((hb1.mono (by have := Q4.out; omega)).trans (hbp.mono (by have := Q4.out; omega)))
  have hz : w.heap.size + 3 ≤ w1p.heap.size := by have := Q4.out; omega
  have hg : w.heap.size + 3 ≤ g1 := by have := Q4.out; omega
  have hgg : g1 < w1.heap.size := hh1.1
  have hne : gp ≠ g1 := by omega
  clear hb1 hz1 hh1 Q0 Q1 Q2 Q3 Q4 hg1 hown1 hownp hzp hbp hgg hgp
  go_wp2
  go_loopw [7] (fun i wr => ∃ (t : Nat) (out : List Nat), t ≤ 32 ∧ i = .int .i64 t ∧ out.length = 32 ∧ Kept (val out + m % 256 ^ t = n + 3 * (p % 256 ^ t)) ∧ Kept (∀ j, out.getD j 0 ≤ 255 + 765 * t) ∧ wr.ownsRow (w.heap.size + 3) 3 1 (.slice (some ⟨g1, 0, none⟩) 32 c1) 32 (irow out) ∧ Holds wr gp primeL ∧ Below (w.heap.size + 3) w1p wr) (fun i _ => 32 - (intOf i).toNat)
  case atStart => exact ⟨0, digs n 32, by omega, rfl, digs_len _ _, ⟨by rw [HE.out]; simp [Nat.mod_one]⟩, ⟨by intro j; have := digs_le n 32 j; omega⟩, ownsRow_shift hown2 hg, hhp, Below.refl _ _⟩
  case round =>
    obtain ⟨t, out, ht, rfl, hol, HO, HB, hown, hhp, hbi⟩ := hrel
    by_cases htm : t < 32
    · have hcm := cell_row ((hbi.block (w.heap.size + 1) (by omega)).trans G1.out) (numA_get m t htm)
      have hco := own_cell hown t htm
      have hfz := hown.frozenAt t
      have hcp := hhp.2 t (by rw [primeL_len]; exact htm)
      have hpi := primeL_in t htm
      rw [HP.out.1 t htm] at hcp hpi
      have hbo : out.getD t 0 ≤ 255 + 765 * t := HB.out _
      have hbd : m / 256 ^ t % 256 < 256 := Nat.mod_lt _ (by decide)
      generalize hxx : m / 256 ^ t % 256 = x at *
      generalize hyy : out.getD t 0 = y at *
      generalize hzz : p / 256 ^ t % 256 = z at *
      have HX : Kept _ := ⟨hxx⟩
      have HY : Kept _ := ⟨hyy⟩
      have HZ : Kept _ := ⟨hzz⟩
      obtain ⟨hp1, hp2⟩ := hpi
      clear hxx hyy hzz
      go_wp2
      go_region
      go_wp2
      rw [show ((y : Int) + 3 * (z : Int) - (x : Int)) = ((y + (3 * z - x) : Nat) : Int) from by omega]
      refine ⟨⟨t + 1, out.set t (y + (3 * z - x)), by omega, by go_num, by simp [hol], ⟨?_⟩, ⟨?_⟩, ?_, ?_, ?_⟩, by simp [intOf]; omega⟩
      · have e := val_set out (3 * z - x) t (by omega)
        have e2 := HO.out
        rw [HY.out] at e
        rw [e, mod_succ, mod_succ, HX.out, HZ.out]
        have e3 : (3 * z - x) * 256 ^ t + x * 256 ^ t = 3 * (z * 256 ^ t) := by rw [← Nat.add_mul, Nat.sub_add_cancel (by omega), Nat.mul_assoc]
        omega
      · intro j
        rw [getD_set _ _ _ _ (by omega)]
        split
        · omega
        · have := HB.out j; omega
      · have h := (hown.stored t (.int .i64 (((y + (3 * z - x) : Nat)) : Int))).1
        rw [irow_set] at h
        exact h.drew
      · exact (hhp.setOther (by exact hne)).drew
      · refine Below.drew (Below.setCell hbi ?_ _); exact hg
    · have e : t = 32 := by omega
      subst e
      have HO2 : Kept (val out < 256 ^ 64 ∧ val out % p = r) := ⟨HV.out _ (by have := HO.out; rw [HM.out, HP.out.2] at this; exact this)⟩
      obtain ⟨go, co, e2, _, _, hgo, _, hho⟩ := owns_holds hown (by omega)
      simp only [Value.slice.injEq, Option.some.injEq, Addr.mk.injEq, and_true, true_and] at e2
      obtain ⟨rfl, rfl⟩ := e2
      have hzi := hbi.size
      go_wp2_with fail
      refine (num_any out g1 32 c1 _ hol (by omega) (fun j => Nat.le_trans (HB.out j) (by omega)) hho HO2.out.1).mono ?_
      rintro e w2 ⟨rfl, hb2⟩
      have G3 : Hid _ := (hb2.block (w.heap.size + 1 + 1) (by omega)).trans ((hbi.block (w.heap.size + 1 + 1) (by omega)).trans G2.out)
      have QC : Hid (Below w.heap.size w w2) := QB.out.trans ((hbi.mono (by omega)).trans (hb2.mono (by omega)))
      rw [← HQ.out, HO2.out.2]
      clear G2 QB
      go_wp2_with (refine wpList_store_row rfl 22 _ _ rfl _ (numA r) rfl rfl 22 _ G3.out ?hs ?hs2 (numA_one _) ?_; (case hs => rw [numA_size]; kernel_rfl); (case hs2 => rw [numA_size]; rfl))
      refine bodyPost_ret (v := .agg (numA r)) ?_ rfl ⟨rfl, ?_⟩
      · exact results_cell_row Tryd.results16 _ _ _ 22 (numA r) (0, 0) _ rfl (setRow_heap _ _ _ _ _ _ G3.out) Tryd.underlying22 rfl (by rw [numA_size]; kernel_rfl)
      · exact below_setRow QC.out (by omega)
end Go.Proofs.YtanfjkmkfcekmaaDoor
