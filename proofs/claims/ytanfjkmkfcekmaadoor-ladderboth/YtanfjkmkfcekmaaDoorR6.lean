/-
  What the reference package's Reduce, Add and Sub answer.
-/
import Derived.Test.YtanfjkmkfcekmaaDoorR5
namespace Go.Proofs.YtanfjkmkfcekmaaDoor
open Go.RowKit
set_option linter.unusedSimpArgs false
set_option linter.unusedVariables false

theorem val_snoc (d : Nat) : ∀ l : List Nat, val (l ++ [d]) = val l + d * 256 ^ l.length
  | [] => by simp [val]
  | x :: r => by
    have := val_snoc d r
    simp only [List.cons_append, val, List.length_cons]
    rw [this, Nat.pow_succ, Nat.mul_add, Nat.mul_comm (256 ^ r.length) 256, Nat.mul_left_comm, Nat.add_assoc]
theorem val_digs (V : Nat) : ∀ k, val (digs V k) = V % 256 ^ k
  | 0 => by simp [digs, val, Nat.mod_one]
  | k + 1 => by rw [digs_succ, val_snoc, digs_len, val_digs V k, mod_succ]
theorem digs_le (V m j : Nat) : (digs V m).getD j 0 ≤ 255 := by
  by_cases h : j < m
  · rw [digs_at V m j h]; have := Nat.mod_lt (V / 256 ^ j) (show 0 < 256 by decide); omega
  · rw [getD_over _ _ (by rw [digs_len]; omega)]; omega
theorem big : (256 : Nat) ^ 32 = 115792089237316195423570985008687907853269984665640564039457584007913129639936 := by decide
theorem big2 : (115792089237316195423570985008687907853269984665640564039457584007913129639936 : Nat) * 1000 < 256 ^ 64 := by decide

theorem one_alloc (w : World) (X Z : Obj) : Below w.heap.size w ((w.alloc X).alloc Z) ∧ ((w.alloc X).alloc Z).heap[w.heap.size]? = some X ∧ ((w.alloc X).alloc Z).heap[w.heap.size + 1]? = some Z ∧ ((w.alloc X).alloc Z).heap.size = w.heap.size + 2 := by
  have e : ((w.alloc X).alloc Z).heap = (w.heap.push X).push Z := rfl
  refine ⟨((Below.refl _ _).alloc (Nat.le_refl _) _).alloc (by simp) _, ?_, ?_, by simp⟩
  · rw [e, Array.getElem?_push_lt (by simp), Array.getElem_push_eq]
  · rw [e, show w.heap.size + 1 = (w.heap.push X).size from by simp, Array.getElem?_push_size]
theorem two_alloc (w : World) (X Y Z : Obj) : Below w.heap.size w (((w.alloc X).alloc Y).alloc Z) ∧ (((w.alloc X).alloc Y).alloc Z).heap[w.heap.size]? = some X ∧ (((w.alloc X).alloc Y).alloc Z).heap[w.heap.size + 1]? = some Y ∧ (((w.alloc X).alloc Y).alloc Z).heap[w.heap.size + 1 + 1]? = some Z ∧ (((w.alloc X).alloc Y).alloc Z).heap.size = w.heap.size + 3 := by
  obtain ⟨h1, h2, h3, h4⟩ := one_alloc w X Y
  refine ⟨h1.alloc (by omega) _, ?_, ?_, ?_, by simp⟩
  · rw [Below.heap_alloc _ _ _ (by omega)]; exact h2
  · rw [Below.heap_alloc _ _ _ (by omega)]; exact h3
  · rw [show w.heap.size + 1 + 1 = ((w.alloc X).alloc Y).heap.size from by omega]; exact heap_new _ _

def zeroA : Array Value := #[.int .u8 0, .int .u8 0, .int .u8 0, .int .u8 0, .int .u8 0, .int .u8 0, .int .u8 0, .int .u8 0, .int .u8 0, .int .u8 0, .int .u8 0, .int .u8 0, .int .u8 0, .int .u8 0, .int .u8 0, .int .u8 0, .int .u8 0, .int .u8 0, .int .u8 0, .int .u8 0, .int .u8 0, .int .u8 0, .int .u8 0, .int .u8 0, .int .u8 0, .int .u8 0, .int .u8 0, .int .u8 0, .int .u8 0, .int .u8 0, .int .u8 0, .int .u8 0]

theorem ownsRow_shift {w : World} {b b' : Nat} {e : TypeId} {s g cap : Nat} {n : Nat} {xs : List Value} (h : w.ownsRow b e s (.slice (some ⟨g, 0, none⟩) n cap) n xs) (hb : b' ≤ g) : w.ownsRow b' e s (.slice (some ⟨g, 0, none⟩) n cap) n xs := by
  obtain ⟨h1, h2⟩ := h
  refine ⟨h1, ?_⟩
  rcases h2 with ⟨h, _⟩ | ⟨g', cap', cur, e, h3, h4⟩
  · cases h
  · cases e
    exact .inr ⟨g, cap, cur, rfl, hb, h4⟩

/-- A slice of digits goes to num, and its answer to the result's cell. -/
theorem num_at (X : Value) (l : List Nat) (g n cap : Nat) (w : World) (hX : X = .slice (some ⟨g, 0, none⟩) n cap) (hn : l.length = n) (h64 : n ≤ 64) (hM : ∀ j, l.getD j 0 ≤ 1099511627776) (hh : Holds w g l) (hV : val l < 256 ^ 64) :
    Calls Tryd.prog 33 #[X] w fun e w' => e = .returned (.agg (numA (val l % 57896044618658097711785492504343953926634992332820282019728792003956564819949))) ∧ Below w.heap.size w w' := by
  subst hX; exact num_any l g n cap w hn h64 hM hh hV

set_option maxHeartbeats 1000000 in
theorem rReduce_any (n : Nat) (w : World) (hn : n < 115792089237316195423570985008687907853269984665640564039457584007913129639936) :
    Calls Tryd.prog 12 #[.agg (numA n)] w fun e w' => e = .returned (.agg (numA (n % 57896044618658097711785492504343953926634992332820282019728792003956564819949))) ∧ Below w.heap.size w w' := by
  have hvd : val (digs n 32) = n := by rw [val_digs, big, Nat.mod_eq_of_lt hn]
  have hv : val (digs n 32) < 256 ^ 64 := by rw [hvd]; have := big2; omega
  obtain ⟨r, hr⟩ : ∃ r, r = n % 57896044618658097711785492504343953926634992332820282019728792003956564819949 := ⟨_, rfl⟩
  rw [← hr]
  have HV : Hid _ := hv
  have HE : Hid (val (digs n 32) % 57896044618658097711785492504343953926634992332820282019728792003956564819949 = r) := by show _ = _; rw [hvd, hr]
  clear hn hv hvd hr
  obtain ⟨q0, q1, q2, q3⟩ := one_alloc w (.cells (numA n) 22 (0, 0)) (.cells zeroA 22 (0, 0))
  unfold zeroA at q0 q1 q2 q3
  have Q0 : Hid _ := q0
  have Q1 : Hid _ := q1
  have Q2 : Hid _ := q2
  have Q3 : Hid _ := q3
  clear q0 q1 q2 q3
  go_enter Tryd.func12, Tryd.ntmps12
  go_wp2_with (refine wpList_load_row rfl 22 _ rfl _ rfl 22 (numA n) (0, 0) _ Q1.out Tryd.underlying22 rfl ?hs ?_; (case hs => rw [numA_size]; kernel_rfl))
  refine (digits_any n _).mono ?_
  rintro e w1 ⟨v, rfl, hown, hb1⟩
  obtain ⟨g1, c1, rfl, _, _, hg1, hl1, hh1⟩ := owns_holds hown (by omega)
  go_wp2_with fail
  refine (num_any (digs n 32) g1 32 c1 _ (digs_len _ _) (by omega) (fun j => Nat.le_trans (digs_le _ _ _) (by omega)) hh1 HV.out).mono ?_
  rintro e w2 ⟨rfl, hb2⟩
  have hs2 := hb1.size
  have G2 : Hid _ := (hb2.block _ (show w.heap.size + 1 < w1.heap.size from by have := Q3.out; omega)).trans ((hb1.block _ (by have := Q3.out; omega)).trans Q2.out)
  have QB : Hid (Below w.heap.size w w2) := Q0.out.trans ((hb1.mono (by have := Q3.out; omega)).trans (hb2.mono (by have := Q3.out; omega)))
  clear hown hh1 hb1 hb2 hs2
  rw [HE.out]
  go_wp2_with (refine wpList_store_row rfl 22 _ _ rfl _ (numA r) rfl rfl 22 _ G2.out ?hs ?hs2 (numA_one _) ?_; (case hs => rw [numA_size]; kernel_rfl); (case hs2 => rw [numA_size]; rfl))
  refine bodyPost_ret (v := .agg (numA r)) ?_ rfl ⟨rfl, ?_⟩
  · exact results_cell_row Tryd.results12 _ _ _ 22 (numA r) (0, 0) _ rfl (setRow_heap _ _ _ _ _ _ G2.out) Tryd.underlying22 rfl (by rw [numA_size]; kernel_rfl)
  · exact below_setRow QB.out (by omega)

set_option maxHeartbeats 1000000 in
theorem rAdd_any (n m : Nat) (w : World) (hn : n < 115792089237316195423570985008687907853269984665640564039457584007913129639936) (hm : m < 115792089237316195423570985008687907853269984665640564039457584007913129639936) :
    Calls Tryd.prog 14 #[.agg (numA n), .agg (numA m)] w fun e w' => e = .returned (.agg (numA ((n + m) % 57896044618658097711785492504343953926634992332820282019728792003956564819949))) ∧ Below w.heap.size w w' := by
  have hvd : val (digs n 32) = n := by rw [val_digs, big, Nat.mod_eq_of_lt hn]
  obtain ⟨r, hr⟩ : ∃ r, r = (n + m) % 57896044618658097711785492504343953926634992332820282019728792003956564819949 := ⟨_, rfl⟩
  rw [← hr]
  have HV : Kept (n + m < 256 ^ 64) := ⟨by have := big2; omega⟩
  have HE : Kept (val (digs n 32) = n) := ⟨hvd⟩
  have HR : Kept ((n + m) % 57896044618658097711785492504343953926634992332820282019728792003956564819949 = r) := ⟨hr.symm⟩
  have HM : Kept (m % 256 ^ 32 = m) := ⟨by rw [big, Nat.mod_eq_of_lt hm]⟩
  clear hn hm hvd hr
  obtain ⟨q0, q1, q2, q3, q4⟩ := two_alloc w (.cells (numA n) 22 (0, 0)) (.cells (numA m) 22 (0, 0)) (.cells zeroA 22 (0, 0))
  unfold zeroA at q0 q1 q2 q3 q4
  have Q0 : Hid _ := q0
  have Q1 : Hid _ := q1
  have Q2 : Hid _ := q2
  have Q3 : Hid _ := q3
  have Q4 : Hid _ := q4
  clear q0 q1 q2 q3 q4
  go_enter Tryd.func14, Tryd.ntmps14
  go_wp2_with (refine wpList_load_row rfl 22 _ rfl _ rfl 22 (numA n) (0, 0) _ Q1.out Tryd.underlying22 rfl ?hs ?_; (case hs => rw [numA_size]; kernel_rfl))
  refine (digits_any n _).mono ?_
  rintro e w1 ⟨v, rfl, hown1, hb1⟩
  obtain ⟨g1, c1, rfl, hc1, hc2, hg1, hl1, hh1⟩ := owns_holds hown1 (by omega)
  have hz1 := hb1.size
  have G1 : Hid _ := (hb1.block (w.heap.size + 1) (by have := Q4.out; omega)).trans Q2.out
  have G2 : Hid _ := (hb1.block (w.heap.size + 1 + 1) (by have := Q4.out; omega)).trans Q3.out
  have QB : Hid (Below w.heap.size w w1) := Q0.out.trans (hb1.mono (by have := Q4.out; omega))
  have hz : w.heap.size + 3 ≤ w1.heap.size := by have := Q4.out; omega
  have hg : w.heap.size + 3 ≤ g1 := by have := Q4.out; omega
  clear hb1 hz1 hh1 Q0 Q1 Q2 Q3 Q4 hg1
  go_wp2
  go_loopw [6] (fun i wr => ∃ (t : Nat) (out : List Nat), t ≤ 32 ∧ i = .int .i64 t ∧ out.length = 32 ∧ Hid (val out = n + m % 256 ^ t) ∧ Hid (∀ j, out.getD j 0 ≤ 255 + 255 * t) ∧ wr.ownsRow (w.heap.size + 3) 3 1 (.slice (some ⟨g1, 0, none⟩) 32 c1) 32 (irow out) ∧ Below (w.heap.size + 3) w1 wr) (fun i _ => 32 - (intOf i).toNat)
  case atStart => exact ⟨0, digs n 32, by omega, rfl, digs_len _ _, (by show _ = _; rw [HE.out]; simp [Nat.mod_one]), (by show ∀ _, _; intro j; have := digs_le n 32 j; omega), ownsRow_shift hown1 hg, Below.refl _ _⟩
  case round =>
    obtain ⟨t, out, ht, rfl, hol, HO, HB, hown, hbi⟩ := hrel
    by_cases htm : t < 32
    · have hcm := cell_row ((hbi.block (w.heap.size + 1) (by omega)).trans G1.out) (numA_get m t htm)
      have hco := own_cell hown t htm
      have hfz := hown.frozenAt t
      have hbo : out.getD t 0 ≤ 255 + 255 * t := HB.out _
      have hbd : m / 256 ^ t % 256 < 256 := Nat.mod_lt _ (by decide)
      generalize hxx : m / 256 ^ t % 256 = x at *
      generalize hyy : out.getD t 0 = y at *
      have HX : Hid _ := hxx
      have HY : Hid _ := hyy
      clear hxx hyy
      go_wp2
      go_region
      go_wp2
      refine ⟨⟨t + 1, out.set t (y + x), by omega, by go_num, by simp [hol], ?_, ?_, ?_, ?_⟩, by simp [intOf]; omega⟩
      · show _ = _
        have e := val_set out x t (by omega)
        rw [HY.out] at e
        rw [e, HO.out, mod_succ, HX.out, Nat.add_assoc]
      · show ∀ _, _
        intro j
        rw [getD_set _ _ _ _ (by omega)]
        split
        · omega
        · have := HB.out j; omega
      · have h := (hown.stored t (.int .i64 (((y + x : Nat)) : Int))).1
        rw [irow_set] at h
        exact h.drew
      · refine Below.drew (Below.setCell hbi ?_ _); exact hg
    · have e : t = 32 := by omega
      subst e
      have HO2 : Hid (val out = n + m) := by have := HO.out; rw [HM.out] at this; exact this
      obtain ⟨go, co, e2, _, _, hgo, _, hho⟩ := owns_holds hown (by omega)
      simp only [Value.slice.injEq, Option.some.injEq, Addr.mk.injEq, and_true, true_and] at e2
      obtain ⟨rfl, rfl⟩ := e2
      have hzi := hbi.size
      go_wp2_with fail
      refine (num_any out g1 32 c1 _ hol (by omega) (fun j => Nat.le_trans (HB.out j) (by omega)) hho (by rw [HO2.out]; exact HV.out)).mono ?_
      rintro e w2 ⟨rfl, hb2⟩
      have G3 : Hid _ := (hb2.block (w.heap.size + 1 + 1) (by omega)).trans ((hbi.block (w.heap.size + 1 + 1) (by omega)).trans G2.out)
      have QC : Hid (Below w.heap.size w w2) := QB.out.trans ((hbi.mono (by omega)).trans (hb2.mono (by omega)))
      rw [HO2.out, HR.out]
      clear G2 QB
      go_wp2_with (refine wpList_store_row rfl 22 _ _ rfl _ (numA r) rfl rfl 22 _ G3.out ?hs ?hs2 (numA_one _) ?_; (case hs => rw [numA_size]; kernel_rfl); (case hs2 => rw [numA_size]; rfl))
      refine bodyPost_ret (v := .agg (numA r)) ?_ rfl ⟨rfl, ?_⟩
      · exact results_cell_row Tryd.results14 _ _ _ 22 (numA r) (0, 0) _ rfl (setRow_heap _ _ _ _ _ _ G3.out) Tryd.underlying22 rfl (by rw [numA_size]; kernel_rfl)
      · exact below_setRow QC.out (by omega)
end Go.Proofs.YtanfjkmkfcekmaaDoor
