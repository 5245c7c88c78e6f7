/-
  What the reference package's num does: the number of digits, modulo p.
-/
import Derived.Test.YtanfjkmkfcekmaaDoorRefA
import Derived.Test.YtanfjkmkfcekmaaDoorW6
namespace Go.Proofs.YtanfjkmkfcekmaaDoor
open Go.RowKit
set_option linter.unusedSimpArgs false
set_option linter.unusedVariables false

/-- The first t bytes of a number, and bytes 0 behind. -/
def partA (V t : Nat) : Array Value := ((List.range 32).map fun i => Value.int .u8 ((if i < t then V / 256 ^ i % 256 else 0 : Nat) : Int)).toArray
theorem partA_zero (V : Nat) : partA V 0 = #[.int .u8 0, .int .u8 0, .int .u8 0, .int .u8 0, .int .u8 0, .int .u8 0, .int .u8 0, .int .u8 0, .int .u8 0, .int .u8 0, .int .u8 0, .int .u8 0, .int .u8 0, .int .u8 0, .int .u8 0, .int .u8 0, .int .u8 0, .int .u8 0, .int .u8 0, .int .u8 0, .int .u8 0, .int .u8 0, .int .u8 0, .int .u8 0, .int .u8 0, .int .u8 0, .int .u8 0, .int .u8 0, .int .u8 0, .int .u8 0, .int .u8 0, .int .u8 0] := rfl
theorem partA_all (V : Nat) : partA V 32 = numA V := by
  unfold partA numA
  rw [List.map_congr_left (fun i hi => by rw [if_pos (List.mem_range.1 hi)])]
theorem partA_get (V t j : Nat) (h : j < 32) : (partA V t)[j]? = some (.int .u8 ((if j < t then V / 256 ^ j % 256 else 0 : Nat) : Int)) := by simp [partA, h]
theorem partA_size (V t : Nat) : (partA V t).size = 32 := by simp [partA]
theorem partA_succ (V t : Nat) (h : t < 32) : (partA V t).setIfInBounds t (.int .u8 ((V / 256 ^ t % 256 : Nat) : Int)) = partA V (t + 1) := by
  apply Array.ext_getElem?
  intro j
  by_cases hj : j < 32
  · rw [partA_get V (t + 1) j hj]
    by_cases e : j = t
    · subst e
      rw [Array.getElem?_setIfInBounds_self_of_lt (by rw [partA_size]; exact h), if_pos (by omega)]
    · rw [Array.getElem?_setIfInBounds_ne (by omega), partA_get V t j hj]
      by_cases h2 : j < t
      · rw [if_pos h2, if_pos (by omega)]
      · rw [if_neg h2, if_neg (by omega)]
  · rw [Array.getElem?_eq_none (by simp [partA]; omega), Array.getElem?_eq_none (by simp [partA]; omega)]

theorem list_digs (out : List Nat) (V : Nat) (hl : out.length = 32) (h : ∀ j, j < 32 → out.getD j 0 = V / 256 ^ j % 256) : out = digs V 32 := by
  apply List.ext_getElem?
  intro j
  by_cases hj : j < 32
  · have h1 := h j hj
    have h2 := digs_at V 32 j hj
    have hd : j < (digs V 32).length := by rw [digs_len]; exact hj
    have ho : j < out.length := by rw [hl]; exact hj
    simp only [List.getD, List.getElem?_eq_getElem hd, List.getElem?_eq_getElem ho, Option.getD_some] at h1 h2
    rw [List.getElem?_eq_getElem hd, List.getElem?_eq_getElem ho, h1, h2]
  · rw [List.getElem?_eq_none (by omega), List.getElem?_eq_none (by rw [digs_len]; omega)]

theorem below_yes (V g cap : Nat) (w : World) (hV : V < 256 ^ 32) (hh : Holds w g (digs V 32)) (h : V < 57896044618658097711785492504343953926634992332820282019728792003956564819949) :
    Calls Tryd.prog 50 #[.slice (some ⟨g, 0, none⟩) 32 cap] w fun e w' => e = .returned (.bool true) ∧ Below w.heap.size w w' := by
  have := below_any V g cap w hV hh
  rwa [decide_eq_true h] at this
theorem below_no (V g cap : Nat) (w : World) (hV : V < 256 ^ 32) (hh : Holds w g (digs V 32)) (h : ¬ V < 57896044618658097711785492504343953926634992332820282019728792003956564819949) :
    Calls Tryd.prog 50 #[.slice (some ⟨g, 0, none⟩) 32 cap] w fun e w' => e = .returned (.bool false) ∧ Below w.heap.size w w' := by
  have := below_any V g cap w hV hh
  rwa [decide_eq_false h] at this

theorem u8_mod (x : Nat) (h : x < 256) : IntKind.u8.wrap (x : Int) = (x : Int) := by
  rw [IntKind.wrap_u8]; omega
theorem less_p (gk : Nat) (h : 57896044618658097711785492504343953926634992332820282019728792003956564819949 ≤ gk) : (gk - 57896044618658097711785492504343953926634992332820282019728792003956564819949) % 57896044618658097711785492504343953926634992332820282019728792003956564819949 = gk % 57896044618658097711785492504343953926634992332820282019728792003956564819949 ∧ gk - 57896044618658097711785492504343953926634992332820282019728792003956564819949 < gk := ⟨(Nat.mod_eq_sub_mod h).symm, by omega⟩

/-- The last loop of num, and its answer. -/
def NumPost (w : World) (V : Nat) (e : Ending) (w' : World) : Prop := e = .returned (.agg (numA V)) ∧ Below w.heap.size w w'

set_option maxHeartbeats 2000000 in
theorem num_any (l : List Nat) (g n cap : Nat) (w : World) (hn : l.length = n) (h64 : n ≤ 64) (hM : ∀ j, l.getD j 0 ≤ 1099511627776) (hh : Holds w g l) (hV : val l < 256 ^ 64) :
    Calls Tryd.prog 33 #[.slice (some ⟨g, 0, none⟩) n cap] w fun e w' => e = .returned (.agg (numA (val l % 57896044618658097711785492504343953926634992332820282019728792003956564819949))) ∧ Below w.heap.size w w' := by
  have HV : Hid (val l < 256 ^ 64) := hV
  have HM : Hid _ := hM
  clear hV hM
  go_enter Tryd.func33, Tryd.ntmps33
  have hb0 : Below w.heap.size w (w.alloc (.cells (partA 0 0) 22)) := (Below.refl _ _).alloc (Nat.le_refl _) _
  have hr0 : (w.alloc (.cells (partA 0 0) 22)).heap[w.heap.size]? = some (.cells (partA 0 0) 22 (0, 0)) := heap_new _ _
  have hs0 : (w.alloc (.cells (partA 0 0) 22)).heap.size = w.heap.size + 1 := by simp
  rw [partA_zero] at hb0 hr0 hs0
  have HB0 : Hid _ := hb0
  have HR0 : Hid _ := hr0
  have HS0 : Hid _ := hs0
  clear hb0 hr0 hs0
  go_wp2_with fail
  refine (fold_ref l g n cap _ hn h64 HM.out (hh.under HB0.out) HV.out).mono ?_
  rintro e w1 ⟨g1, c1, V1, rfl, h1, h2, h3, h4, h5, hb1⟩
  have H3 : Hid (V1 < 256 ^ 32 ∧ V1 % 57896044618658097711785492504343953926634992332820282019728792003956564819949 = val l % 57896044618658097711785492504343953926634992332820282019728792003956564819949) := ⟨h3, h4⟩
  clear h3 h4
  go_wp2_with fail
  refine (prime_any _).mono ?_
  rintro e w2 ⟨v2, rfl, hown2, hb2⟩
  obtain ⟨gp, cp, rfl, _, _, hgp, _, hhp⟩ := owns_holds hown2 (by omega)
  clear hown2
  have BB : Hid (Below (w.heap.size + 1) (w.alloc (.cells #[.int .u8 0, .int .u8 0, .int .u8 0, .int .u8 0, .int .u8 0, .int .u8 0, .int .u8 0, .int .u8 0, .int .u8 0, .int .u8 0, .int .u8 0, .int .u8 0, .int .u8 0, .int .u8 0, .int .u8 0, .int .u8 0, .int .u8 0, .int .u8 0, .int .u8 0, .int .u8 0, .int .u8 0, .int .u8 0, .int .u8 0, .int .u8 0, .int .u8 0, .int .u8 0, .int .u8 0, .int .u8 0, .int .u8 0, .int .u8 0, .int .u8 0, .int .u8 0] 22)) w2) := by
    have z1 := hb1.size
    have z2 := HS0.out
    exact (hb1.mono (by omega)).trans (hb2.mono (by omega))
  have h5' := h5.under hb2
  have zz2 : w.heap.size + 1 ≤ w2.heap.size := by
    have z1 := hb1.size
    have z2 := HS0.out
    have z3 := hb2.size
    omega
  have h2' : w.heap.size + 1 ≤ g1 := by have := HS0.out; omega
  clear h5 hb1 hb2
  go_wp2
  go_loopg [3] V1 (fun V s3 wr => ∃ gd cd : Nat, s3 = .slice (some ⟨gd, 0, none⟩) 32 cd ∧ w.heap.size + 1 ≤ gd ∧ Hid (V < 256 ^ 32 ∧ V % 57896044618658097711785492504343953926634992332820282019728792003956564819949 = val l % 57896044618658097711785492504343953926634992332820282019728792003956564819949) ∧ Holds wr gd (digs V 32) ∧ Below w2.heap.size w2 wr)
  case atStart => exact ⟨g1, c1, rfl, h2', H3.out, h5', Below.refl _ _⟩
  case round =>
    obtain ⟨gd, cd, rfl, hgd, HW, hhd, hb⟩ := hrel
    by_cases hlt : gk < 57896044618658097711785492504343953926634992332820282019728792003956564819949
    · have HE : Hid (gk = val l % 57896044618658097711785492504343953926634992332820282019728792003956564819949) := by
        have := HW.out.2
        rw [Nat.mod_eq_of_lt hlt] at this
        exact this
      have HLT : Hid _ := hlt
      clear hlt
      go_wp2_with fail
      refine (below_yes gk gd cd _ HW.out.1 hhd HLT.out).mono ?_
      rintro e w3 ⟨rfl, hb3⟩
      have hhd3 := hhd.under hb3
      have hz3 := hb3.size
      have hz4 := hb.size
      go_wp2
      have hra : (w3.alloc (.cells (partA gk 0) 22)).heap[w3.heap.size]? = some (.cells (partA gk 0) 22 (0, 0)) := heap_new _ _
      have hba : Below w3.heap.size w3 (w3.alloc (.cells (partA gk 0) 22)) := (Below.refl _ _).alloc (Nat.le_refl _) _
      have HRA : Hid _ := hra
      have HBA : Hid _ := hba
      clear hra hba
      go_loopw [10] (fun si wi => ∃ t : Nat, t ≤ 32 ∧ si = .int .i64 t ∧ wi.heap[w3.heap.size]? = some (.cells (partA gk t) 22 (0, 0)) ∧ Below w3.heap.size w3 wi) (fun i _ => 32 - (intOf i).toNat)
      case atStart => exact ⟨0, by omega, rfl, HRA.out, HBA.out⟩
      case round =>
        obtain ⟨t, ht, rfl, hA, hbi⟩ := hrel
        by_cases htm : t < 32
        · have c1 := (hhd3.under hbi).2 t (by rw [digs_len]; exact htm)
          rw [digs_at _ _ _ htm] at c1
          have hx : gk / 256 ^ t % 256 < 256 := Nat.mod_lt _ (by decide)
          have HS : Hid (∀ w', w' = wr.setCell ⟨w3.heap.size, t, none⟩ (.int .u8 ((gk / 256 ^ t % 256 : Nat) : Int)) → w'.heap[w3.heap.size]? = some (.cells (partA gk (t + 1)) 22 (0, 0))) := by
            show ∀ _, _
            rintro w' rfl
            rw [heap_setCell_same _ _ _ _ _ _ hA, partA_succ gk t htm]
          have hc := cell_row hA (partA_get gk t t htm)
          have hfz := frozen_of_row wr w3.heap.size t _ _ hA
          generalize gk / 256 ^ t % 256 = x at *
          have hw : IntKind.u8.wrap (x : Int) = (x : Int) := u8_mod x hx
          rw [if_neg (by omega)] at hc
          go_wp2
          refine ⟨⟨t + 1, by omega, by go_num, HS.out _ ?_, ?_⟩, by simp [intOf]; omega⟩
          · rfl
          · refine Below.setCell hbi ?_ _; exact Nat.le_refl _
        · have e : t = 32 := by omega
          subst e
          rw [partA_all] at hA
          have HA : Hid _ := hA
          have GR : Hid (wr.heap[w.heap.size]? = some (.cells #[.int .u8 0, .int .u8 0, .int .u8 0, .int .u8 0, .int .u8 0, .int .u8 0, .int .u8 0, .int .u8 0, .int .u8 0, .int .u8 0, .int .u8 0, .int .u8 0, .int .u8 0, .int .u8 0, .int .u8 0, .int .u8 0, .int .u8 0, .int .u8 0, .int .u8 0, .int .u8 0, .int .u8 0, .int .u8 0, .int .u8 0, .int .u8 0, .int .u8 0, .int .u8 0, .int .u8 0, .int .u8 0, .int .u8 0, .int .u8 0, .int .u8 0, .int .u8 0] 22 (0, 0))) := by
            show _ = _
            rw [hbi.block _ (by omega), hb3.block _ (by omega), hb.block _ (by omega), BB.out.block _ (by omega)]
            exact HR0.out
          have QB : Hid (Below w.heap.size w wr) := HB0.out.trans ((BB.out.mono (by omega)).trans ((hb.mono (by omega)).trans ((hb3.mono (by omega)).trans (hbi.mono (by omega)))))
          clear hA
          go_wp2_with (first
            | (refine wpList_load_row rfl 22 _ rfl _ rfl 22 (numA gk) (0, 0) _ HA.out Tryd.underlying22 rfl ?hs ?_; (case hs => rw [numA_size]; kernel_rfl))
            | (refine wpList_store_row rfl 22 _ _ rfl _ (numA gk) rfl rfl 22 _ GR.out ?hs ?hs2 (numA_one _) ?_; (case hs => rw [numA_size]; kernel_rfl); (case hs2 => rw [numA_size]; rfl)))
          rw [← HE.out]
          refine bodyPost_ret (v := .agg (numA gk)) ?_ rfl ⟨rfl, ?_⟩
          · exact results_cell_row Tryd.results33 _ _ _ 22 (numA gk) (0, 0) _ rfl (setRow_heap _ _ _ _ _ _ GR.out) Tryd.underlying22 rfl (by rw [numA_size]; kernel_rfl)
          · exact below_setRow QB.out (by omega)
    · have HLT : Hid _ := hlt
      clear hlt
      go_wp2_with fail
      refine (below_no gk gd cd _ HW.out.1 hhd HLT.out).mono ?_
      rintro e w3 ⟨rfl, hb3⟩
      have hhd3 := hhd.under hb3
      have hhp3 := (hhp.under hb).under hb3
      go_wp2_with (first | (at_make; refine wpList_mk rfl _ _ rfl 32 rfl rfl (by omega) ?_) | go_in)
      intro w4 hown0 hb4 hlt4
      go_wp2
      have HP : Hid (∀ i, i < 32 → primeL.getD i 0 = 57896044618658097711785492504343953926634992332820282019728792003956564819949 / 256 ^ i % 256) := primeL_at
      have HM2 : Hid ((gk - 57896044618658097711785492504343953926634992332820282019728792003956564819949) % 57896044618658097711785492504343953926634992332820282019728792003956564819949 = gk % 57896044618658097711785492504343953926634992332820282019728792003956564819949 ∧ gk - 57896044618658097711785492504343953926634992332820282019728792003956564819949 < gk) := less_p gk (Nat.le_of_not_lt HLT.out)
      have HG : Hid (57896044618658097711785492504343953926634992332820282019728792003956564819949 ≤ gk) := Nat.le_of_not_lt HLT.out
      go_loopw [5, 7] (fun sb si wi => ∃ (t b : Nat) (out : List Nat), t ≤ 32 ∧ b ≤ 1 ∧ si = .int .i64 t ∧ sb = .int .i64 b ∧ out.length = 32 ∧ Hid (b = bor gk 57896044618658097711785492504343953926634992332820282019728792003956564819949 t) ∧ Hid (∀ j, j < t → out.getD j 0 = (gk - 57896044618658097711785492504343953926634992332820282019728792003956564819949) / 256 ^ j % 256) ∧ wi.ownsRow w3.heap.size 3 1 (.slice (some ⟨w3.heap.size, 0, none⟩) 32 32) 32 (irow out) ∧ Below w3.heap.size w3 wi) (fun _ i _ => 32 - (intOf i).toNat)
      case atStart => exact ⟨0, 0, List.replicate 32 0, by omega, by omega, rfl, rfl, rfl, (by show _ = _; rw [bor_zero]), (by show ∀ _, _; intro j hj; omega), hown0, hb4⟩
      case round =>
        obtain ⟨t, b, out, ht, hb1, rfl, rfl, hol, HBo, HDo, hown, hbi⟩ := hrel
        by_cases htm : t < 32
        · have c1 := (hhd3.under hbi).2 t (by rw [digs_len]; exact htm)
          have c2 := (hhp3.under hbi).2 t (by rw [primeL_len]; exact htm)
          rw [digs_at _ _ _ htm] at c1
          rw [HP.out t htm] at c2
          have HX := bor_step gk 57896044618658097711785492504343953926634992332820282019728792003956564819949 t HG.out
          rw [← HBo.out] at HX
          have hx : gk / 256 ^ t % 256 < 256 := Nat.mod_lt _ (by decide)
          have hy : 57896044618658097711785492504343953926634992332820282019728792003956564819949 / 256 ^ t % 256 < 256 := Nat.mod_lt _ (by decide)
          have hd : (gk - 57896044618658097711785492504343953926634992332820282019728792003956564819949) / 256 ^ t % 256 < 256 := Nat.mod_lt _ (by decide)
          have HDx : Hid (∀ d, (gk - 57896044618658097711785492504343953926634992332820282019728792003956564819949) / 256 ^ t % 256 = d → ∀ j, j < t + 1 → (out.set t d).getD j 0 = (gk - 57896044618658097711785492504343953926634992332820282019728792003956564819949) / 256 ^ j % 256) := by
            show ∀ _, _
            intro d hd j hj
            rw [getD_set _ _ _ _ (by omega)]
            split
            · next e => subst e; exact hd.symm
            · exact HDo.out j (by omega)
          generalize gk / 256 ^ t % 256 = x at *
          generalize 57896044618658097711785492504343953926634992332820282019728792003956564819949 / 256 ^ t % 256 = y at *
          generalize hdd : (gk - 57896044618658097711785492504343953926634992332820282019728792003956564819949) / 256 ^ t % 256 = d at *
          have HD1 : Hid (∀ j, j < t + 1 → (out.set t d).getD j 0 = (gk - 57896044618658097711785492504343953926634992332820282019728792003956564819949) / 256 ^ j % 256) := HDx.out d rfl
          have HX' : Hid _ := HX
          have hfz := hown.frozenAt t
          have hco := own_cell hown t htm
          generalize out.getD t 0 = y0 at hco
          clear HX hdd HDx
          by_cases hxy : x < y + b
          · have q := (HX'.out.1 hxy)
            have q1 := q.1
            have Q2 : Hid _ := q.2
            clear q
            go_wp2
            go_quiet (fail)
            go_wp2
            rw [show ((x : Int) - (y : Int) - (b : Int) + 256) = (d : Int) from by omega]
            refine ⟨⟨t + 1, 1, out.set t d, by omega, by omega, by go_num, rfl, by simp [hol], (by show _ = _; exact Q2.out.symm), HD1.out, ?_, ?_⟩, by simp [intOf]; omega⟩
            · have h := (hown.stored t (.int .i64 (d : Int))).1
              rw [irow_set] at h
              exact h
            · refine Below.setCell ?hq1 ?hq2 _
              case hq1 => exact Below.trans hbi ⟨rfl, rfl, rfl, Nat.le_refl _, fun _ _ => rfl⟩
              case hq2 => exact Nat.le_refl _
          · have q := (HX'.out.2 hxy)
            have q1 := q.1
            have Q2 : Hid _ := q.2
            clear q
            go_wp2
            go_quiet (fail)
            go_wp2
            rw [show ((x : Int) - (y : Int) - (b : Int)) = (d : Int) from by omega]
            refine ⟨⟨t + 1, 0, out.set t d, by omega, by omega, by go_num, rfl, by simp [hol], (by show _ = _; exact Q2.out.symm), HD1.out, ?_, ?_⟩, by simp [intOf]; omega⟩
            · have h := (hown.stored t (.int .i64 (d : Int))).1
              rw [irow_set] at h
              exact h
            · refine Below.setCell ?hq1 ?hq2 _
              case hq1 => exact Below.trans hbi ⟨rfl, rfl, rfl, Nat.le_refl _, fun _ _ => rfl⟩
              case hq2 => exact Nat.le_refl _
        · have e : t = 32 := by omega
          subst e
          have el := list_digs out _ hol HDo.out
          have hz := hbi.size
          have hz3 := hb3.size
          have hz4 := hb.size
          obtain ⟨go, co, e2, _, _, hgo, _, hho⟩ := owns_holds hown (by omega)
          simp only [Value.slice.injEq, Option.some.injEq, Addr.mk.injEq, and_true, true_and] at e2
          obtain ⟨rfl, rfl⟩ := e2
          rw [el] at hho
          go_wp2
          go_roundg (gk - 57896044618658097711785492504343953926634992332820282019728792003956564819949)
          case measure => exact HM2.out.2
          case rel => exact ⟨w3.heap.size, 32, rfl, by omega, ⟨Nat.lt_trans HM2.out.2 HW.out.1, HM2.out.1.trans HW.out.2⟩, hho, hb.trans ((hb3.trans (hbi.mono hz3)).mono hz4)⟩
end Go.Proofs.YtanfjkmkfcekmaaDoor
