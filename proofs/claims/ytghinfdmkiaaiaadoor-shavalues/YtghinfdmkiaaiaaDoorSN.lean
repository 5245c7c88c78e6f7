/-
  What ShaValues answers.
-/
import Derived.Test.YtghinfdmkiaaiaaDoorSU
import Derived.Test.YtghinfdmkiaaiaaDoorSQ
namespace Go.Proofs.YtghinfdmkiaaiaaDoor.sh
open Go Go.RowKit
set_option linter.unusedVariables false
set_option linter.unusedSimpArgs false


set_option maxHeartbeats 2000000 in
theorem values_any (v0 : Value) (bs : List Nat) (v1 : Value) (V : Nat → Value) (ll : List (List Nat)) (w : World) (hv0 : BytesV v0 w bs) (hy0 : Bytes bs) (hl0 : bs.length ≤ maxLen) (hv1 : RowsV v1 w V ll) (hl1 : ll.length ≤ maxLen) (hr : RootsAt w) :
    Calls Tryd.prog 7 #[v0, v1] w fun e w' => e = .returned (.bool true) ∧ Below w.heap.size w w' := by
  have KB0 : Kept _ := ⟨hv0⟩
  have KB1 : Kept _ := ⟨hv1⟩
  obtain ⟨p0, c0, rfl, _, _⟩ := hv0
  obtain ⟨p1, c1, rfl, hc1, hcell1, hrows⟩ := hv1
  have KC : Kept _ := ⟨hcell1⟩
  have KW : Kept _ := ⟨hrows⟩
  have KR : Kept _ := ⟨hr⟩
  have KY : Kept _ := ⟨hy0⟩
  have h0 := hr.1
  obtain ⟨n0, hn0⟩ : ∃ n, n = bs.length := ⟨_, rfl⟩
  obtain ⟨n1, hn1⟩ : ∃ n, n = ll.length := ⟨_, rfl⟩
  rw [← hn0] at KB0 hl0
  rw [← hn1] at KB1 hl1
  have EN0 : Kept _ := ⟨hn0⟩
  have EN1 : Kept _ := ⟨hn1⟩
  have l0 : n0 < 9223372036854775808 := by unfold maxLen at hl0; omega
  have l1 : n1 < 9223372036854775808 := by unfold maxLen at hl1; omega
  rw [← hn0, ← hn1]
  clear hcell1 hrows hy0 hn0 hn1 hl0 hl1 hc1
  have hz0 := dgs_zero
  go_enter Tryd.func7, Tryd.ntmps7
  go_wp2_with fail
  refine (alive3_any w hr).mono ?_
  rintro e w1 ⟨rfl, hb1⟩
  have R1 : Kept (RootsAt w1) := ⟨KR.out.under hb1⟩
  have h1 : 0 < w1.heap.size := R1.out.1
  have B0 : Kept (BytesV (.slice p0 n0 c0) w1 bs) := ⟨KB0.out.under hb1⟩
  have B1 : Kept (RowsV (.slice p1 n1 c1) w1 V ll) := ⟨KB1.out.under hb1⟩
  clear hr KB0 KB1 KC KW
  by_cases hb : 1000 < n0
  · have hb' : (1000 : Int) < (n0 : Int) := by omega
    go_wp2_with fail
    go_ret
    exact ⟨rfl, hb1⟩
  have hb' : ¬ (1000 : Int) < (n0 : Int) := by omega
  by_cases hc : 20 < n1
  · have hc' : (20 : Int) < (n1 : Int) := by omega
    go_wp2_with fail
    go_ret
    exact ⟨rfl, hb1⟩
  have hc' : ¬ (20 : Int) < (n1 : Int) := by omega
  have m0 : bs.length < 1000000 := by have := EN0.out; omega
  have KM : Kept _ := ⟨m0⟩
  have S0 : Kept ((dgs ([] ++ bs)).size = 73) := ⟨dgs_size KY.out⟩
  clear m0
  go_wp2_with (first | ((with_reducible refine wv_val (d := 19) ?hd ?hw (.agg (dgs [])) ?hr ?_); (case hd => rfl); (case hw => kernel_rfl); (case hr => intro w; exact build_run rfl dgs_build w); simp only [Act.put, List.setIfInBounds_toArray, List.set_cons_succ, List.set_cons_zero]))
  refine (cWrite nil_bytes KY.out (by have := KM.out; simp; omega) R1.out B0.out).mono ?_
  rintro e w2 ⟨rfl, hb2⟩
  have ZS : (dgs []).size = 73 := dgs_size nil_bytes
  go_wp2_with (first | (refine wl_store rfl 32 (.tmp 5) (.tmp 21) rfl _ (dgs ([] ++ bs)) rfl rfl _ (blk_new w2 _ _) (by rw [S0.out]; exact dig_info) (by rw [S0.out, ZS]) (dgs_one _) ?_))
  intro w3 A3 P3
  have HB : Below w1.heap.size w1 w3 := (hb2.alloc hb2.size _).trans (P3.below hb2.size)
  have GB : Kept (w1.heap.size ≤ w2.heap.size) := ⟨hb2.size⟩
  have A3 : Blk w3 w2.heap.size 32 (dgs bs) := A3
  generalize w2.heap.size = g at *
  clear P3 hb2 S0 ZS hz0
  go_wp2_with fail
  go_loopg [24] n1 (fun m s24 wr => ∃ i : Nat, i + m = n1 ∧ s24 = .int .i64 (i : Int) ∧ Below w1.heap.size w1 wr ∧ Blk wr g 32 (dgs bs))
  case atStart => exact ⟨0, by omega, rfl, HB, A3⟩
  case round =>
    clear A3 HB
    obtain ⟨i, hik, rfl, HB, A0⟩ := hrel
    by_cases hk0 : gk = 0
    · obtain rfl : i = n1 := by omega
      clear hik hk0
      go_wp2_with fail
      go_ret
      exact ⟨rfl, hb1.trans (HB.mono hb1.size)⟩
    · have hlt : i < n1 := by omega
      have hlt' : (i : Int) < (n1 : Int) := by omega
      have i0 : (0 : Int) ≤ (i : Int) := by omega
      have B1w : Kept (RowsV (.slice p1 n1 c1) wr V ll) := ⟨B1.out.under HB⟩
      have B0w : Kept (BytesV (.slice p0 n0 c0) wr bs) := ⟨B0.out.under HB⟩
      have Rw : Kept (RootsAt wr) := ⟨R1.out.under HB⟩
      obtain ⟨p', c', e1, _, hcell, hrows⟩ := B1w.out
      obtain ⟨rfl, _, rfl⟩ : p1 = p' ∧ n1 = ll.length ∧ c1 = c' := by simpa using e1
      obtain ⟨Ad, rfl, _, hcell⟩ := hcell (by intro e; have := EN1.out; rw [e] at this; simp at this; omega)
      have hci : wr.cell? (Ad.add i) = some (V i) := hcell i (by have := EN1.out; omega)
      obtain ⟨cs, hcs⟩ : ∃ cs, ll[i]? = some cs := ⟨_, List.getElem?_eq_getElem (by have := EN1.out; omega)⟩
      obtain ⟨hVi, yVi, lVi⟩ := hrows i cs hcs
      have BV : Kept _ := ⟨hVi⟩
      have YV : Kept _ := ⟨yVi⟩
      obtain ⟨pi, ci, eV, _, _⟩ := hVi
      obtain ⟨li, hli⟩ : ∃ l, l = cs.length := ⟨_, rfl⟩
      have EL : Kept _ := ⟨hli⟩
      rw [← hli] at eV lVi
      rw [eV] at hci BV
      have li63 : li < 9223372036854775808 := by unfold maxLen at lVi; omega
      clear hcell hrows hcs yVi hli eV lVi B1w
      by_cases hbig : 1000 < li
      · have hbig' : (1000 : Int) < (li : Int) := by omega
        go_wp2_with (first | ((with_reducible refine wv_elem (d := 27) ?hd ?hw 22 ag_bytes (.tmp 26) ?ho (Ad.add i) ?hx (.slice pi li ci) ?hg ?_); (case hd => rfl); (case hw => kernel_rfl); (case ho => rfl); (case hx => first | rfl | kernel_rfl); (case hg => exact hci); simp only [Act.put, List.setIfInBounds_toArray, List.set_cons_succ, List.set_cons_zero]))
        go_roundg (gk - 1)
        case measure => omega
        case rel => exact ⟨i + 1, by omega, by rfl, HB, A0⟩
      · have hbig' : ¬ (1000 : Int) < (li : Int) := by omega
        have mc : Kept (bs.length + cs.length ≤ 8796093022208) := ⟨by have := KM.out; have := EL.out; omega⟩
        have mb : Kept (([] : List Nat).length + bs.length ≤ 8796093022208) := ⟨by have := KM.out; simp; omega⟩
        go_wp2_with (first | ((with_reducible refine wv_elem (d := 27) ?hd ?hw 22 ag_bytes (.tmp 26) ?ho (Ad.add i) ?hx (.slice pi li ci) ?hg ?_); (case hd => rfl); (case hw => kernel_rfl); (case ho => rfl); (case hx => first | rfl | kernel_rfl); (case hg => exact hci); simp only [Act.put, List.setIfInBounds_toArray, List.set_cons_succ, List.set_cons_zero]) | (refine wl_app (by kernel_rfl) (.const (.slice none 0 0)) (.tmp 31) 22 5 .u8 1 rfl Tryd.underlying22 inf_u8 (by decide) (wr.heap.size) [] bs (.slice none 0 0) (.slice p0 n0 c0) (by kernel_rfl) (by kernel_rfl) (row_nil _ _ _ _) B0w.out mb.out (Nat.le_refl _) ?_))
        intro u1 w4 R4 G4 _
        have HB4 : Below wr.heap.size wr w4 := grown_below0 G4 (Nat.le_refl _) (fun b hb => by cases hb)
        have R4 : Kept _ := ⟨R4⟩
        have B4 : Kept _ := ⟨BV.out.under HB4⟩
        go_wp2_with (first | (refine wl_app (by kernel_rfl) (.tmp 32) (.tmp 33) 22 5 .u8 1 rfl Tryd.underlying22 inf_u8 (by decide) (wr.heap.size) bs cs (u1) (.slice pi li ci) (by kernel_rfl) (by kernel_rfl) R4.out B4.out mc.out HB4.size ?_))
        intro u2 w5 R5 G5 _
        have HB5 : Below wr.heap.size wr w5 := HB4.trans (grown_below0 G5 HB4.size (fun b hb => (R4.out.range b hb).1))
        have R5 : Kept _ := ⟨row_bytes R5⟩
        have A5 := A0.under HB5
        have RR5 : Kept _ := ⟨Rw.out.under HB5⟩
        have BV5 : Kept _ := ⟨BV.out.under HB5⟩
        have B05 : Kept _ := ⟨B0w.out.under HB5⟩
        have HB6 := HB.trans (HB5.mono HB.size)
        clear R4 B4 G4 G5 HB4 HB5 A0 Rw BV B0w HB
        have sD : Kept ((dgs bs).size = 73) := ⟨dgs_size KY.out⟩
        go_wp2_with (first | ((with_reducible refine wv_rowS (d := 35) ?hd ?hw 32 (.tmp 5) ?ho (g) ?hx (t' := 32) (dgs bs) _ Tryd.underlying32 ?hs ?hg ?_); (case hd => rfl); (case hw => kernel_rfl); (case ho => rfl); (case hx => kernel_rfl); (case hs => rw [sD.out]; exact dig_info); (case hg => exact A5); simp only [Act.put, List.setIfInBounds_toArray, List.set_cons_succ, List.set_cons_zero]))
        refine (cWrite KY.out YV.out (by have := mc.out; have := KM.out; have := EL.out; omega) RR5.out BV5.out).mono ?_
        rintro e w6 ⟨rfl, hb6⟩
        have A6 := A5.under hb6
        have R6 : Kept _ := ⟨R5.out.under hb6⟩
        have RR6 : Kept _ := ⟨RR5.out.under hb6⟩
        have B06 : Kept _ := ⟨B05.out.under hb6⟩
        have HB7 := HB6.trans (hb6.mono HB6.size)
        clear A5 R5 RR5 B05 BV5 HB6 hb6
        have YB : Kept (Bytes (bs ++ cs)) := ⟨KY.out.append YV.out⟩
        have LB : Kept ((bs ++ cs).length < 1000000000) := ⟨by rw [List.length_append]; have := KM.out; have := EL.out; omega⟩
        go_wp2_with fail
        refine (cDSum YB.out LB.out RR6.out).mono ?_
        rintro e w7 ⟨rfl, hb7⟩
        have A7 := A6.under hb7
        have R7 : Kept _ := ⟨R6.out.under hb7⟩
        have RR7 : Kept _ := ⟨RR6.out.under hb7⟩
        have B07 : Kept _ := ⟨B06.out.under hb7⟩
        have HB8 := HB7.trans (hb7.mono HB7.size)
        clear A6 R6 RR6 B06 HB7 hb7
        go_wp2_with fail
        refine (cSum YB.out LB.out RR7.out R7.out).mono ?_
        rintro e w8 ⟨rfl, hb8⟩
        have A8 := A7.under hb8
        have RR8 : Kept _ := ⟨RR7.out.under hb8⟩
        have B08 : Kept _ := ⟨B07.out.under hb8⟩
        have HB9 := HB8.trans (hb8.mono HB8.size)
        clear A7 R7 RR7 B07 HB8 hb8
        go_wp2_with (first | ((with_reducible refine wv_val (d := 41) ?hd ?hw (.bool false) ?hr ?_); (case hd => rfl); (case hw => kernel_rfl); (case hr => intro w; rw [run_neq_row (sumL (bs ++ cs)) (sumL (bs ++ cs)) rfl (by kernel_rfl) (by kernel_rfl) (sumL_len _) (sumL_len _) Tryd.underlying24 Tryd.underlying5 sz_u8 ag_u8 eg32]; rw [decide_eq_true rfl]; rfl); simp only [Act.put, List.setIfInBounds_toArray, List.set_cons_succ, List.set_cons_zero]) | ((with_reducible refine wv_rowS (d := 43) ?hd ?hw 32 (.tmp 5) ?ho (g) ?hx (t' := 32) (dgs bs) _ Tryd.underlying32 ?hs ?hg ?_); (case hd => rfl); (case hw => kernel_rfl); (case ho => rfl); (case hx => kernel_rfl); (case hs => rw [sD.out]; exact dig_info); (case hg => exact A8); simp only [Act.put, List.setIfInBounds_toArray, List.set_cons_succ, List.set_cons_zero]))
        refine (cDSum KY.out (by have := KM.out; omega) RR8.out).mono ?_
        rintro e w9 ⟨rfl, hb9⟩
        have A9 := A8.under hb9
        have RR9 : Kept _ := ⟨RR8.out.under hb9⟩
        have B09 : Kept _ := ⟨B08.out.under hb9⟩
        have HB10 := HB9.trans (hb9.mono HB9.size)
        clear A8 RR8 B08 HB9 hb9
        go_wp2_with fail
        refine (cSum KY.out (by have := KM.out; omega) RR9.out B09.out).mono ?_
        rintro e w10 ⟨rfl, hb10⟩
        have A10 := A9.under hb10
        have HB11 := HB10.trans (hb10.mono HB10.size)
        clear A9 RR9 B09 HB10 hb10
        go_wp2_with (first | ((with_reducible refine wv_val (d := 47) ?hd ?hw (.bool false) ?hr ?_); (case hd => rfl); (case hw => kernel_rfl); (case hr => intro w; rw [run_neq_row (sumL bs) (sumL bs) rfl (by kernel_rfl) (by kernel_rfl) (sumL_len _) (sumL_len _) Tryd.underlying24 Tryd.underlying5 sz_u8 ag_u8 eg32]; rw [decide_eq_true rfl]; rfl); simp only [Act.put, List.setIfInBounds_toArray, List.set_cons_succ, List.set_cons_zero]))
        go_roundg (gk - 1)
        case measure => omega
        case rel => exact ⟨i + 1, by omega, by rfl, HB11, A10⟩
end Go.Proofs.YtghinfdmkiaaiaaDoor.sh
