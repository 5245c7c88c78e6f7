/-
  What ShaOwn answers.
-/
import Derived.Test.YtghinfdmkiaaiaaDoorSOa
namespace Go.Proofs.YtghinfdmkiaaiaaDoor.sh
open Go Go.RowKit
set_option linter.unusedVariables false
set_option linter.unusedSimpArgs false


set_option maxRecDepth 100000 in
set_option maxHeartbeats 4000000 in
theorem own_any (v0 : Value) (bs : List Nat) (v1 : Value) (cs : List Nat) (w : World) (hv0 : BytesV v0 w bs) (hy0 : Bytes bs) (hl0 : bs.length ≤ maxLen) (hv1 : BytesV v1 w cs) (hy1 : Bytes cs) (hl1 : cs.length ≤ maxLen) (hr : RootsAt w) :
    Calls Tryd.prog 5 #[v0, v1] w fun e w' => e = .returned (.bool true) ∧ Below w.heap.size w w' := by
  have KB0 : Kept _ := ⟨hv0⟩
  have KB1 : Kept _ := ⟨hv1⟩
  obtain ⟨p0, c0, rfl, _, _⟩ := hv0
  obtain ⟨p1, c1, rfl, _, _⟩ := hv1
  have KR : Kept _ := ⟨hr⟩
  have YB : Kept _ := ⟨hy0⟩
  have YC : Kept _ := ⟨hy1⟩
  have h0 := hr.1
  obtain ⟨n0, hn0⟩ : ∃ n, n = bs.length := ⟨_, rfl⟩
  obtain ⟨n1, hn1⟩ : ∃ n, n = cs.length := ⟨_, rfl⟩
  rw [← hn0] at KB0 hl0
  rw [← hn1] at KB1 hl1
  have EN0 : Kept _ := ⟨hn0⟩
  have EN1 : Kept _ := ⟨hn1⟩
  have l0 : n0 < 9223372036854775808 := by unfold maxLen at hl0; omega
  have l1 : n1 < 9223372036854775808 := by unfold maxLen at hl1; omega
  rw [← hn0, ← hn1]
  clear hy0 hy1 hn0 hn1 hl0 hl1
  have hz0 := dgs_zero
  go_enter Tryd.func5, Tryd.ntmps5
  go_wp2_with fail
  refine (alive3_any w hr).mono ?_
  rintro e w1 ⟨rfl, hb1⟩
  have R1 : Kept (RootsAt w1) := ⟨KR.out.under hb1⟩
  have h1 : 0 < w1.heap.size := R1.out.1
  have B0 : Kept (BytesV (.slice p0 n0 c0) w1 bs) := ⟨KB0.out.under hb1⟩
  have B1 : Kept (BytesV (.slice p1 n1 c1) w1 cs) := ⟨KB1.out.under hb1⟩
  clear hr KB0 KB1
  by_cases hb : 1000 < n0
  · have hb' : (1000 : Int) < (n0 : Int) := by omega
    go_wp2_with fail
    go_ret
    exact ⟨rfl, hb1⟩
  have hb' : ¬ (1000 : Int) < (n0 : Int) := by omega
  by_cases hc : 1000 < n1
  · have hc' : (1000 : Int) < (n1 : Int) := by omega
    go_wp2_with fail
    go_ret
    exact ⟨rfl, hb1⟩
  have hc' : ¬ (1000 : Int) < (n1 : Int) := by omega
  have LL : Kept (bs.length ≤ 1000 ∧ cs.length ≤ 1000) := ⟨by have := EN0.out; have := EN1.out; omega⟩
  have LB : Kept (([] : List Nat).length + bs.length ≤ 8796093022208) := ⟨by have := LL.out; simp; omega⟩
  have LD : Kept (bs.length + cs.length ≤ 8796093022208) := ⟨by have := LL.out; omega⟩
  go_wp2_with (first | (refine wl_app (by kernel_rfl) (.const (.slice none 0 0)) (.tmp 22) 22 5 .u8 1 rfl Tryd.underlying22 inf_u8 (by decide) (w1.heap.size) ([]) (bs) (.slice none 0 0) (.slice p0 n0 c0) (by kernel_rfl) (by kernel_rfl) (row_nil _ _ _ _) B0.out LB.out (Nat.le_refl _) ?_) | ((with_reducible refine wv_val (d := 24) ?hd ?hw (.agg (dgs [])) ?hr ?_); (case hd => rfl); (case hw => kernel_rfl); (case hr => intro w; exact build_run rfl dgs_build w); simp only [Act.put, List.setIfInBounds_toArray, List.set_cons_succ, List.set_cons_zero]))
  intro v5 w2 R5 G2 _
  have HB2 : Below w1.heap.size w1 w2 := grown_mono G2 (Nat.le_refl _) (fun b hb => by cases hb)
  have R2 : Kept (Row w1.heap.size 5 .u8 bs v5 w2) := ⟨R5⟩
  clear R5
  clear G2
  go_wp2_with (first | ((with_reducible refine wv_val (d := 24) ?hd ?hw (.agg (dgs [])) ?hr ?_); (case hd => rfl); (case hw => kernel_rfl); (case hr => intro w; exact build_run rfl dgs_build w); simp only [Act.put, List.setIfInBounds_toArray, List.set_cons_succ, List.set_cons_zero]))
  refine (cWrite nil_bytes YB.out (by have := LL.out; simp; omega) (R1.out.under HB2) (row_bytes R2.out)).mono ?_
  rintro e w3 ⟨rfl, hb3⟩
  have S0 : Kept ((dgs ([] ++ bs)).size = 73) := ⟨dgs_size YB.out⟩
  have ZS : Kept ((dgs []).size = 73) := ⟨dgs_size nil_bytes⟩
  go_wp2_with (first | (refine wl_store rfl 32 (.tmp 6) (.tmp 26) rfl _ (dgs ([] ++ bs)) rfl rfl _ (blk_new w3 _ _) (by rw [S0.out]; exact dig_info) (by rw [S0.out, ZS.out]) (dgs_one _) ?_))
  intro w4 AD P4
  have AD : Blk w4 w3.heap.size 32 (dgs bs) := AD
  have HB34 : Below w3.heap.size w3 w4 := ((Below.refl _ _).alloc (Nat.le_refl _) _).trans (P4.below (Nat.le_refl _))
  have HB4 : Below w1.heap.size w1 w4 := (HB2.trans (hb3.mono HB2.size)).trans (HB34.mono (Nat.le_trans HB2.size hb3.size))
  have R5 : Kept (Row w1.heap.size 5 .u8 bs v5 w4) := ⟨(R2.out.under hb3).under HB34⟩
  have V5 : Kept (∀ b, blkOf v5 = some b → b < w3.heap.size) := ⟨fun b hb => Nat.lt_of_lt_of_le (R2.out.range b hb).2 hb3.size⟩
  have gd1 : w1.heap.size ≤ w3.heap.size := Nat.le_trans HB2.size hb3.size
  clear P4 hb3 HB34 HB2 R2 S0 ZS
  generalize w3.heap.size = gd at *
  have T4 : Kept (BytesV (.slice p0 n0 c0) w4 bs) := ⟨B0.out.under HB4⟩
  go_wp2_with (first | (refine wl_app (by kernel_rfl) (.const (.slice none 0 0)) (.tmp 27) 22 5 .u8 1 rfl Tryd.underlying22 inf_u8 (by decide) (w4.heap.size) ([]) (bs) (.slice none 0 0) (.slice p0 n0 c0) (by kernel_rfl) (by kernel_rfl) (row_nil _ _ _ _) T4.out LB.out (Nat.le_refl _) ?_))
  intro u1 w5 Q5 G5 _
  have HB5 : Below w4.heap.size w4 w5 := grown_mono G5 (Nat.le_refl _) (fun b hb => by cases hb)
  have Q5 : Kept (Row w4.heap.size 5 .u8 bs u1 w5) := ⟨Q5⟩
  have T5 : Kept (BytesV (.slice p1 n1 c1) w5 cs) := ⟨B1.out.under (HB4.trans (HB5.mono HB4.size))⟩
  clear T4
  go_wp2_with (first | (refine wl_app (by kernel_rfl) (.tmp 28) (.tmp 29) 22 5 .u8 1 rfl Tryd.underlying22 inf_u8 (by decide) (w4.heap.size) (bs) (cs) (u1) (.slice p1 n1 c1) (by kernel_rfl) (by kernel_rfl) Q5.out T5.out LD.out HB5.size ?_))
  intro u2 w6 Q6 G6 _
  have HB6 : Below w4.heap.size w4 w6 := HB5.trans (grown_mono G6 HB5.size (fun b hb => (Q5.out.range b hb).1))
  have Q6 : Kept _ := ⟨row_bytes Q6⟩
  clear Q5 T5 G5 G6 HB5
  have Y1 : Kept (Bytes (bs ++ cs)) := ⟨YB.out.append YC.out⟩
  have M1 : Kept ((bs ++ cs).length < 1000000000) := ⟨by rw [List.length_append]; have := LL.out; omega⟩
  go_wp2_with fail
  refine (cSum Y1.out M1.out (R1.out.under (HB4.trans (HB6.mono HB4.size))) Q6.out).mono ?_
  rintro e w7 ⟨rfl, hb7⟩
  go_wp2_with (first | (refine wl_store rfl 24 (.tmp 7) (.tmp 31) rfl _ (ints .u8 (sumL (bs ++ cs))) rfl rfl _ (blk_new w7 _ _) (by rw [ints_size, sumL_len]; exact t32_info) (by rw [ints_size, sumL_len]; rfl) (ints_one _ _) ?_))
  intro w8 AW P8
  have HB68 : Below w6.heap.size w6 w8 := (hb7.alloc hb7.size _).trans (P8.below hb7.size)
  have HB8 : Below w4.heap.size w4 w8 := HB6.trans (HB68.mono HB6.size)
  have gdw : gd < w7.heap.size := Nat.lt_of_lt_of_le AD.lt (Nat.le_trans HB6.size hb7.size)
  have AD8 := AD.under HB8
  have R8 := R5.out.under HB8
  have HB18 := HB4.trans (HB8.mono HB4.size)
  clear P8 hb7 HB68 HB6 HB8 Q6 AD R5 HB4
  generalize w7.heap.size = gw at *
  obtain ⟨p5, c5, e5, hc5, _⟩ := row_cells R8
  rw [← EN0.out] at e5 hc5
  subst e5
  go_wp2_with fail
  go_loopg [34] n0 (fun m s34 wr => ∃ i : Nat, i + m = n0 ∧ s34 = .int .i64 (i : Int) ∧ Kept (∃ xs : List Nat, xs.length = n0 ∧ Bytes xs ∧ Row w1.heap.size 5 .u8 xs (.slice p5 n0 c5) wr ∧ Blk wr gd 32 (dgs bs) ∧ Blk wr gw 24 (ints .u8 (sumL (bs ++ cs))) ∧ Below w1.heap.size w1 wr))
  case atStart => exact ⟨0, by omega, rfl, ⟨⟨bs, EN0.out.symm, YB.out, R8, AD8, AW, HB18⟩⟩⟩
  case round =>
    clear R8 AD8 AW HB18
    obtain ⟨i, hik, rfl, KK⟩ := hrel
    obtain ⟨xs, hxl, hxb, RX, AD, AW, HB⟩ := KK.out
    clear KK
    by_cases hk0 : gk = 0
    case neg =>
      have hlt : i < n0 := by omega
      have hlt' : (i : Int) < (n0 : Int) := by omega
      have i0 : (0 : Int) ≤ (i : Int) := by omega
      obtain ⟨g5, cap5, cur, e5, hb5, A5, hcz, hcell⟩ := RX.form (by omega)
      obtain ⟨rfl, hq, rfl⟩ : p5 = some ⟨g5, 0, none⟩ ∧ n0 = xs.length ∧ c5 = cap5 := by simpa using e5
      obtain ⟨x, hx⟩ : ∃ x, xs[i]? = some x := ⟨_, List.getElem?_eq_getElem (by omega)⟩
      have hc := A5.cell (hcell i x hx)
      have hx8 : x < 256 := hxb i x hx
      obtain ⟨z, hz⟩ : ∃ z, z = x ^^^ 255 := ⟨_, rfl⟩
      have EZ : Kept _ := ⟨hz⟩
      have z8 : z < 256 := by rw [hz]; exact xor8_lt x hx8
      have g5d : g5 < gd := V5.out g5 rfl
      have ics : i < cur.size := by omega
      have KX : Kept _ := ⟨RX⟩
      have KXB : Kept _ := ⟨hxb⟩
      have KL : Kept _ := ⟨hxl⟩
      clear e5 hcell hx hz RX hq hxb hxl hcz
      go_wp2_with (first | ((with_reducible refine wv_elem (d := 40) ?hd ?hw 5 ag_u8 (.tmp 39) ?ho ⟨g5, i, none⟩ ?hx (.int .u8 (x : Int)) ?hg ?_); (case hd => rfl); (case hw => kernel_rfl); (case ho => rfl); (case hx => first | rfl | kernel_rfl); (case hg => exact hc); simp only [Act.put, List.setIfInBounds_toArray, List.set_cons_succ, List.set_cons_zero]) | ((with_reducible refine wv_val (d := 41) ?hd ?hw (.int .u8 (z : Int)) ?hr ?_); (case hd => rfl); (case hw => kernel_rfl); (case hr => intro w; exact run_xor8 rfl (by kernel_rfl) hx8 EZ.out w); simp only [Act.put, List.setIfInBounds_toArray, List.set_cons_succ, List.set_cons_zero]) | (refine wl_setElem rfl 5 sz_u8 (.tmp 42) (.tmp 41) rfl g5 i .u8 (z : Int) rfl rfl _ A5 ics ?_))
      intro w9 A9 P9
      have R9 := row_set KX.out A5 i z A9
      have AD9 := P9.blk AD (by omega)
      have AW9 := P9.blk AW (by omega)
      have HB9 := HB.trans (P9.below hb5)
      have XB : Bytes (xs.set i z) := KXB.out.set i z z8
      have XL : (xs.set i z).length = n0 := by rw [List.length_set]; exact KL.out
      clear A5 AD AW HB P9 hc A9
      go_wp2_with fail
      go_roundg (gk - 1)
      case measure => omega
      case rel => exact ⟨i + 1, by omega, by rfl, ⟨⟨xs.set i z, XL, XB, R9, AD9, AW9, HB9⟩⟩⟩
    obtain rfl : n0 = i := by omega
    clear hik hk0 RX hxl hxb
    go_wp2_with (first | ((with_reducible refine wv_rowS (d := 44) ?hd ?hw 32 (.tmp 6) ?ho (gd) ?hx (t' := 32) (dgs bs) _ Tryd.underlying32 ?hs ?hg ?_); (case hd => rfl); (case hw => kernel_rfl); (case ho => rfl); (case hx => kernel_rfl); (case hs => exact dgs_info YB.out); (case hg => exact AD); simp only [Act.put, List.setIfInBounds_toArray, List.set_cons_succ, List.set_cons_zero]))
    refine (cDSum YB.out (by have := LL.out; omega) (R1.out.under HB)).mono ?_
    rintro e wx ⟨rfl, hbx⟩
    obtain ⟨LS, hLS⟩ : ∃ L, L = sumL bs := ⟨_, rfl⟩
    rw [← hLS]
    have SL : Kept (LS.length = 32) := ⟨by rw [hLS]; exact sumL_len _⟩
    obtain ⟨x, hx⟩ : ∃ x, LS[0]? = some x := ⟨_, List.getElem?_eq_getElem (by rw [SL.out]; decide)⟩
    have hx8 : x < 256 := by rw [hLS] at hx; exact sumL_bytes bs 0 x hx
    have hxc : (ints .u8 LS)[0]? = some (.int .u8 (x : Int)) := ints_get hx
    have KXC : Kept _ := ⟨hxc⟩
    obtain ⟨z, hz⟩ : ∃ z, z = x ^^^ 255 := ⟨_, rfl⟩
    have EZ : Kept _ := ⟨hz⟩
    have ADx := AD.under hbx
    have AWx := AW.under hbx
    have HBx := HB.trans (hbx.mono HB.size)
    clear AD AW HB hbx hLS hx hz hxc
    go_wp2_with (first | (refine wl_store rfl 24 (.tmp 9) (.tmp 45) rfl _ (ints .u8 LS) rfl rfl _ (blk_new wx _ _) (by rw [ints_size, SL.out]; exact t32_info) (by rw [ints_size, SL.out]; rfl) (ints_one _ _) ?_))
    intro wy AS PS
    have HBy := (HBx.alloc HBx.size _).trans (PS.below HBx.size)
    have ADy := PS.blk (ADx.alloc _) (Nat.ne_of_lt ADx.lt)
    have AWy := PS.blk (AWx.alloc _) (Nat.ne_of_lt AWx.lt)
    have gs1 : w1.heap.size ≤ wx.heap.size := HBx.size
    have gsd := ADx.lt
    have gsw := AWx.lt
    clear ADx AWx HBx PS
    generalize wx.heap.size = gs at *
    have hcx := AS.cell KXC.out
    have zsz : 0 < (ints .u8 LS).size := by rw [ints_size, SL.out]; decide
    go_wp2_with (first | ((with_reducible refine wv_elem (d := 47) ?hd ?hw 5 ag_u8 (.tmp 46) ?ho ⟨gs, 0, none⟩ ?hx (.int .u8 (x : Int)) ?hg ?_); (case hd => rfl); (case hw => kernel_rfl); (case ho => rfl); (case hx => first | rfl | kernel_rfl); (case hg => exact hcx); simp only [Act.put, List.setIfInBounds_toArray, List.set_cons_succ, List.set_cons_zero]) | ((with_reducible refine wv_val (d := 48) ?hd ?hw (.int .u8 (z : Int)) ?hr ?_); (case hd => rfl); (case hw => kernel_rfl); (case hr => intro w; exact run_xor8 rfl (by kernel_rfl) hx8 EZ.out w); simp only [Act.put, List.setIfInBounds_toArray, List.set_cons_succ, List.set_cons_zero]) | (refine wl_setElem rfl 5 sz_u8 (.tmp 49) (.tmp 48) rfl gs 0 .u8 (z : Int) rfl rfl _ AS zsz ?_))
    intro wa Aa Pa
    have AD := Pa.blk ADy (by omega)
    have AW := Pa.blk AWy (by omega)
    have HB := HBy.trans (Pa.below gs1)
    clear ADy AWy HBy Pa Aa AS hcx zsz gs1 gsd gsw
    have RR : ∀ w', Below wa.heap.size wa w' → RootsAt w' := fun w' hb => (R1.out.under HB).under hb
    have TT0 : ∀ w', Below wa.heap.size wa w' → BytesV (.slice p0 n0 c0) w' bs := fun w' hb => (B0.out.under HB).under hb
    have TT1 : ∀ w', Below wa.heap.size wa w' → BytesV (.slice p1 n1 c1) w' cs := fun w' hb => (B1.out.under HB).under hb
    have Y2' : Bytes ([120] ++ cs) := Bytes.append (fun i x hx => by rcases i with _ | i <;> simp at hx; omega) YC.out
    have Y2 : Kept (Bytes (bs ++ ([120] ++ cs))) := ⟨YB.out.append Y2'⟩
    have M2' : bs.length + ([120] ++ cs).length < 1000000000 := by simp; have := LL.out; omega
    have M2 : Kept ((bs ++ ([120] ++ cs)).length < 1000000000) := ⟨by rw [List.length_append]; exact M2'⟩
    have C1 : Kept (∀ w', Below wa.heap.size wa w' → Calls Tryd.prog 11 [.agg (dgs bs), .slice p1 n1 c1].toArray w' fun e w2 => e = .returned (.agg (dgs (bs ++ cs))) ∧ Below w'.heap.size w' w2) := ⟨fun w' hb => cWrite YB.out YC.out (by have := LL.out; omega) (RR w' hb) (TT1 w' hb)⟩
    have C2 : Kept (∀ w' v, Below wa.heap.size wa w' → IntsV .u8 v w' ([120] ++ cs) → Calls Tryd.prog 11 [.agg (dgs bs), v].toArray w' fun e w2 => e = .returned (.agg (dgs (bs ++ ([120] ++ cs)))) ∧ Below w'.heap.size w' w2) := ⟨fun w' v hb hv => cWrite YB.out Y2' M2' (RR w' hb) hv⟩
    have C4 : Kept (∀ w', Below wa.heap.size wa w' → IntsV .u8 (.slice p1 n1 c1) w' cs) := ⟨TT1⟩
    have LC : Kept ([120].length + cs.length ≤ 8796093022208) := ⟨by have := LL.out; simp; omega⟩
    clear RR TT0 TT1 Y2' M2'
    go_wp2_with fail
    refine region_ownL wa 11 [(50, .agg (dgs bs)), (51, .slice p1 n1 c1), (52, .agg (dgs (bs ++ cs))), (53, .agg (dgs bs)), (56, .slice p1 n1 c1), (58, .agg (dgs (bs ++ ([120] ++ cs))))] [(54, Const 5 .u8 [120]), (55, Const 5 .u8 [120]), (57, fun v w => IntsV .u8 v w ([120] ++ cs)), (10, PtrAt 32 (dgs [])), (11, PtrAt 32 (dgs []))] [54, 55, 57, 10, 11] [(5, 54), (7, 55)] rfl (by kernel_rfl) (by kernel_rfl) (by kernel_rfl) (by kernel_rfl) (by kernel_rfl) (by kernel_rfl) (by kernel_rfl) (by kernel_rfl) (by kernel_rfl) (by kernel_rfl) (by kernel_rfl) ?hst1 ?hst2 (Below.refl _ _) (fun hA => ⟨ow_rowS hA (wants_none rfl) 50 (.agg (dgs bs)) (by kernel_rfl) rfl rfl rfl rfl (by kernel_rfl) 32 (.tmp 6) rfl (gd) (by kernel_rfl) 32 (dgs bs) _ Tryd.underlying32 (dgs_info YB.out) (fun w1 hb => Blk.under AD hb) rfl, ow_val hA (wants_none rfl) 51 (.slice p1 n1 c1) (by kernel_rfl) rfl rfl rfl rfl (by kernel_rfl) (fun w => by kernel_rfl), ow_calld hA (wants_none rfl) 52 (.agg (dgs (bs ++ cs))) (by kernel_rfl) rfl rfl rfl rfl (by kernel_rfl) 11 Tryd.f11 _ [.tmp 50, .tmp 51] _ [.agg (dgs bs), .slice p1 n1 c1] rfl (by kernel_rfl) Tryd.func11 (by kernel_rfl) rfl (fun w3 hb => C1.out w3 hb), ow_rowS hA (wants_none rfl) 53 (.agg (dgs bs)) (by kernel_rfl) rfl rfl rfl rfl (by kernel_rfl) 32 (.tmp 6) rfl (gd) (by kernel_rfl) 32 (dgs bs) _ Tryd.underlying32 (dgs_info YB.out) (fun w1 hb => Blk.under AD hb) rfl, ow_new (wants_none rfl) 54 rfl (Const 5 .u8 [120]) rfl (fun a w _ => ⟨_, _, by kernel_rfl, ⟨w.heap.size, (0, 0), rfl, heap_new w _⟩, (Below.refl _ _).alloc (Nat.le_refl _) _, fun b hb => by cases hb; exact ⟨Nat.le_refl _, by simp⟩⟩), ow_conv (wants_none rfl) 55 54 rfl 22 5 _ rfl Tryd.underlying22 Tryd.underlying5 rfl rfl (by kernel_rfl) rfl (by decide), ow_val hA (wants_none rfl) 56 (.slice p1 n1 c1) (by kernel_rfl) rfl rfl rfl rfl (by kernel_rfl) (fun w => by kernel_rfl), ow_appc (wants_none rfl) 57 55 rfl (.tmp 56) 22 5 .u8 1 rfl Tryd.underlying22 inf_u8 (by decide) [120] cs LC.out rfl rfl (by kernel_rfl) rfl (by decide) (fun a w1 hF hb hgot => by rw [gotE_det (v := .slice p1 n1 c1) hA hgot (by kernel_rfl) rfl rfl (by kernel_rfl)]; exact C4.out w1 hb), ow_call (wants_none rfl) 58 11 Tryd.f11 _ [.tmp 53, .tmp 57] _ rfl rfl Tryd.func11 (by kernel_rfl) rfl (fun a w1 hF hb hgot => by rw [List.map_cons, List.map_cons, List.map_nil, gotE_det (v := .agg (dgs bs)) hA hgot (by kernel_rfl) rfl rfl (by kernel_rfl)]; exact (C2.out w1 _ hb (gotE_spec hgot (fun v w => IntsV .u8 v w ([120] ++ cs)) (by kernel_rfl) rfl rfl).1).mono fun e w2 hh => ⟨_, hh.1, rel_det hA rfl (by kernel_rfl), hh.2, fun h => by cases h⟩), ow_new (wants_none rfl) 10 rfl (PtrAt 32 (dgs [])) rfl (fun a w _ => ⟨_, _, alloc_dig rfl, ⟨w.heap.size, rfl, blk_new w _ _⟩, (Below.refl _ _).alloc (Nat.le_refl _) _, fun b hb => by cases hb; exact ⟨Nat.le_refl _, by simp⟩⟩), ow_new (wants_none rfl) 11 rfl (PtrAt 32 (dgs [])) rfl (fun a w _ => ⟨_, _, alloc_dig rfl, ⟨w.heap.size, rfl, blk_new w _ _⟩, (Below.refl _ _).alloc (Nat.le_refl _) _, fun b hb => by cases hb; exact ⟨Nat.le_refl _, by simp⟩⟩), trivial⟩) ?_
    case hst1 =>
      intro q hq hO
      simp only [List.mem_cons, List.not_mem_nil, or_false] at hq
      rcases hq with rfl | rfl | rfl | rfl | rfl <;> cases hO
    case hst2 =>
      intro q hq hO v wc wd row k1 k2 k3 k4
      simp only [List.mem_cons, List.not_mem_nil, or_false] at hq
      rcases hq with rfl | rfl | rfl | rfl | rfl
      · exact Const.keeps k1 k2 k3
      · exact Const.keeps k1 k2 k3
      · exact IntsV.keeps k1 k2 k3
      · exact PtrAt.keeps k1 k2 k3
      · exact PtrAt.keeps k1 k2 k3
    intro fv wc hf hD hbc
    simp only [putR, List.foldl_cons, List.foldl_nil, List.map_cons, List.map_nil, Act.put, List.setIfInBounds_toArray, List.set_cons_succ, List.set_cons_zero]
    obtain ⟨⟨g10, e10, A10⟩, k10⟩ := hf 10 _ rfl rfl
    obtain ⟨⟨g11, e11, A11⟩, k11⟩ := hf 11 _ rfl rfl
    have n10 : g10 ≠ g11 := fun e => hD 10 11 rfl rfl rfl rfl (by decide) g10 (by rw [e10]; rfl) (by rw [e11, e]; rfl)
    have r10 := (k10 rfl g10 (by rw [e10]; rfl)).1
    have r11 := (k11 rfl g11 (by rw [e11]; rfl)).1
    rw [e10, e11]
    have ADc := AD.under hbc
    have AWc := AW.under hbc
    have HBc := HB.trans (hbc.mono HB.size)
    have dl := AD.lt
    have wl := AW.lt
    have w1a := HB.size
    clear hf hD k10 k11 e10 e11 AD AW HB hbc C1 C2 C4 LC
    have S1c : Kept ((dgs (bs ++ cs)).size = 73) := ⟨dgs_size Y1.out⟩
    have S2c : Kept ((dgs (bs ++ ([120] ++ cs))).size = 73) := ⟨dgs_size Y2.out⟩
    have ZS : Kept ((dgs []).size = 73) := ⟨dgs_size nil_bytes⟩
    refine wl_store rfl 32 (.tmp 10) (.tmp 52) rfl g10 (dgs (bs ++ cs)) (by kernel_rfl) (by kernel_rfl) _ A10 (by rw [S1c.out]; exact dig_info) (by rw [S1c.out, ZS.out]) (dgs_one _) ?_
    intro we A10e Pe
    have A11e := Pe.blk A11 (Ne.symm n10)
    refine wl_store rfl 32 (.tmp 11) (.tmp 58) rfl g11 (dgs (bs ++ ([120] ++ cs))) (by kernel_rfl) (by kernel_rfl) _ A11e (by rw [S2c.out]; exact dig_info) (by rw [S2c.out, ZS.out]) (dgs_one _) ?_
    intro wb A11 Pb
    have A10 := Pb.blk A10e n10
    have AD := Pb.blk (Pe.blk ADc (by omega)) (by omega)
    have AW := Pb.blk (Pe.blk AWc (by omega)) (by omega)
    have HB := (HBc.trans (Pe.below (by omega))).trans (Pb.below (by omega))
    clear A10e A11e ADc AWc HBc Pe Pb r10 r11 dl wl w1a
    have RR : ∀ w', Below wb.heap.size wb w' → RootsAt w' := fun w' hb => (R1.out.under HB).under hb
    have T0 : Kept (∀ w', Below wb.heap.size wb w' → IntsV .u8 (.slice p0 n0 c0) w' bs) := ⟨fun w' hb => (B0.out.under HB).under hb⟩
    have T1 : Kept (∀ w', Below wb.heap.size wb w' → IntsV .u8 (.slice p1 n1 c1) w' cs) := ⟨fun w' hb => (B1.out.under HB).under hb⟩
    have E3 : (([] ++ bs) ++ [120]) ++ cs = bs ++ ([120] ++ cs) := by simp
    have M3 : bs.length < 1000000000 := by have := LL.out; omega
    have S1 : Kept (∀ w', Below wb.heap.size wb w' → Calls Tryd.prog 12 [.agg (dgs (bs ++ cs))].toArray w' fun e w2 => e = .returned (.agg (ints .u8 (sumL (bs ++ cs)))) ∧ Below w'.heap.size w' w2) := ⟨fun w' hb => cDSum Y1.out M1.out (RR w' hb)⟩
    have S2 : Kept (∀ w', Below wb.heap.size wb w' → Calls Tryd.prog 12 [.agg (dgs (bs ++ ([120] ++ cs)))].toArray w' fun e w2 => e = .returned (.agg (ints .u8 (sumL (bs ++ ([120] ++ cs))))) ∧ Below w'.heap.size w' w2) := ⟨fun w' hb => cDSum Y2.out M2.out (RR w' hb)⟩
    have S3 : Kept (∀ w' v, Below wb.heap.size wb w' → Row wb.heap.size 5 .u8 ((([] ++ bs) ++ [120]) ++ cs) v w' → Calls Tryd.prog 9 [v].toArray w' fun e w2 => e = .returned (.agg (ints .u8 (sumL (bs ++ ([120] ++ cs))))) ∧ Below w'.heap.size w' w2) := ⟨fun w' v hb hv => by rw [E3] at hv; exact cSum Y2.out M2.out (RR w' hb) (row_bytes hv)⟩
    have S4 : Kept (∀ w', Below wb.heap.size wb w' → Calls Tryd.prog 12 [.agg (dgs bs)].toArray w' fun e w2 => e = .returned (.agg (ints .u8 (sumL bs))) ∧ Below w'.heap.size w' w2) := ⟨fun w' hb => cDSum YB.out M3 (RR w' hb)⟩
    have S5 : Kept (∀ w', Below wb.heap.size wb w' → Calls Tryd.prog 9 [.slice p0 n0 c0].toArray w' fun e w2 => e = .returned (.agg (ints .u8 (sumL bs))) ∧ Below w'.heap.size w' w2) := ⟨fun w' hb => cSum YB.out M3 (RR w' hb) (T0.out w' hb)⟩
    have LB1 : Kept (([] ++ bs).length + [120].length ≤ 8796093022208) := ⟨by simp; have := LL.out; omega⟩
    have LB2 : Kept ((([] ++ bs) ++ [120]).length + cs.length ≤ 8796093022208) := ⟨by simp; have := LL.out; omega⟩
    clear RR E3 M3
    go_wp2_with fail
    refine region_ownL wb 23 [(59, .agg (dgs (bs ++ cs))), (60, .agg (ints .u8 (sumL (bs ++ cs)))), (61, .agg (ints .u8 (sumL (bs ++ cs)))), (62, .bool true), (63, .bool true), (64, .agg (dgs (bs ++ ([120] ++ cs)))), (65, .agg (ints .u8 (sumL (bs ++ ([120] ++ cs))))), (66, .slice p0 n0 c0), (70, .slice p1 n1 c1), (72, .agg (ints .u8 (sumL (bs ++ ([120] ++ cs))))), (73, .bool true), (74, .bool true), (75, .bool true), (76, .agg (dgs bs)), (77, .agg (ints .u8 (sumL bs))), (78, .slice p0 n0 c0), (79, .agg (ints .u8 (sumL bs))), (80, .bool true), (81, .bool true)] [(67, Row wb.heap.size 5 .u8 ([] ++ bs)), (68, Const 5 .u8 [120]), (69, Row wb.heap.size 5 .u8 (([] ++ bs) ++ [120])), (71, Row wb.heap.size 5 .u8 ((([] ++ bs) ++ [120]) ++ cs))] [67, 68, 69, 71] [(10, 67), (12, 69)] rfl (by kernel_rfl) (by kernel_rfl) (by kernel_rfl) (by kernel_rfl) (by kernel_rfl) (by kernel_rfl) (by kernel_rfl) (by kernel_rfl) (by kernel_rfl) (by kernel_rfl) (by kernel_rfl) ?hst1 ?hst2 (Below.refl _ _) (fun hA => ⟨ow_rowS hA (wants_none rfl) 59 (.agg (dgs (bs ++ cs))) (by kernel_rfl) rfl rfl rfl rfl (by kernel_rfl) 32 (.tmp 10) rfl (g10) (by kernel_rfl) 32 (dgs (bs ++ cs)) _ Tryd.underlying32 (dgs_info Y1.out) (fun w1 hb => Blk.under A10 hb) rfl, ow_calld hA (wants_none rfl) 60 (.agg (ints .u8 (sumL (bs ++ cs)))) (by kernel_rfl) rfl rfl rfl rfl (by kernel_rfl) 12 Tryd.f12 _ [.tmp 59] _ [.agg (dgs (bs ++ cs))] rfl (by kernel_rfl) Tryd.func12 (by kernel_rfl) rfl (fun w3 hb => S1.out w3 hb), ow_row hA (wants_none rfl) 61 (.agg (ints .u8 (sumL (bs ++ cs)))) (by kernel_rfl) rfl rfl rfl rfl (by kernel_rfl) 24 (.tmp 7) rfl (gw) (by kernel_rfl) 24 (ints .u8 (sumL (bs ++ cs))) 32 5 Tryd.underlying24 (by rw [ints_size, sumL_len]; exact t32_info) (fun w1 hb => Blk.under AW hb) rfl, ow_val hA (wants_none rfl) 62 (.bool true) (by kernel_rfl) rfl rfl rfl rfl (by kernel_rfl) (fun w => by rw [run_eql_row (sumL (bs ++ cs)) (sumL (bs ++ cs)) rfl (by kernel_rfl) (by kernel_rfl) (sumL_len _) (sumL_len _) Tryd.underlying24 Tryd.underlying5 sz_u8 ag_u8 eg32]; rw [decide_eq_true rfl]), ow_val hA (wants_none rfl) 63 (.bool true) (by kernel_rfl) rfl rfl rfl rfl (by kernel_rfl) (fun w => by kernel_rfl), ow_rowS hA (wants_at hA 4 true 63 rfl rfl (by kernel_rfl) rfl rfl (by kernel_rfl)) 64 (.agg (dgs (bs ++ ([120] ++ cs)))) (by kernel_rfl) rfl rfl rfl rfl (by kernel_rfl) 32 (.tmp 11) rfl (g11) (by kernel_rfl) 32 (dgs (bs ++ ([120] ++ cs))) _ Tryd.underlying32 (dgs_info Y2.out) (fun w1 hb => Blk.under A11 hb) rfl, ow_calld hA (wants_at hA 4 true 63 rfl rfl (by kernel_rfl) rfl rfl (by kernel_rfl)) 65 (.agg (ints .u8 (sumL (bs ++ ([120] ++ cs))))) (by kernel_rfl) rfl rfl rfl rfl (by kernel_rfl) 12 Tryd.f12 _ [.tmp 64] _ [.agg (dgs (bs ++ ([120] ++ cs)))] rfl (by kernel_rfl) Tryd.func12 (by kernel_rfl) rfl (fun w3 hb => S2.out w3 hb), ow_val hA (wants_at hA 4 true 63 rfl rfl (by kernel_rfl) rfl rfl (by kernel_rfl)) 66 (.slice p0 n0 c0) (by kernel_rfl) rfl rfl rfl rfl (by kernel_rfl) (fun w => by kernel_rfl), ow_app (wants_at hA 4 true 63 rfl rfl (by kernel_rfl) rfl rfl (by kernel_rfl)) 67 rfl (.const (.slice none 0 0)) (.tmp 66) 22 5 .u8 1 rfl Tryd.underlying22 inf_u8 (by decide) ([]) (bs) LB.out rfl (fun a w1 hF hb hgot => ⟨row_nil _ _ _ _, by rw [gotE_det (v := .slice p0 n0 c0) hA hgot (by kernel_rfl) rfl rfl (by kernel_rfl)]; exact T0.out w1 hb, fun b hb => by cases hb⟩), ow_new (wants_at hA 4 true 63 rfl rfl (by kernel_rfl) rfl rfl (by kernel_rfl)) 68 rfl (Const 5 .u8 [120]) rfl (fun a w _ => ⟨_, _, by kernel_rfl, ⟨w.heap.size, (0, 0), rfl, heap_new w _⟩, (Below.refl _ _).alloc (Nat.le_refl _) _, fun b hb => by cases hb; exact ⟨Nat.le_refl _, by simp⟩⟩), ow_app (wants_at hA 4 true 63 rfl rfl (by kernel_rfl) rfl rfl (by kernel_rfl)) 69 rfl (.tmp 67) (.tmp 68) 22 5 .u8 1 rfl Tryd.underlying22 inf_u8 (by decide) ([] ++ bs) ([120]) LB1.out rfl (fun a w1 hF hb hgot => ⟨(gotE_spec hgot (Row wb.heap.size 5 .u8 ([] ++ bs)) (by kernel_rfl) rfl rfl).1, (gotE_spec hgot (Const 5 .u8 [120]) (by kernel_rfl) rfl rfl).1.ints, fun b hb => ⟨67, by decide, by rw [(gotE_spec hgot (Row wb.heap.size 5 .u8 ([] ++ bs)) (by kernel_rfl) rfl rfl).2.1]; exact hb⟩⟩), ow_val hA (wants_at hA 4 true 63 rfl rfl (by kernel_rfl) rfl rfl (by kernel_rfl)) 70 (.slice p1 n1 c1) (by kernel_rfl) rfl rfl rfl rfl (by kernel_rfl) (fun w => by kernel_rfl), ow_app (wants_at hA 4 true 63 rfl rfl (by kernel_rfl) rfl rfl (by kernel_rfl)) 71 rfl (.tmp 69) (.tmp 70) 22 5 .u8 1 rfl Tryd.underlying22 inf_u8 (by decide) (([] ++ bs) ++ [120]) (cs) LB2.out rfl (fun a w1 hF hb hgot => ⟨(gotE_spec hgot (Row wb.heap.size 5 .u8 (([] ++ bs) ++ [120])) (by kernel_rfl) rfl rfl).1, by rw [gotE_det (v := .slice p1 n1 c1) hA hgot (by kernel_rfl) rfl rfl (by kernel_rfl)]; exact T1.out w1 hb, fun b hb => ⟨69, by decide, by rw [(gotE_spec hgot (Row wb.heap.size 5 .u8 (([] ++ bs) ++ [120])) (by kernel_rfl) rfl rfl).2.1]; exact hb⟩⟩), ow_call (wants_at hA 4 true 63 rfl rfl (by kernel_rfl) rfl rfl (by kernel_rfl)) 72 9 Tryd.f9 _ [.tmp 71] _ rfl rfl Tryd.func9 (by kernel_rfl) rfl (fun a w1 hF hb hgot => by rw [List.map_cons, List.map_nil]; exact (S3.out w1 _ hb (gotE_spec hgot (Row wb.heap.size 5 .u8 ((([] ++ bs) ++ [120]) ++ cs)) (by kernel_rfl) rfl rfl).1).mono fun e w2 hh => ⟨_, hh.1, rel_det hA rfl (by kernel_rfl), hh.2, fun h => by cases h⟩), ow_val hA (wants_at hA 4 true 63 rfl rfl (by kernel_rfl) rfl rfl (by kernel_rfl)) 73 (.bool true) (by kernel_rfl) rfl rfl rfl rfl (by kernel_rfl) (fun w => by rw [run_eql_row (sumL (bs ++ ([120] ++ cs))) (sumL (bs ++ ([120] ++ cs))) rfl (by kernel_rfl) (by kernel_rfl) (sumL_len _) (sumL_len _) Tryd.underlying24 Tryd.underlying5 sz_u8 ag_u8 eg32]; rw [decide_eq_true rfl]), ow_val hA (wants_none rfl) 74 (.bool true) (by kernel_rfl) rfl rfl rfl rfl (by kernel_rfl) (fun w => by kernel_rfl), ow_val hA (wants_none rfl) 75 (.bool true) (by kernel_rfl) rfl rfl rfl rfl (by kernel_rfl) (fun w => by kernel_rfl), ow_rowS hA (wants_at hA 16 true 75 rfl rfl (by kernel_rfl) rfl rfl (by kernel_rfl)) 76 (.agg (dgs bs)) (by kernel_rfl) rfl rfl rfl rfl (by kernel_rfl) 32 (.tmp 6) rfl (gd) (by kernel_rfl) 32 (dgs bs) _ Tryd.underlying32 (dgs_info YB.out) (fun w1 hb => Blk.under AD hb) rfl, ow_calld hA (wants_at hA 16 true 75 rfl rfl (by kernel_rfl) rfl rfl (by kernel_rfl)) 77 (.agg (ints .u8 (sumL bs))) (by kernel_rfl) rfl rfl rfl rfl (by kernel_rfl) 12 Tryd.f12 _ [.tmp 76] _ [.agg (dgs bs)] rfl (by kernel_rfl) Tryd.func12 (by kernel_rfl) rfl (fun w3 hb => S4.out w3 hb), ow_val hA (wants_at hA 16 true 75 rfl rfl (by kernel_rfl) rfl rfl (by kernel_rfl)) 78 (.slice p0 n0 c0) (by kernel_rfl) rfl rfl rfl rfl (by kernel_rfl) (fun w => by kernel_rfl), ow_calld hA (wants_at hA 16 true 75 rfl rfl (by kernel_rfl) rfl rfl (by kernel_rfl)) 79 (.agg (ints .u8 (sumL bs))) (by kernel_rfl) rfl rfl rfl rfl (by kernel_rfl) 9 Tryd.f9 _ [.tmp 78] _ [.slice p0 n0 c0] rfl (by kernel_rfl) Tryd.func9 (by kernel_rfl) rfl (fun w3 hb => S5.out w3 hb), ow_val hA (wants_at hA 16 true 75 rfl rfl (by kernel_rfl) rfl rfl (by kernel_rfl)) 80 (.bool true) (by kernel_rfl) rfl rfl rfl rfl (by kernel_rfl) (fun w => by rw [run_eql_row (sumL bs) (sumL bs) rfl (by kernel_rfl) (by kernel_rfl) (sumL_len _) (sumL_len _) Tryd.underlying24 Tryd.underlying5 sz_u8 ag_u8 eg32]; rw [decide_eq_true rfl]), ow_val hA (wants_none rfl) 81 (.bool true) (by kernel_rfl) rfl rfl rfl rfl (by kernel_rfl) (fun w => by kernel_rfl), trivial⟩) ?_
    case hst1 =>
      intro q hq hO
      simp only [List.mem_cons, List.not_mem_nil, or_false] at hq
      rcases hq with rfl | rfl | rfl | rfl <;> cases hO
    case hst2 =>
      intro q hq hO v wc wd row k1 k2 k3 k4
      simp only [List.mem_cons, List.not_mem_nil, or_false] at hq
      rcases hq with rfl | rfl | rfl | rfl
      · exact Row.keeps k1 k2 k3
      · exact Const.keeps k1 k2 k3
      · exact Row.keeps k1 k2 k3
      · exact Row.keeps k1 k2 k3
    intro fv wf hf hD hbf
    simp only [putR, List.foldl_cons, List.foldl_nil, List.map_cons, List.map_nil, Act.put, List.setIfInBounds_toArray, List.set_cons_succ, List.set_cons_zero]
    clear hf hD S1 S2 S3 S4 S5 A10 A11 AD AW T0 T1
    go_wp2
    go_ret
    exact ⟨rfl, hb1.trans ((HB.trans (hbf.mono HB.size)).mono hb1.size)⟩
end Go.Proofs.YtghinfdmkiaaiaaDoor.sh
