/-
  The words' sums, and their bytes, by the program.
-/
import Derived.Test.YthieljiplhhdeaaXB
namespace Go.Proofs.Ythieljiplhhdeaa.sh
open Go Go.RowKit
set_option linter.unusedVariables false
set_option linter.unusedSimpArgs false

theorem ws_inf : (Try.prog.info? 45).map (·.size) = some 16 := by kernel_rfl
set_option maxRecDepth 100000 in
set_option maxHeartbeats 1000000 in
theorem plus16 (a b : List Nat) (w : World) (ha : a.length = 16) (hb : b.length = 16) :
    Calls Try.prog 16 #[.agg (ints .u32 a), .agg (ints .u32 b)] w fun e w' => e = .returned (.agg (ints .u32 (plusL a b))) ∧ Below w.heap.size w w' := by
  obtain ⟨L, hL⟩ : ∃ L, L = plusL a b := ⟨_, rfl⟩
  rw [← hL]
  have EL : Kept _ := ⟨hL⟩
  have HL : Kept (L.length = a.length) := ⟨by rw [hL]; exact plusL_len a b (by omega)⟩
  clear hL
  go_enter Try.func16, Try.ntmps16
  go_wp2_with fail
  generalize hW : ((w.alloc (.cells (ints .u32 a) 45)).alloc (.cells (ints .u32 b) 45)).alloc (.cells #[.int .u32 0, .int .u32 0, .int .u32 0, .int .u32 0, .int .u32 0, .int .u32 0, .int .u32 0, .int .u32 0, .int .u32 0, .int .u32 0, .int .u32 0, .int .u32 0, .int .u32 0, .int .u32 0, .int .u32 0, .int .u32 0] 45) = W
  obtain ⟨ZZ, hZZ⟩ : ∃ ZZ : Array Value, ZZ = #[.int .u32 0, .int .u32 0, .int .u32 0, .int .u32 0, .int .u32 0, .int .u32 0, .int .u32 0, .int .u32 0, .int .u32 0, .int .u32 0, .int .u32 0, .int .u32 0, .int .u32 0, .int .u32 0, .int .u32 0, .int .u32 0] := ⟨_, rfl⟩
  have LZ : Kept (ZZ.size = 16) := ⟨by rw [hZZ]; rfl⟩
  have B0 : Blk W w.heap.size 45 (ints .u32 (mix L a 0)) := by subst hW; rw [mix_zero]; exact ((blk_new w _ _).alloc _).alloc _
  have B1 : Blk W (w.heap.size + 1) 45 (ints .u32 b) := by subst hW; exact (blk_top _ _ _ _ (by simp)).alloc _
  have B2 : Blk W (w.heap.size + 2) 45 ZZ := by subst hW; rw [hZZ]; exact blk_top _ _ _ _ (by simp)
  have QB : Below w.heap.size w W := by subst hW; exact (((Below.refl _ _).alloc (Nat.le_refl _) _).alloc (by simp) _).alloc (by simp; omega) _
  clear hW hZZ
  go_loopg [6] 16 (fun k s6 wr => ∃ i : Nat, i + k = 16 ∧ s6 = .int .i64 (i : Int) ∧ Below w.heap.size w wr ∧ Blk wr w.heap.size 45 (ints .u32 (mix L a i)) ∧ Blk wr (w.heap.size + 1) 45 (ints .u32 b) ∧ Blk wr (w.heap.size + 2) 45 ZZ)
  case atStart => exact ⟨0, by omega, rfl, QB, B0, B1, B2⟩
  case round =>
    obtain ⟨i, hik, rfl, HB, A0, A1, A2⟩ := hrel
    clear QB B0 B1 B2
    by_cases hk0 : gk = 0
    · obtain rfl : i = 16 := by omega
      have e : mix L a 16 = L := by rw [← ha]; exact mix_all L a HL.out
      rw [e] at A0
      clear A1 e
      go_wp2_with (first | (refine wl_load rfl 45 (.tmp 2) rfl _ rfl (ints .u32 L) 16 24 Try.underlying45 (by rw [ints_size, HL.out, ha]; exact ws_inf) A0 ?_) | (refine wl_store rfl 45 (.tmp 4) (.tmp 18) rfl _ (ints .u32 L) rfl rfl _ A2 (by rw [ints_size, HL.out, ha]; exact ws_inf) (by rw [ints_size, HL.out, ha, LZ.out]) (ints_one _ _) ?_))
      intro w3 A3 P3
      go_wp2
      exact bodyPost_ret (v := .agg (ints .u32 L)) (results_cell_row Try.results16 _ _ _ 45 (ints .u32 L) (0, 0) _ rfl A3 Try.underlying45 rfl (by rw [ints_size, HL.out, ha]; exact ws_inf)) rfl ⟨rfl, HB.trans (P3.below (by omega))⟩
    · have hil : i < 16 := by omega
      have hlt : ((i : Int) < 16) := by omega
      obtain ⟨x, hx⟩ : ∃ x, a[i]? = some x := ⟨_, List.getElem?_eq_getElem (by omega)⟩
      obtain ⟨y, hy⟩ : ∃ y, b[i]? = some y := ⟨_, List.getElem?_eq_getElem (by omega)⟩
      have gx : Kept ((ints .u32 (mix L a i))[i]? = some (.int .u32 (x : Int))) := ⟨ints_get (by rw [mix_get L a i HL.out (by omega)]; exact hx)⟩
      have gy : Kept ((ints .u32 b)[i]? = some (.int .u32 (y : Int))) := ⟨ints_get hy⟩
      obtain ⟨z, hz⟩ : ∃ z, z = (x + y) % 4294967296 := ⟨_, rfl⟩
      have gz : Kept (L[i]? = some z) := ⟨by rw [EL.out, hz]; exact plusL_get a b i x y hx hy⟩
      have Ez : Kept _ := ⟨hz⟩
      clear hz hx hy
      go_wp2_with fail
      refine region_ownL wr 8 [(9, .int .i64 (i : Int)), (10, .pointer (some ⟨w.heap.size, i, none⟩)), (11, .int .u32 (x : Int)), (12, .int .i64 (i : Int)), (13, .pointer (some ⟨w.heap.size + 1, i, none⟩)), (14, .int .u32 (y : Int)), (15, .int .u32 (z : Int)), (16, .pointer (some ⟨w.heap.size, i, none⟩))] [] [] [] rfl (by kernel_rfl) (by kernel_rfl) (by kernel_rfl) (by kernel_rfl) (by kernel_rfl) (by kernel_rfl) (by kernel_rfl) (by kernel_rfl) (by kernel_rfl) (by kernel_rfl) (by kernel_rfl) ?hst1 ?hst2 (Below.refl _ _) (fun hA => ⟨ow_val hA (wants_none rfl) 9 (.int .i64 (i : Int)) (by kernel_rfl) rfl rfl rfl rfl (by kernel_rfl) (fun w => by kernel_rfl), ow_val hA (wants_none rfl) 10 (.pointer (some ⟨w.heap.size, i, none⟩)) (by kernel_rfl) rfl rfl rfl rfl (by kernel_rfl) (fun w => run_idx rfl (by kernel_rfl) (by kernel_rfl) Try.underlying45 hil sz_u32 w), ow_elem hA (wants_none rfl) 11 (.int .u32 (x : Int)) (by kernel_rfl) rfl rfl rfl rfl (by kernel_rfl) 24 ag_u32 (.tmp 10) rfl (⟨w.heap.size, i, none⟩) (by kernel_rfl) (fun w1 hb => (A0.under hb).cell gx.out), ow_val hA (wants_none rfl) 12 (.int .i64 (i : Int)) (by kernel_rfl) rfl rfl rfl rfl (by kernel_rfl) (fun w => by kernel_rfl), ow_val hA (wants_none rfl) 13 (.pointer (some ⟨w.heap.size + 1, i, none⟩)) (by kernel_rfl) rfl rfl rfl rfl (by kernel_rfl) (fun w => run_idx rfl (by kernel_rfl) (by kernel_rfl) Try.underlying45 hil sz_u32 w), ow_elem hA (wants_none rfl) 14 (.int .u32 (y : Int)) (by kernel_rfl) rfl rfl rfl rfl (by kernel_rfl) 24 ag_u32 (.tmp 13) rfl (⟨w.heap.size + 1, i, none⟩) (by kernel_rfl) (fun w1 hb => (A1.under hb).cell gy.out), ow_val hA (wants_none rfl) 15 (.int .u32 (z : Int)) (by kernel_rfl) rfl rfl rfl rfl (by kernel_rfl) (fun w => run_add32 rfl (by kernel_rfl) (by kernel_rfl) Ez.out w), ow_val hA (wants_none rfl) 16 (.pointer (some ⟨w.heap.size, i, none⟩)) (by kernel_rfl) rfl rfl rfl rfl (by kernel_rfl) (fun w => run_idx rfl (by kernel_rfl) (by kernel_rfl) Try.underlying45 hil sz_u32 w), trivial⟩) ?_
      case hst1 => intro q hq; cases hq
      case hst2 => intro q hq; cases hq
      intro fv wt hf hD hwt
      simp only [putR, List.foldl_cons, List.foldl_nil, List.map_cons, List.map_nil, Act.put, List.setIfInBounds_toArray, List.set_cons_succ, List.set_cons_zero]
      clear hf hD
      have A0' := A0.under hwt
      have A1' := A1.under hwt
      have A2' := A2.under hwt
      have HB' := HB.trans (hwt.mono HB.size)
      clear A0 A1 A2 HB hwt
      refine wl_setElem rfl 24 sz_u32 (.tmp 16) (.tmp 15) rfl w.heap.size i .u32 (z : Int) (by kernel_rfl) (by kernel_rfl) _ A0' (by rw [ints_size, mix_len L a i HL.out]; omega) ?_
      intro w4 A4 P4
      rw [ints_set, mix_set L a i z HL.out gz.out] at A4
      have A14 := P4.blk A1' (by omega)
      have A24 := P4.blk A2' (by omega)
      have HB4 := HB'.trans (P4.below (Nat.le_refl _))
      clear A0' A1' A2' HB' P4 gx gy gz Ez
      go_wp2_with fail
      go_roundg (gk - 1)
      case measure => omega
      case rel => exact ⟨i + 1, by omega, by simp, HB4, A4, A14, A24⟩
theorem z64_eq : (#[.int .u8 0, .int .u8 0, .int .u8 0, .int .u8 0, .int .u8 0, .int .u8 0, .int .u8 0, .int .u8 0, .int .u8 0, .int .u8 0, .int .u8 0, .int .u8 0, .int .u8 0, .int .u8 0, .int .u8 0, .int .u8 0, .int .u8 0, .int .u8 0, .int .u8 0, .int .u8 0, .int .u8 0, .int .u8 0, .int .u8 0, .int .u8 0, .int .u8 0, .int .u8 0, .int .u8 0, .int .u8 0, .int .u8 0, .int .u8 0, .int .u8 0, .int .u8 0, .int .u8 0, .int .u8 0, .int .u8 0, .int .u8 0, .int .u8 0, .int .u8 0, .int .u8 0, .int .u8 0, .int .u8 0, .int .u8 0, .int .u8 0, .int .u8 0, .int .u8 0, .int .u8 0, .int .u8 0, .int .u8 0, .int .u8 0, .int .u8 0, .int .u8 0, .int .u8 0, .int .u8 0, .int .u8 0, .int .u8 0, .int .u8 0, .int .u8 0, .int .u8 0, .int .u8 0, .int .u8 0, .int .u8 0, .int .u8 0, .int .u8 0, .int .u8 0] : Array Value) = ints .u8 (List.replicate 64 0) := by kernel_rfl
theorem i64_info : (Try.prog.info? 34).map (·.size) = some 64 := by kernel_rfl
set_option maxRecDepth 100000 in
set_option maxHeartbeats 1000000 in
theorem bytes16 (s : List Nat) (w : World) (hs : Ws s) :
    Calls Try.prog 18 #[.agg (ints .u32 s)] w fun e w' => e = .returned (.agg (ints .u8 (leL s))) ∧ Below w.heap.size w w' := by
  obtain ⟨L, hL⟩ : ∃ L, L = leL s := ⟨_, rfl⟩
  rw [← hL]
  have EL : Kept _ := ⟨hL⟩
  have HL : Kept (L.length = 64) := ⟨by rw [hL]; exact leL_len s⟩
  obtain ⟨Z0, hZ⟩ : ∃ Z0, Z0 = List.replicate 64 0 := ⟨_, rfl⟩
  have HL2 : Kept (L.length = Z0.length) := ⟨by rw [HL.out, hZ]; rfl⟩
  have HZ : Kept (Z0.length = 64) := ⟨by rw [hZ]; rfl⟩
  have HX : Kept _ := ⟨hs⟩
  have EI : Kept ((#[.int .u8 0, .int .u8 0, .int .u8 0, .int .u8 0, .int .u8 0, .int .u8 0, .int .u8 0, .int .u8 0, .int .u8 0, .int .u8 0, .int .u8 0, .int .u8 0, .int .u8 0, .int .u8 0, .int .u8 0, .int .u8 0, .int .u8 0, .int .u8 0, .int .u8 0, .int .u8 0, .int .u8 0, .int .u8 0, .int .u8 0, .int .u8 0, .int .u8 0, .int .u8 0, .int .u8 0, .int .u8 0, .int .u8 0, .int .u8 0, .int .u8 0, .int .u8 0, .int .u8 0, .int .u8 0, .int .u8 0, .int .u8 0, .int .u8 0, .int .u8 0, .int .u8 0, .int .u8 0, .int .u8 0, .int .u8 0, .int .u8 0, .int .u8 0, .int .u8 0, .int .u8 0, .int .u8 0, .int .u8 0, .int .u8 0, .int .u8 0, .int .u8 0, .int .u8 0, .int .u8 0, .int .u8 0, .int .u8 0, .int .u8 0, .int .u8 0, .int .u8 0, .int .u8 0, .int .u8 0, .int .u8 0, .int .u8 0, .int .u8 0, .int .u8 0] : Array Value) = ints .u8 Z0) := ⟨by rw [hZ]; exact z64_eq⟩
  clear hZ hL hs
  go_enter Try.func18, Try.ntmps18
  go_wp2_with fail
  generalize hW : ((w.alloc (.cells (ints .u32 s) 45)).alloc (.cells #[.int .u8 0, .int .u8 0, .int .u8 0, .int .u8 0, .int .u8 0, .int .u8 0, .int .u8 0, .int .u8 0, .int .u8 0, .int .u8 0, .int .u8 0, .int .u8 0, .int .u8 0, .int .u8 0, .int .u8 0, .int .u8 0, .int .u8 0, .int .u8 0, .int .u8 0, .int .u8 0, .int .u8 0, .int .u8 0, .int .u8 0, .int .u8 0, .int .u8 0, .int .u8 0, .int .u8 0, .int .u8 0, .int .u8 0, .int .u8 0, .int .u8 0, .int .u8 0, .int .u8 0, .int .u8 0, .int .u8 0, .int .u8 0, .int .u8 0, .int .u8 0, .int .u8 0, .int .u8 0, .int .u8 0, .int .u8 0, .int .u8 0, .int .u8 0, .int .u8 0, .int .u8 0, .int .u8 0, .int .u8 0, .int .u8 0, .int .u8 0, .int .u8 0, .int .u8 0, .int .u8 0, .int .u8 0, .int .u8 0, .int .u8 0, .int .u8 0, .int .u8 0, .int .u8 0, .int .u8 0, .int .u8 0, .int .u8 0, .int .u8 0, .int .u8 0] 34)).alloc (.cells #[.int .u8 0, .int .u8 0, .int .u8 0, .int .u8 0, .int .u8 0, .int .u8 0, .int .u8 0, .int .u8 0, .int .u8 0, .int .u8 0, .int .u8 0, .int .u8 0, .int .u8 0, .int .u8 0, .int .u8 0, .int .u8 0, .int .u8 0, .int .u8 0, .int .u8 0, .int .u8 0, .int .u8 0, .int .u8 0, .int .u8 0, .int .u8 0, .int .u8 0, .int .u8 0, .int .u8 0, .int .u8 0, .int .u8 0, .int .u8 0, .int .u8 0, .int .u8 0, .int .u8 0, .int .u8 0, .int .u8 0, .int .u8 0, .int .u8 0, .int .u8 0, .int .u8 0, .int .u8 0, .int .u8 0, .int .u8 0, .int .u8 0, .int .u8 0, .int .u8 0, .int .u8 0, .int .u8 0, .int .u8 0, .int .u8 0, .int .u8 0, .int .u8 0, .int .u8 0, .int .u8 0, .int .u8 0, .int .u8 0, .int .u8 0, .int .u8 0, .int .u8 0, .int .u8 0, .int .u8 0, .int .u8 0, .int .u8 0, .int .u8 0, .int .u8 0] 34) = W
  have B0 : Blk W w.heap.size 45 (ints .u32 s) := by subst hW; exact ((blk_new w _ _).alloc _).alloc _
  have B1 : Blk W (w.heap.size + 1) 34 (ints .u8 Z0) := by subst hW; rw [← EI.out]; exact (blk_top _ _ _ _ (by simp)).alloc _
  have B2 : Blk W (w.heap.size + 2) 34 (ints .u8 (mix L Z0 0)) := by subst hW; rw [mix_zero, ← EI.out]; exact blk_top _ _ _ _ (by simp)
  have QB : Below w.heap.size w W := by subst hW; exact (((Below.refl _ _).alloc (Nat.le_refl _) _).alloc (by simp) _).alloc (by simp; omega) _
  clear hW EI
  go_loopg [5] 64 (fun k s5 wr => ∃ i : Nat, i + k = 64 ∧ s5 = .int .i64 (i : Int) ∧ Below w.heap.size w wr ∧ Blk wr w.heap.size 45 (ints .u32 s) ∧ Blk wr (w.heap.size + 1) 34 (ints .u8 Z0) ∧ Blk wr (w.heap.size + 2) 34 (ints .u8 (mix L Z0 i)))
  case atStart => exact ⟨0, by omega, rfl, QB, B0, B1, B2⟩
  case round =>
    obtain ⟨i, hik, rfl, HB, A0, A1, A2⟩ := hrel
    clear QB B0 B1 B2
    by_cases hk0 : gk = 0
    · obtain rfl : i = 64 := by omega
      have e : mix L Z0 64 = L := by rw [← HZ.out]; exact mix_all L Z0 HL2.out
      rw [e] at A2
      clear A0 e
      go_wp2_with (first | (refine wl_load rfl 34 (.tmp 3) rfl _ rfl (ints .u8 L) 64 5 Try.underlying34 (by rw [ints_size, HL.out]; exact i64_info) A2 ?_) | (refine wl_store rfl 34 (.tmp 2) (.tmp 20) rfl _ (ints .u8 L) rfl rfl _ A1 (by rw [ints_size, HL.out]; exact i64_info) (by rw [ints_size, ints_size, HL2.out]) (ints_one _ _) ?_))
      intro w3 A3 P3
      go_wp2
      exact bodyPost_ret (v := .agg (ints .u8 L)) (results_cell_row Try.results18 _ _ _ 34 (ints .u8 L) (0, 0) _ rfl A3 Try.underlying34 rfl (by rw [ints_size, HL.out]; exact i64_info)) rfl ⟨rfl, HB.trans (P3.below (by omega))⟩
    · have hil : i < 64 := by omega
      have hlt : ((i : Int) < 64) := by omega
      have hq8 : i / 4 < 16 := by omega
      obtain ⟨x, hx⟩ : ∃ x, s[i / 4]? = some x := ⟨_, HX.out.get _ hq8⟩
      have gx : (ints .u32 s)[i / 4]? = some (.int .u32 (x : Int)) := ints_get hx
      have KX : Kept (x < 4294967296) := ⟨HX.out.lt _ x hx⟩
      have l2 : i < (ints .u8 (mix L Z0 i)).size := by rw [ints_size, mix_len L _ i HL2.out, HZ.out]; exact hil
      go_wp2_with (first | (refine wl_elem rfl 24 ag_u32 (.tmp 11) rfl w.heap.size (i / 4) rfl (ints .u32 s) (.int .u32 (x : Int)) A0 gx ?_) | (refine wl_setElem rfl 5 sz_u8 (.tmp 18) (.tmp 17) rfl (w.heap.size + 1 + 1) i .u8 ((x : Int) / 2 ^ (i % 4 * 8) % 256) rfl rfl _ A2 l2 ?_))
      obtain ⟨z, hz⟩ : ∃ z, z = x / 2 ^ (i % 4 * 8) % 256 := ⟨_, rfl⟩
      have gz : L[i]? = some z := by rw [EL.out, hz]; exact leL_get s i x hil hx
      have ez : (x : Int) / 2 ^ (i % 4 * 8) % 256 = (z : Int) := by rw [hz, Int.natCast_emod, Int.natCast_ediv, Int.natCast_pow]; rfl
      rw [ez]
      intro w4 A4 P4
      rw [ints_set, mix_set L _ i z HL2.out gz] at A4
      have A04 := P4.blk A0 (by omega)
      have A14 := P4.blk A1 (by omega)
      have HB4 := HB.trans (P4.below (by omega))
      clear A0 A1 A2 HB P4 gx hx hz gz l2
      go_wp2_with fail
      go_roundg (gk - 1)
      case measure => omega
      case rel => exact ⟨i + 1, by omega, by simp, HB4, A04, A14, A4⟩
end Go.Proofs.Ythieljiplhhdeaa.sh
