/-
  General pieces, joined: XD XE.
-/
import Derived.Test.YtjkdonjcngmjeaaGreatDoorG12
/-
  The words' sums, and their bytes, by the program.
-/
namespace Go.Proofs.YtjkdonjcngmjeaaGreatDoor.sh
open Go Go.RowKit
set_option linter.unusedVariables false
set_option linter.unusedSimpArgs false

theorem ws_inf : (Tryz.prog.info? 136).map (·.size) = some 16 := by kernel_rfl
set_option maxRecDepth 100000 in
set_option maxHeartbeats 1000000 in
theorem plus16 (a b : List Nat) (w : World) (ha : a.length = 16) (hb : b.length = 16) :
    Calls Tryz.prog 85 #[.agg (ints .u32 a), .agg (ints .u32 b)] w fun e w' => e = .returned (.agg (ints .u32 (plusL a b))) ∧ Below w.heap.size w w' := by
  obtain ⟨L, hL⟩ : ∃ L, L = plusL a b := ⟨_, rfl⟩
  rw [← hL]
  have EL : Kept _ := ⟨hL⟩
  have HL : Kept (L.length = a.length) := ⟨by rw [hL]; exact plusL_len a b (by omega)⟩
  clear hL
  go_enter Tryz.func85, Tryz.ntmps85
  go_wp2_with fail
  generalize hW : ((w.alloc (.cells (ints .u32 a) 136)).alloc (.cells (ints .u32 b) 136)).alloc (.cells #[.int .u32 0, .int .u32 0, .int .u32 0, .int .u32 0, .int .u32 0, .int .u32 0, .int .u32 0, .int .u32 0, .int .u32 0, .int .u32 0, .int .u32 0, .int .u32 0, .int .u32 0, .int .u32 0, .int .u32 0, .int .u32 0] 136) = W
  obtain ⟨ZZ, hZZ⟩ : ∃ ZZ : Array Value, ZZ = #[.int .u32 0, .int .u32 0, .int .u32 0, .int .u32 0, .int .u32 0, .int .u32 0, .int .u32 0, .int .u32 0, .int .u32 0, .int .u32 0, .int .u32 0, .int .u32 0, .int .u32 0, .int .u32 0, .int .u32 0, .int .u32 0] := ⟨_, rfl⟩
  have LZ : Kept (ZZ.size = 16) := ⟨by rw [hZZ]; rfl⟩
  have B0 : Blk W w.heap.size 136 (ints .u32 (mix L a 0)) := by subst hW; rw [mix_zero]; exact ((blk_new w _ _).alloc _).alloc _
  have B1 : Blk W (w.heap.size + 1) 136 (ints .u32 b) := by subst hW; exact (blk_top _ _ _ _ (by simp)).alloc _
  have B2 : Blk W (w.heap.size + 2) 136 ZZ := by subst hW; rw [hZZ]; exact blk_top _ _ _ _ (by simp)
  have QB : Below w.heap.size w W := by subst hW; exact (((Below.refl _ _).alloc (Nat.le_refl _) _).alloc (by simp) _).alloc (by simp; omega) _
  clear hW hZZ
  go_loopg [6] 16 (fun k s6 wr => ∃ i : Nat, i + k = 16 ∧ s6 = .int .i64 (i : Int) ∧ Below w.heap.size w wr ∧ Blk wr w.heap.size 136 (ints .u32 (mix L a i)) ∧ Blk wr (w.heap.size + 1) 136 (ints .u32 b) ∧ Blk wr (w.heap.size + 2) 136 ZZ)
  case atStart => exact ⟨0, by omega, rfl, QB, B0, B1, B2⟩
  case round =>
    obtain ⟨i, hik, rfl, HB, A0, A1, A2⟩ := hrel
    clear QB B0 B1 B2
    by_cases hk0 : gk = 0
    · obtain rfl : i = 16 := by omega
      have e : mix L a 16 = L := by rw [← ha]; exact mix_all L a HL.out
      rw [e] at A0
      clear A1 e
      go_wp2_with (first | (refine wl_load rfl 136 (.tmp 2) rfl _ rfl (ints .u32 L) 16 72 Tryz.underlying136 (by rw [ints_size, HL.out, ha]; exact ws_inf) A0 ?_) | (refine wl_store rfl 136 (.tmp 4) (.tmp 18) rfl _ (ints .u32 L) rfl rfl _ A2 (by rw [ints_size, HL.out, ha]; exact ws_inf) (by rw [ints_size, HL.out, ha, LZ.out]) (ints_one _ _) ?_))
      intro w3 A3 P3
      go_wp2
      exact bodyPost_ret (v := .agg (ints .u32 L)) (results_cell_row Tryz.results85 _ _ _ 136 (ints .u32 L) (0, 0) _ rfl A3 Tryz.underlying136 rfl (by rw [ints_size, HL.out, ha]; exact ws_inf)) rfl ⟨rfl, HB.trans (P3.below (by omega))⟩
    · have hil : i < 16 := by omega
      have hlt : ((i : Int) < 16) := by omega
      obtain ⟨x, hx⟩ : ∃ x, a[i]? = some x := ⟨_, List.getElem?_eq_getElem (by omega)⟩
      obtain ⟨y, hy⟩ : ∃ y, b[i]? = some y := ⟨_, List.getElem?_eq_getElem (by omega)⟩
      have gx : Kept ((ints .u32 (mix L a i))[i]? = some (.int .u32 (x : Int))) := ⟨ints_get (by rw [mix_get L a i HL.out (by omega)]; exact hx)⟩
      have gy : Kept ((ints .u32 b)[i]? = some (.int .u32 (y : Int))) := ⟨ints_get hy⟩
      obtain ⟨z, hz⟩ : ∃ z, z = (x + y) % 4294967296 := ⟨_, rfl⟩
      have gz : Kept (L[i]? = some z) := ⟨by rw [EL.out, hz]; exact plusL_get a b i x y hx hy⟩
      have Ez : Kept _ := ⟨hz⟩
      clear hz hx hy
      go_wp2_with fail
      refine region_ownL wr 8 [(9, .int .i64 (i : Int)), (10, .pointer (some ⟨w.heap.size, i, none⟩)), (11, .int .u32 (x : Int)), (12, .int .i64 (i : Int)), (13, .pointer (some ⟨w.heap.size + 1, i, none⟩)), (14, .int .u32 (y : Int)), (15, .int .u32 (z : Int)), (16, .pointer (some ⟨w.heap.size, i, none⟩))] [] [] [] rfl (by kernel_rfl) (by kernel_rfl) (by kernel_rfl) (by kernel_rfl) (by kernel_rfl) (by kernel_rfl) (by kernel_rfl) (by kernel_rfl) (by kernel_rfl) (by kernel_rfl) (by kernel_rfl) ?hst1 ?hst2 (Below.refl _ _) (fun hA => ⟨ow_val hA (wants_none rfl) 9 (.int .i64 (i : Int)) (by kernel_rfl) rfl rfl rfl rfl (by kernel_rfl) (fun w => by kernel_rfl), ow_val hA (wants_none rfl) 10 (.pointer (some ⟨w.heap.size, i, none⟩)) (by kernel_rfl) rfl rfl rfl rfl (by kernel_rfl) (fun w => run_idx rfl (by kernel_rfl) (by kernel_rfl) Tryz.underlying136 hil sz_u32 w), ow_elem hA (wants_none rfl) 11 (.int .u32 (x : Int)) (by kernel_rfl) rfl rfl rfl rfl (by kernel_rfl) 72 ag_u32 (.tmp 10) rfl (⟨w.heap.size, i, none⟩) (by kernel_rfl) (fun w1 hb => (A0.under hb).cell gx.out), ow_val hA (wants_none rfl) 12 (.int .i64 (i : Int)) (by kernel_rfl) rfl rfl rfl rfl (by kernel_rfl) (fun w => by kernel_rfl), ow_val hA (wants_none rfl) 13 (.pointer (some ⟨w.heap.size + 1, i, none⟩)) (by kernel_rfl) rfl rfl rfl rfl (by kernel_rfl) (fun w => run_idx rfl (by kernel_rfl) (by kernel_rfl) Tryz.underlying136 hil sz_u32 w), ow_elem hA (wants_none rfl) 14 (.int .u32 (y : Int)) (by kernel_rfl) rfl rfl rfl rfl (by kernel_rfl) 72 ag_u32 (.tmp 13) rfl (⟨w.heap.size + 1, i, none⟩) (by kernel_rfl) (fun w1 hb => (A1.under hb).cell gy.out), ow_val hA (wants_none rfl) 15 (.int .u32 (z : Int)) (by kernel_rfl) rfl rfl rfl rfl (by kernel_rfl) (fun w => run_add32 rfl (by kernel_rfl) (by kernel_rfl) Ez.out w), ow_val hA (wants_none rfl) 16 (.pointer (some ⟨w.heap.size, i, none⟩)) (by kernel_rfl) rfl rfl rfl rfl (by kernel_rfl) (fun w => run_idx rfl (by kernel_rfl) (by kernel_rfl) Tryz.underlying136 hil sz_u32 w), trivial⟩) ?_
      case hst1 => intro q hq; cases hq
      case hst2 => intro q hq; cases hq
      intro fv wt hf hD hwt
      simp only [putR, List.foldl_cons, List.foldl_nil, List.map_cons, List.map_nil, Act.put, List.setIfInBounds_toArray, List.set_cons_succ, List.set_cons_zero]
      clear hf hD
      have A0' := A0.under hwt
      have A1' := A1.under hwt
      have A2' := A2.under hwt
      have HB' := HB.trans (hwt.mono HB.size)
      clear A0 A1 A2 HB hwt
      refine wl_setElem rfl 72 sz_u32 (.tmp 16) (.tmp 15) rfl w.heap.size i .u32 (z : Int) (by kernel_rfl) (by kernel_rfl) _ A0' (by rw [ints_size, mix_len L a i HL.out]; omega) ?_
      intro w4 A4 P4
      rw [ints_set, mix_set L a i z HL.out gz.out] at A4
      have A14 := P4.blk A1' (by omega)
      have A24 := P4.blk A2' (by omega)
      have HB4 := HB'.trans (P4.below (Nat.le_refl _))
      clear A0' A1' A2' HB' P4 gx gy gz Ez
      go_wp2_with fail
      go_roundg (gk - 1)
      case measure => omega
      case rel => exact ⟨i + 1, by omega, by simp, HB4, A4, A14, A24⟩
theorem z64_eq : (#[.int .u8 0, .int .u8 0, .int .u8 0, .int .u8 0, .int .u8 0, .int .u8 0, .int .u8 0, .int .u8 0, .int .u8 0, .int .u8 0, .int .u8 0, .int .u8 0, .int .u8 0, .int .u8 0, .int .u8 0, .int .u8 0, .int .u8 0, .int .u8 0, .int .u8 0, .int .u8 0, .int .u8 0, .int .u8 0, .int .u8 0, .int .u8 0, .int .u8 0, .int .u8 0, .int .u8 0, .int .u8 0, .int .u8 0, .int .u8 0, .int .u8 0, .int .u8 0, .int .u8 0, .int .u8 0, .int .u8 0, .int .u8 0, .int .u8 0, .int .u8 0, .int .u8 0, .int .u8 0, .int .u8 0, .int .u8 0, .int .u8 0, .int .u8 0, .int .u8 0, .int .u8 0, .int .u8 0, .int .u8 0, .int .u8 0, .int .u8 0, .int .u8 0, .int .u8 0, .int .u8 0, .int .u8 0, .int .u8 0, .int .u8 0, .int .u8 0, .int .u8 0, .int .u8 0, .int .u8 0, .int .u8 0, .int .u8 0, .int .u8 0, .int .u8 0] : Array Value) = ints .u8 (List.replicate 64 0) := by kernel_rfl
theorem i64_info : (Tryz.prog.info? 75).map (·.size) = some 64 := by kernel_rfl
set_option maxRecDepth 100000 in
set_option maxHeartbeats 1000000 in
theorem bytes16 (s : List Nat) (w : World) (hs : Ws s) :
    Calls Tryz.prog 87 #[.agg (ints .u32 s)] w fun e w' => e = .returned (.agg (ints .u8 (leL s))) ∧ Below w.heap.size w w' := by
  obtain ⟨L, hL⟩ : ∃ L, L = leL s := ⟨_, rfl⟩
  rw [← hL]
  have EL : Kept _ := ⟨hL⟩
  have HL : Kept (L.length = 64) := ⟨by rw [hL]; exact leL_len s⟩
  obtain ⟨Z0, hZ⟩ : ∃ Z0, Z0 = List.replicate 64 0 := ⟨_, rfl⟩
  have HL2 : Kept (L.length = Z0.length) := ⟨by rw [HL.out, hZ]; rfl⟩
  have HZ : Kept (Z0.length = 64) := ⟨by rw [hZ]; rfl⟩
  have HX : Kept _ := ⟨hs⟩
  have EI : Kept ((#[.int .u8 0, .int .u8 0, .int .u8 0, .int .u8 0, .int .u8 0, .int .u8 0, .int .u8 0, .int .u8 0, .int .u8 0, .int .u8 0, .int .u8 0, .int .u8 0, .int .u8 0, .int .u8 0, .int .u8 0, .int .u8 0, .int .u8 0, .int .u8 0, .int .u8 0, .int .u8 0, .int .u8 0, .int .u8 0, .int .u8 0, .int .u8 0, .int .u8 0, .int .u8 0, .int .u8 0, .int .u8 0, .int .u8 0, .int .u8 0, .int .u8 0, .int .u8 0, .int .u8 0, .int .u8 0, .int .u8 0, .int .u8 0, .int .u8 0, .int .u8 0, .int .u8 0, .int .u8 0, .int .u8 0, .int .u8 0, .int .u8 0, .int .u8 0, .int .u8 0, .int .u8 0, .int .u8 0, .int .u8 0, .int .u8 0, .int .u8 0, .int .u8 0, .int .u8 0, .int .u8 0, .int .u8 0, .int .u8 0, .int .u8 0, .int .u8 0, .int .u8 0, .int .u8 0, .int .u8 0, .int .u8 0, .int .u8 0, .int .u8 0, .int .u8 0] : Array Value) = ints .u8 Z0) := ⟨by rw [hZ]; exact z64_eq⟩
  clear hZ hL hs
  go_enter Tryz.func87, Tryz.ntmps87
  go_wp2_with fail
  generalize hW : ((w.alloc (.cells (ints .u32 s) 136)).alloc (.cells #[.int .u8 0, .int .u8 0, .int .u8 0, .int .u8 0, .int .u8 0, .int .u8 0, .int .u8 0, .int .u8 0, .int .u8 0, .int .u8 0, .int .u8 0, .int .u8 0, .int .u8 0, .int .u8 0, .int .u8 0, .int .u8 0, .int .u8 0, .int .u8 0, .int .u8 0, .int .u8 0, .int .u8 0, .int .u8 0, .int .u8 0, .int .u8 0, .int .u8 0, .int .u8 0, .int .u8 0, .int .u8 0, .int .u8 0, .int .u8 0, .int .u8 0, .int .u8 0, .int .u8 0, .int .u8 0, .int .u8 0, .int .u8 0, .int .u8 0, .int .u8 0, .int .u8 0, .int .u8 0, .int .u8 0, .int .u8 0, .int .u8 0, .int .u8 0, .int .u8 0, .int .u8 0, .int .u8 0, .int .u8 0, .int .u8 0, .int .u8 0, .int .u8 0, .int .u8 0, .int .u8 0, .int .u8 0, .int .u8 0, .int .u8 0, .int .u8 0, .int .u8 0, .int .u8 0, .int .u8 0, .int .u8 0, .int .u8 0, .int .u8 0, .int .u8 0] 75)).alloc (.cells #[.int .u8 0, .int .u8 0, .int .u8 0, .int .u8 0, .int .u8 0, .int .u8 0, .int .u8 0, .int .u8 0, .int .u8 0, .int .u8 0, .int .u8 0, .int .u8 0, .int .u8 0, .int .u8 0, .int .u8 0, .int .u8 0, .int .u8 0, .int .u8 0, .int .u8 0, .int .u8 0, .int .u8 0, .int .u8 0, .int .u8 0, .int .u8 0, .int .u8 0, .int .u8 0, .int .u8 0, .int .u8 0, .int .u8 0, .int .u8 0, .int .u8 0, .int .u8 0, .int .u8 0, .int .u8 0, .int .u8 0, .int .u8 0, .int .u8 0, .int .u8 0, .int .u8 0, .int .u8 0, .int .u8 0, .int .u8 0, .int .u8 0, .int .u8 0, .int .u8 0, .int .u8 0, .int .u8 0, .int .u8 0, .int .u8 0, .int .u8 0, .int .u8 0, .int .u8 0, .int .u8 0, .int .u8 0, .int .u8 0, .int .u8 0, .int .u8 0, .int .u8 0, .int .u8 0, .int .u8 0, .int .u8 0, .int .u8 0, .int .u8 0, .int .u8 0] 75) = W
  have B0 : Blk W w.heap.size 136 (ints .u32 s) := by subst hW; exact ((blk_new w _ _).alloc _).alloc _
  have B1 : Blk W (w.heap.size + 1) 75 (ints .u8 Z0) := by subst hW; rw [← EI.out]; exact (blk_top _ _ _ _ (by simp)).alloc _
  have B2 : Blk W (w.heap.size + 2) 75 (ints .u8 (mix L Z0 0)) := by subst hW; rw [mix_zero, ← EI.out]; exact blk_top _ _ _ _ (by simp)
  have QB : Below w.heap.size w W := by subst hW; exact (((Below.refl _ _).alloc (Nat.le_refl _) _).alloc (by simp) _).alloc (by simp; omega) _
  clear hW EI
  go_loopg [5] 64 (fun k s5 wr => ∃ i : Nat, i + k = 64 ∧ s5 = .int .i64 (i : Int) ∧ Below w.heap.size w wr ∧ Blk wr w.heap.size 136 (ints .u32 s) ∧ Blk wr (w.heap.size + 1) 75 (ints .u8 Z0) ∧ Blk wr (w.heap.size + 2) 75 (ints .u8 (mix L Z0 i)))
  case atStart => exact ⟨0, by omega, rfl, QB, B0, B1, B2⟩
  case round =>
    obtain ⟨i, hik, rfl, HB, A0, A1, A2⟩ := hrel
    clear QB B0 B1 B2
    by_cases hk0 : gk = 0
    · obtain rfl : i = 64 := by omega
      have e : mix L Z0 64 = L := by rw [← HZ.out]; exact mix_all L Z0 HL2.out
      rw [e] at A2
      clear A0 e
      go_wp2_with (first | (refine wl_load rfl 75 (.tmp 3) rfl _ rfl (ints .u8 L) 64 5 Tryz.underlying75 (by rw [ints_size, HL.out]; exact i64_info) A2 ?_) | (refine wl_store rfl 75 (.tmp 2) (.tmp 20) rfl _ (ints .u8 L) rfl rfl _ A1 (by rw [ints_size, HL.out]; exact i64_info) (by rw [ints_size, ints_size, HL2.out]) (ints_one _ _) ?_))
      intro w3 A3 P3
      go_wp2
      exact bodyPost_ret (v := .agg (ints .u8 L)) (results_cell_row Tryz.results87 _ _ _ 75 (ints .u8 L) (0, 0) _ rfl A3 Tryz.underlying75 rfl (by rw [ints_size, HL.out]; exact i64_info)) rfl ⟨rfl, HB.trans (P3.below (by omega))⟩
    · have hil : i < 64 := by omega
      have hlt : ((i : Int) < 64) := by omega
      have hq8 : i / 4 < 16 := by omega
      obtain ⟨x, hx⟩ : ∃ x, s[i / 4]? = some x := ⟨_, HX.out.get _ hq8⟩
      have gx : (ints .u32 s)[i / 4]? = some (.int .u32 (x : Int)) := ints_get hx
      have KX : Kept (x < 4294967296) := ⟨HX.out.lt _ x hx⟩
      have l2 : i < (ints .u8 (mix L Z0 i)).size := by rw [ints_size, mix_len L _ i HL2.out, HZ.out]; exact hil
      go_wp2_with (first | (refine wl_elem rfl 72 ag_u32 (.tmp 11) rfl w.heap.size (i / 4) rfl (ints .u32 s) (.int .u32 (x : Int)) A0 gx ?_) | (refine wl_setElem rfl 5 sz_u8 (.tmp 18) (.tmp 17) rfl (w.heap.size + 1 + 1) i .u8 ((x : Int) / 2 ^ (i % 4 * 8) % 256) rfl rfl _ A2 l2 ?_))
      obtain ⟨z, hz⟩ : ∃ z, z = x / 2 ^ (i % 4 * 8) % 256 := ⟨_, rfl⟩
      have gz : L[i]? = some z := by rw [EL.out, hz]; exact leL_get s i x hil hx
      have ez : (x : Int) / 2 ^ (i % 4 * 8) % 256 = (z : Int) := by rw [hz, Int.natCast_emod, Int.natCast_ediv, Int.natCast_pow]; rfl
      rw [ez]
      intro w4 A4 P4
      rw [ints_set, mix_set L _ i z HL2.out gz] at A4
      have A04 := P4.blk A0 (by omega)
      have A14 := P4.blk A1 (by omega)
      have HB4 := HB.trans (P4.below (by omega))
      clear A0 A1 A2 HB P4 gx hx hz gz l2
      go_wp2_with fail
      go_roundg (gk - 1)
      case measure => omega
      case rel => exact ⟨i + 1, by omega, by simp, HB4, A04, A14, A4⟩
end Go.Proofs.YtjkdonjcngmjeaaGreatDoor.sh
/-
  Words of bytes, by the program.
-/
namespace Go.Proofs.YtjkdonjcngmjeaaGreatDoor.sh
open Go Go.RowKit
set_option linter.unusedVariables false
set_option linter.unusedSimpArgs false

/-- The words behind the first i bytes. -/
def rdT (b : List Nat) : Nat → List Nat
  | 0 => List.replicate 16 0
  | i + 1 => (rdT b i).set (i / 4) ((rdT b i).getD (i / 4) 0 ||| b.getD i 0 * 2 ^ (i % 4 * 8))
theorem rdT_len (b : List Nat) : ∀ i, (rdT b i).length = 16
  | 0 => by simp [rdT]
  | i + 1 => by simp [rdT, rdT_len b i]
theorem pow256 (t : Nat) : 2 ^ (t * 8) = 256 ^ t := by rw [Nat.mul_comm, Nat.pow_mul]
theorem rdT_get (b : List Nat) (hb : Bytes b) : ∀ i, i ≤ 64 → ∀ j, j < 16 → (rdT b i).getD j 0 = part b j (min 4 (i - 4 * j))
  | 0, _, j, hj => by
    show (List.replicate 16 0).getD j 0 = part b j (min 4 (0 - 4 * j))
    rw [Nat.zero_sub, Nat.min_zero, List.getD_eq_getElem?_getD, List.getElem?_replicate]
    split <;> rfl
  | i + 1, hi, j, hj => by
    have ih := rdT_get b hb i (by omega)
    show ((rdT b i).set (i / 4) ((rdT b i).getD (i / 4) 0 ||| b.getD i 0 * 2 ^ (i % 4 * 8))).getD j 0 = _
    rw [List.getD_eq_getElem?_getD, List.getElem?_set]
    by_cases h : i / 4 = j
    · rw [if_pos h, if_pos (by rw [rdT_len]; omega)]
      subst h
      have e1 : min 4 (i - 4 * (i / 4)) = i % 4 := by omega
      have e2 : min 4 (i + 1 - 4 * (i / 4)) = i % 4 + 1 := by omega
      rw [Option.getD_some, ih _ hj, e1, e2, pow256]
      show _ = part b (i / 4) (i % 4) + b.getD (4 * (i / 4) + i % 4) 0 * 256 ^ (i % 4)
      have hl := part_lt b hb (i / 4) (i % 4)
      rw [show 4 * (i / 4) + i % 4 = i by omega, ← pow256, Nat.mul_comm _ (2 ^ (i % 4 * 8)), Nat.or_comm]
      rw [← pow256] at hl
      rw [← Nat.two_pow_add_eq_or_of_lt hl, Nat.add_comm]
    · rw [if_neg h, ← List.getD_eq_getElem?_getD, ih j hj]
      congr 1
      omega
theorem rdT_all (b : List Nat) (hb : Bytes b) : rdT b 64 = wsL b 16 := by
  apply List.ext_getElem?
  intro j
  by_cases hj : j < 16
  · have h := rdT_get b hb 64 (Nat.le_refl _) j hj
    rw [show min 4 (64 - 4 * j) = 4 by omega, List.getD_eq_getElem?_getD, List.getElem?_eq_getElem (by rw [rdT_len]; exact hj), Option.getD_some] at h
    rw [List.getElem?_eq_getElem (by rw [rdT_len]; exact hj), h]
    simp [wsL, hj]
  · rw [List.getElem?_eq_none (by rw [rdT_len]; omega), List.getElem?_eq_none (by rw [wsL_len]; omega)]
theorem rdT_lt (b : List Nat) (hb : Bytes b) (i : Nat) (hi : i ≤ 64) (j : Nat) (hj : j < 16) : (rdT b i).getD j 0 < 4294967296 := by
  rw [rdT_get b hb i hi j hj]
  refine Nat.lt_of_lt_of_le (part_lt b hb j _) ?_
  exact Nat.pow_le_pow_right (n := 256) (by decide) (show _ ≤ 4 from Nat.min_le_left _ _)

theorem run_quo4 {o : Oper} {a : Act} {x : Operand} {i z : Nat} (ho : o.op = .binOp .quo 3 x (.const (.int .i64 4)) 3) (hx : a.eval x = .int .i64 (i : Int)) (hz : z = i / 4) (hi : i < 4611686018427387904) (w : World) : (execOp a.eval o).run Tryz.prog w = .ok (.value (.int .i64 (z : Int))) w := by
  have e3 : a.eval (.const (.int .i64 4)) = .int .i64 4 := rfl
  have h3 : (i : Int).tdiv 4 = (z : Int) := by rw [hz, Int.tdiv_eq_ediv_of_nonneg (by omega)]; omega
  have hz' : z ≤ i := by omega
  unfold execOp
  simp only [ho, hx, e3]
  simp [go_sem, IntKind.wrap_i64, wrap64, h3]
  omega
theorem run_rem4 {o : Oper} {a : Act} {x : Operand} {i z : Nat} (ho : o.op = .binOp .rem 3 x (.const (.int .i64 4)) 3) (hx : a.eval x = .int .i64 (i : Int)) (hz : z = i % 4) (hi : i < 4611686018427387904) (w : World) : (execOp a.eval o).run Tryz.prog w = .ok (.value (.int .i64 (z : Int))) w := by
  have e3 : a.eval (.const (.int .i64 4)) = .int .i64 4 := rfl
  have h3 : (i : Int).tmod 4 = (z : Int) := by rw [hz, Int.tmod_eq_emod_of_nonneg (by omega)]; omega
  unfold execOp
  simp only [ho, hx, e3]
  simp [go_sem, IntKind.wrap_i64, wrap64, h3]
theorem run_quo64 {o : Oper} {a : Act} {x : Operand} {i z : Nat} (ho : o.op = .binOp .quo 3 x (.const (.int .i64 64)) 3) (hx : a.eval x = .int .i64 (i : Int)) (hz : z = i / 64) (hi : i < 4611686018427387904) (w : World) : (execOp a.eval o).run Tryz.prog w = .ok (.value (.int .i64 (z : Int))) w := by
  have e3 : a.eval (.const (.int .i64 64)) = .int .i64 64 := rfl
  have h3 : (i : Int).tdiv 64 = (z : Int) := by rw [hz, Int.tdiv_eq_ediv_of_nonneg (by omega)]; omega
  have hz' : z ≤ i := by omega
  unfold execOp
  simp only [ho, hx, e3]
  simp [go_sem, IntKind.wrap_i64, wrap64, h3]
  omega
theorem run_mulK {o : Oper} {a : Act} {x : Operand} {i z : Nat} (c : Nat) (ho : o.op = .binOp .mul 3 x (.const (.int .i64 (c : Int))) 3) (hx : a.eval x = .int .i64 (i : Int)) (hz : z = i * c) (hi : z < 4611686018427387904) (w : World) : (execOp a.eval o).run Tryz.prog w = .ok (.value (.int .i64 (z : Int))) w := by
  have e3 : a.eval (.const (.int .i64 (c : Int))) = .int .i64 (c : Int) := rfl
  unfold execOp
  simp only [ho, hx, e3]
  rw [hz]
  rw [hz] at hi
  have hi' : ((i : Int) * (c : Int)) < 4611686018427387904 := by rw [← Int.natCast_mul]; omega
  have h0 : 0 ≤ ((i : Int) * (c : Int)) := by rw [← Int.natCast_mul]; omega
  simp [go_sem, IntKind.wrap_i64, wrap64]
  omega
theorem run_c832 {o : Oper} {a : Act} {x : Operand} {z : Nat} (ho : o.op = .convert 5 72 x) (hx : a.eval x = .int .u8 (z : Int)) (hz : z < 256) (w : World) : (execOp a.eval o).run Tryz.prog w = .ok (.value (.int .u32 (z : Int))) w := by
  unfold execOp
  simp only [ho, hx]
  simp [go_sem, IntKind.wrap_u32']
  omega
theorem run_shl32 {o : Oper} {a : Act} {x y : Operand} {m c z : Nat} (ho : o.op = .binOp .shl 72 x y 3) (hx : a.eval x = .int .u32 (m : Int)) (hy : a.eval y = .int .i64 (c : Int)) (hc : c < 32) (hz : z = m * 2 ^ c % 4294967296) (w : World) : (execOp a.eval o).run Tryz.prog w = .ok (.value (.int .u32 (z : Int))) w := by
  have e : ((m : Int) * 2 ^ c % 4294967296) = ((m * 2 ^ c % 4294967296 : Nat) : Int) := by rw [Int.natCast_emod, Int.natCast_mul, Int.natCast_pow]; rfl
  have e2 : min c 32 = c := by omega
  unfold execOp
  simp only [ho, hx, hy]
  rw [hz, ← e]
  clear hz e
  simp [go_sem, Op.shift, IntKind.bits, e2, IntKind.wrap_u32']
theorem run_or32 {o : Oper} {a : Act} {x y : Operand} {m n z : Nat} (ho : o.op = .binOp .or 72 x y 72) (hx : a.eval x = .int .u32 (m : Int)) (hy : a.eval y = .int .u32 (n : Int)) (hm : m < 4294967296) (hn : n < 4294967296) (hz : z = m ||| n) (w : World) : (execOp a.eval o).run Tryz.prog w = .ok (.value (.int .u32 (z : Int))) w := by
  have h := u32_or_nat m n hm hn
  unfold execOp
  simp only [ho, hx, hy]
  simp [go_sem, h, hz]
theorem run_index {o : Oper} {a : Act} {x y : Operand} {i len v : Nat} {k : IntKind} {t e : TypeId} {L : List Nat} (ho : o.op = .index t x y) (hx : a.eval x = .agg (ints k L)) (hy : a.eval y = .int .i64 (i : Int)) (ht : Tryz.prog.underlying t = some (.array len e)) (hl : L.length = len) (hv : L[i]? = some v) (ag : ∀ w, (isAgg e).run Tryz.prog w = .ok false w) (sz : ∀ w, (sizeOf e).run Tryz.prog w = .ok 1 w) (w : World) : (execOp a.eval o).run Tryz.prog w = .ok (.value (.int k (v : Int))) w := by
  have hi : i < len := by rw [← hl]; exact (List.getElem?_eq_some_iff.1 hv).1
  have h1 : ((i : Int) < (len : Int)) := by omega
  have h2 : (ints k L)[i]? = some (.int k (v : Int)) := ints_get hv
  unfold execOp
  simp only [ho, hx, hy]
  simp [asIntOf, run_underlying ht, h1, sz, ag, go_sem, Instr.index, hi, h2]

theorem z16_eq : (#[.int .u32 0, .int .u32 0, .int .u32 0, .int .u32 0, .int .u32 0, .int .u32 0, .int .u32 0, .int .u32 0, .int .u32 0, .int .u32 0, .int .u32 0, .int .u32 0, .int .u32 0, .int .u32 0, .int .u32 0, .int .u32 0] : Array Value) = ints .u32 (List.replicate 16 0) := by kernel_rfl
theorem ws_inf2 : (Tryz.prog.info? 136).map (·.size) = some 16 := by kernel_rfl
theorem i64_inf2 : (Tryz.prog.info? 75).map (·.size) = some 64 := by kernel_rfl
set_option maxRecDepth 100000 in
set_option maxHeartbeats 1000000 in
theorem read_any (b : List Nat) (w : World) (hb : Bytes b) (hl : b.length = 64) :
    Calls Tryz.prog 120 #[.agg (ints .u8 b)] w fun e w' => e = .returned (.agg (ints .u32 (wsL b 16))) ∧ Below w.heap.size w w' := by
  have KB : Kept _ := ⟨hb⟩
  have KL : Kept _ := ⟨hl⟩
  obtain ⟨L, hL⟩ : ∃ L, L = wsL b 16 := ⟨_, rfl⟩
  rw [← hL]
  have EL : Kept (rdT b 64 = L) := ⟨by rw [hL]; exact rdT_all b hb⟩
  have LL : Kept (L.length = 16) := ⟨by rw [hL]; exact wsL_len b 16⟩
  have EI : Kept ((#[.int .u32 0, .int .u32 0, .int .u32 0, .int .u32 0, .int .u32 0, .int .u32 0, .int .u32 0, .int .u32 0, .int .u32 0, .int .u32 0, .int .u32 0, .int .u32 0, .int .u32 0, .int .u32 0, .int .u32 0, .int .u32 0] : Array Value) = ints .u32 (rdT b 0)) := ⟨z16_eq⟩
  obtain ⟨ZZ, hZZ⟩ : ∃ ZZ : Array Value, ZZ = #[.int .u32 0, .int .u32 0, .int .u32 0, .int .u32 0, .int .u32 0, .int .u32 0, .int .u32 0, .int .u32 0, .int .u32 0, .int .u32 0, .int .u32 0, .int .u32 0, .int .u32 0, .int .u32 0, .int .u32 0, .int .u32 0] := ⟨_, rfl⟩
  have EZ : Kept _ := ⟨hZZ⟩
  have LZ : Kept (ZZ.size = 16) := ⟨by rw [hZZ]; rfl⟩
  have A0 : Blk (((w.alloc (.cells (ints .u8 b) 75)).alloc (.cells #[.int .u32 0, .int .u32 0, .int .u32 0, .int .u32 0, .int .u32 0, .int .u32 0, .int .u32 0, .int .u32 0, .int .u32 0, .int .u32 0, .int .u32 0, .int .u32 0, .int .u32 0, .int .u32 0, .int .u32 0, .int .u32 0] 136)).alloc (.cells #[.int .u32 0, .int .u32 0, .int .u32 0, .int .u32 0, .int .u32 0, .int .u32 0, .int .u32 0, .int .u32 0, .int .u32 0, .int .u32 0, .int .u32 0, .int .u32 0, .int .u32 0, .int .u32 0, .int .u32 0, .int .u32 0] 136)) w.heap.size 75 (ints .u8 b) := ((blk_new w _ _).alloc _).alloc _
  have A1 : Blk (((w.alloc (.cells (ints .u8 b) 75)).alloc (.cells #[.int .u32 0, .int .u32 0, .int .u32 0, .int .u32 0, .int .u32 0, .int .u32 0, .int .u32 0, .int .u32 0, .int .u32 0, .int .u32 0, .int .u32 0, .int .u32 0, .int .u32 0, .int .u32 0, .int .u32 0, .int .u32 0] 136)).alloc (.cells #[.int .u32 0, .int .u32 0, .int .u32 0, .int .u32 0, .int .u32 0, .int .u32 0, .int .u32 0, .int .u32 0, .int .u32 0, .int .u32 0, .int .u32 0, .int .u32 0, .int .u32 0, .int .u32 0, .int .u32 0, .int .u32 0] 136)) (w.heap.size + 1) 136 ZZ := by rw [hZZ]; exact (blk_top _ _ _ _ (by simp)).alloc _
  have A2 : Blk (((w.alloc (.cells (ints .u8 b) 75)).alloc (.cells #[.int .u32 0, .int .u32 0, .int .u32 0, .int .u32 0, .int .u32 0, .int .u32 0, .int .u32 0, .int .u32 0, .int .u32 0, .int .u32 0, .int .u32 0, .int .u32 0, .int .u32 0, .int .u32 0, .int .u32 0, .int .u32 0] 136)).alloc (.cells #[.int .u32 0, .int .u32 0, .int .u32 0, .int .u32 0, .int .u32 0, .int .u32 0, .int .u32 0, .int .u32 0, .int .u32 0, .int .u32 0, .int .u32 0, .int .u32 0, .int .u32 0, .int .u32 0, .int .u32 0, .int .u32 0] 136)) (w.heap.size + 2) 136 (ints .u32 (rdT b 0)) := by rw [← EI.out]; exact blk_top _ _ _ _ (by simp)
  have Q0 : Below w.heap.size w (((w.alloc (.cells (ints .u8 b) 75)).alloc (.cells #[.int .u32 0, .int .u32 0, .int .u32 0, .int .u32 0, .int .u32 0, .int .u32 0, .int .u32 0, .int .u32 0, .int .u32 0, .int .u32 0, .int .u32 0, .int .u32 0, .int .u32 0, .int .u32 0, .int .u32 0, .int .u32 0] 136)).alloc (.cells #[.int .u32 0, .int .u32 0, .int .u32 0, .int .u32 0, .int .u32 0, .int .u32 0, .int .u32 0, .int .u32 0, .int .u32 0, .int .u32 0, .int .u32 0, .int .u32 0, .int .u32 0, .int .u32 0, .int .u32 0, .int .u32 0] 136)) := (((Below.refl _ _).alloc (Nat.le_refl _) _).alloc (by simp) _).alloc (by simp; omega) _
  clear hb hL hl hZZ EI EZ
  go_enter Tryz.func120, Tryz.ntmps120
  go_wp2_with (first | (refine wl_load rfl 75 (.tmp 1) rfl _ rfl (ints .u8 b) 64 5 Tryz.underlying75 (by rw [ints_size, KL.out]; exact i64_inf2) A0 ?_))
  generalize hW : ((w.alloc (.cells (ints .u8 b) 75)).alloc (.cells #[.int .u32 0, .int .u32 0, .int .u32 0, .int .u32 0, .int .u32 0, .int .u32 0, .int .u32 0, .int .u32 0, .int .u32 0, .int .u32 0, .int .u32 0, .int .u32 0, .int .u32 0, .int .u32 0, .int .u32 0, .int .u32 0] 136)).alloc (.cells #[.int .u32 0, .int .u32 0, .int .u32 0, .int .u32 0, .int .u32 0, .int .u32 0, .int .u32 0, .int .u32 0, .int .u32 0, .int .u32 0, .int .u32 0, .int .u32 0, .int .u32 0, .int .u32 0, .int .u32 0, .int .u32 0] 136) = wa at *
  clear hW
  go_loopg [7] 64 (fun k s7 wr => ∃ (i : Nat) (X : List Nat), i + k = 64 ∧ s7 = .int .i64 (i : Int) ∧ Kept (X = rdT b i) ∧ Below w.heap.size w wr ∧ Blk wr (w.heap.size + 1) 136 ZZ ∧ Blk wr (w.heap.size + 2) 136 (ints .u32 X))
  case atStart => exact ⟨0, _, by omega, rfl, ⟨rfl⟩, Q0, A1, A2⟩
  case round =>
    clear A0 A1 A2 Q0
    obtain ⟨i, X, hik, rfl, EX, HB, A1, A2⟩ := hrel
    by_cases hi : i < 64
    case pos =>
      have hi' : (i : Int) < 64 := by omega
      obtain ⟨x, hx⟩ : ∃ x, b[i]? = some x := ⟨_, List.getElem?_eq_getElem (by have := KL.out; omega)⟩
      have KX : Kept _ := ⟨hx⟩
      have hx8 : x < 256 := KB.out i x hx
      obtain ⟨q, hq⟩ : ∃ q, q = i / 4 := ⟨_, rfl⟩
      obtain ⟨r, hr⟩ : ∃ r, r = i % 4 := ⟨_, rfl⟩
      obtain ⟨r8, hr8⟩ : ∃ r8, r8 = r * 8 := ⟨_, rfl⟩
      obtain ⟨sh, hsh⟩ : ∃ s, s = x * 2 ^ r8 % 4294967296 := ⟨_, rfl⟩
      obtain ⟨y, hy⟩ : ∃ y, y = X.getD q 0 := ⟨_, rfl⟩
      obtain ⟨z, hz⟩ : ∃ z, z = y ||| sh := ⟨_, rfl⟩
      have LX : Kept (X.length = 16) := ⟨by rw [EX.out]; exact rdT_len b i⟩
      have q16 : q < 16 := by omega
      have Ly : Kept (y < 4294967296) := ⟨by rw [hy, EX.out]; exact rdT_lt b KB.out i (by omega) q q16⟩
      have Ls : Kept (sh < 4294967296) := ⟨by rw [hsh]; exact Nat.mod_lt _ (by decide)⟩
      have GX : Kept ((ints .u32 X)[q]? = some (.int .u32 (y : Int))) := ⟨ints_get (by rw [hy, List.getD_eq_getElem?_getD, List.getElem?_eq_getElem (by rw [LX.out]; exact q16)]; rfl)⟩
      have e8 : x * 2 ^ r8 % 4294967296 = x * 2 ^ r8 := Nat.mod_eq_of_lt (by
        have h1 : r8 ≤ 24 := by omega
        have h2 : 2 ^ r8 ≤ 2 ^ 24 := Nat.pow_le_pow_right (by decide) h1
        have h3 : x * 2 ^ r8 ≤ 255 * 2 ^ 24 := Nat.mul_le_mul (by omega) h2
        exact Nat.lt_of_le_of_lt h3 (by decide))
      have ES : Kept (X.set q z = rdT b (i + 1)) := ⟨by
        rw [hz, hy, hsh, e8, hr8, hr, hq, EX.out]
        show _ = (rdT b i).set (i / 4) ((rdT b i).getD (i / 4) 0 ||| b.getD i 0 * 2 ^ (i % 4 * 8))
        rw [List.getD_eq_getElem?_getD (l := b), hx]
        rfl⟩
      have Hq : Kept _ := ⟨hq⟩
      have Hr : Kept _ := ⟨hr⟩
      have Hr8 : Kept _ := ⟨hr8⟩
      have Hs : Kept _ := ⟨hsh⟩
      have Hz : Kept _ := ⟨hz⟩
      have r8lt : r8 < 32 := by omega
      clear hq hr hr8 hsh hz hy e8 EX hx
      go_wp2_with (first | ((with_reducible refine wv_val (d := 10) ?hd ?hw (.int .u8 (x : Int)) ?hr ?_); (case hd => rfl); (case hw => kernel_rfl); (case hr => intro w; exact run_index (len := 64) rfl (by kernel_rfl) (by kernel_rfl) Tryz.underlying75 KL.out KX.out ag_u8 sz_u8 w); simp only [Act.put, List.setIfInBounds_toArray, List.set_cons_succ, List.set_cons_zero]))
      refine region_ownL wr 12 [(11, .int .i64 (i : Int)), (12, .int .i64 (q : Int)), (13, .pointer (some ⟨w.heap.size + 2, q, none⟩)), (14, .int .u32 (y : Int)), (15, .int .u8 (x : Int)), (16, .int .u32 (x : Int)), (17, .int .i64 (i : Int)), (18, .int .i64 (r : Int)), (19, .int .i64 (r8 : Int)), (20, .int .u32 (sh : Int)), (21, .int .u32 (z : Int)), (22, .pointer (some ⟨w.heap.size + 2, q, none⟩))] [] [] [] rfl (by kernel_rfl) (by kernel_rfl) (by kernel_rfl) (by kernel_rfl) (by kernel_rfl) (by kernel_rfl) (by kernel_rfl) (by kernel_rfl) (by kernel_rfl) (by kernel_rfl) (by kernel_rfl) ?hst1 ?hst2 (Below.refl _ _) (fun hA => ⟨ow_val hA (wants_none rfl) 11 (.int .i64 (i : Int)) (by kernel_rfl) rfl rfl rfl rfl (by kernel_rfl) (fun w => by kernel_rfl), ow_val hA (wants_none rfl) 12 (.int .i64 (q : Int)) (by kernel_rfl) rfl rfl rfl rfl (by kernel_rfl) (fun w => run_quo4 rfl (by kernel_rfl) Hq.out (by omega) w), ow_val hA (wants_none rfl) 13 (.pointer (some ⟨w.heap.size + 2, q, none⟩)) (by kernel_rfl) rfl rfl rfl rfl (by kernel_rfl) (fun w => run_idx rfl (by kernel_rfl) (by kernel_rfl) Tryz.underlying136 q16 sz_u32 w), ow_elem hA (wants_none rfl) 14 (.int .u32 (y : Int)) (by kernel_rfl) rfl rfl rfl rfl (by kernel_rfl) 72 ag_u32 (.tmp 13) rfl (⟨w.heap.size + 2, q, none⟩) (by kernel_rfl) (fun w1 hb => (A2.under hb).cell GX.out), ow_val hA (wants_none rfl) 15 (.int .u8 (x : Int)) (by kernel_rfl) rfl rfl rfl rfl (by kernel_rfl) (fun w => by kernel_rfl), ow_val hA (wants_none rfl) 16 (.int .u32 (x : Int)) (by kernel_rfl) rfl rfl rfl rfl (by kernel_rfl) (fun w => run_c832 rfl (by kernel_rfl) hx8 w), ow_val hA (wants_none rfl) 17 (.int .i64 (i : Int)) (by kernel_rfl) rfl rfl rfl rfl (by kernel_rfl) (fun w => by kernel_rfl), ow_val hA (wants_none rfl) 18 (.int .i64 (r : Int)) (by kernel_rfl) rfl rfl rfl rfl (by kernel_rfl) (fun w => run_rem4 rfl (by kernel_rfl) Hr.out (by omega) w), ow_val hA (wants_none rfl) 19 (.int .i64 (r8 : Int)) (by kernel_rfl) rfl rfl rfl rfl (by kernel_rfl) (fun w => run_mulK 8 rfl (by kernel_rfl) Hr8.out (by omega) w), ow_val hA (wants_none rfl) 20 (.int .u32 (sh : Int)) (by kernel_rfl) rfl rfl rfl rfl (by kernel_rfl) (fun w => run_shl32 rfl (by kernel_rfl) (by kernel_rfl) r8lt Hs.out w), ow_val hA (wants_none rfl) 21 (.int .u32 (z : Int)) (by kernel_rfl) rfl rfl rfl rfl (by kernel_rfl) (fun w => run_or32 rfl (by kernel_rfl) (by kernel_rfl) Ly.out Ls.out Hz.out w), ow_val hA (wants_none rfl) 22 (.pointer (some ⟨w.heap.size + 2, q, none⟩)) (by kernel_rfl) rfl rfl rfl rfl (by kernel_rfl) (fun w => run_idx rfl (by kernel_rfl) (by kernel_rfl) Tryz.underlying136 q16 sz_u32 w), trivial⟩) ?_
      case hst1 => intro q hq; cases hq
      case hst2 => intro q hq; cases hq
      intro fv wt hf hD hwt
      simp only [putR, List.foldl_cons, List.foldl_nil, List.map_cons, List.map_nil, Act.put, List.setIfInBounds_toArray, List.set_cons_succ, List.set_cons_zero]
      clear hf hD
      have A1' := A1.under hwt
      have A2' := A2.under hwt
      have HB' := HB.trans (hwt.mono HB.size)
      clear A1 A2 HB hwt
      refine wl_setElem rfl 72 sz_u32 (.tmp 22) (.tmp 21) rfl (w.heap.size + 2) q .u32 (z : Int) (by kernel_rfl) (by kernel_rfl) _ A2' (by rw [ints_size, LX.out]; exact q16) ?_
      intro w4 A4 P4
      rw [ints_set, ES.out] at A4
      have A14 := P4.blk A1' (by omega)
      have HB4 := HB'.trans (P4.below (by omega))
      clear A1' A2' HB' P4 GX Hq Hr Hr8 Hs Hz Ly Ls ES
      go_wp2_with fail
      go_roundg (gk - 1)
      case measure => omega
      case rel => exact ⟨i + 1, _, by omega, by simp, ⟨rfl⟩, HB4, A14, A4⟩
    case neg =>
      have hi' : ¬ (i : Int) < 64 := by omega
      obtain rfl : X = L := by rw [EX.out, ← EL.out, show i = 64 by omega]
      clear EX
      go_wp2_with (first | (refine wl_load rfl 136 (.tmp 3) rfl (w.heap.size + 2) rfl (ints .u32 X) 16 72 Tryz.underlying136 (by rw [ints_size, LL.out]; exact ws_inf2) A2 ?_) | (refine wl_store rfl 136 (.tmp 2) (.tmp 24) rfl _ (ints .u32 X) rfl rfl _ A1 (by rw [ints_size, LL.out]; exact ws_inf2) (by rw [ints_size, LL.out, LZ.out]) (ints_one _ _) ?_))
      intro w6 A6 P6
      go_wp2
      exact bodyPost_ret (v := .agg (ints .u32 X)) (results_cell_row Tryz.results120 _ _ _ 136 (ints .u32 X) (0, 0) _ rfl A6 Tryz.underlying136 rfl (by rw [ints_size, LL.out]; exact ws_inf2)) rfl ⟨rfl, HB.trans (P6.below (by omega))⟩
end Go.Proofs.YtjkdonjcngmjeaaGreatDoor.sh
