/-
  Words: the first state, sums, their bytes.
-/
import Derived.Test.YtghinfdmkiaaiaaDoorST
namespace Go.Proofs.YtghinfdmkiaaiaaDoor.sh
open Go Go.RowKit
set_option linter.unusedVariables false
set_option linter.unusedSimpArgs false

/-- A row that is filled in order: the first i as they shall be, the others as they were. -/
def mix (L a : List Nat) (i : Nat) : List Nat := L.take i ++ a.drop i
theorem mix_zero (L a : List Nat) : mix L a 0 = a := by simp [mix]
theorem mix_all (L a : List Nat) (h : L.length = a.length) : mix L a a.length = L := by simp [mix, ← h]
theorem mix_len (L a : List Nat) (i : Nat) (h : L.length = a.length) : (mix L a i).length = a.length := by simp [mix]; omega
theorem mix_get (L a : List Nat) (i : Nat) (h : L.length = a.length) (hi : i < a.length) : (mix L a i)[i]? = a[i]? := by
  simp [mix, List.getElem?_append, h]
  rw [if_neg (by omega), Nat.min_eq_left (by omega)]
  simp
theorem mix_set (L a : List Nat) (i v : Nat) (h : L.length = a.length) (hi : L[i]? = some v) : (mix L a i).set i v = mix L a (i + 1) := by
  have hil : i < L.length := (List.getElem?_eq_some_iff.1 hi).1
  have e1 : (L.take i).length = i := by simp; omega
  unfold mix
  rw [List.set_append_right _ _ (by omega), e1, Nat.sub_self, List.take_add_one, hi, List.append_assoc]
  congr 1
  have e2 : a.drop i = a[i]'(by omega) :: a.drop (i + 1) := List.drop_eq_getElem_cons (by omega)
  rw [e2]
  rfl

def plusL (a b : List Nat) : List Nat := List.zipWith (fun x y => (x + y) % 4294967296) a b
theorem plusL_len (a b : List Nat) (h : a.length = b.length) : (plusL a b).length = a.length := by simp [plusL, h]
theorem plusL_get (a b : List Nat) (i x y : Nat) (hx : a[i]? = some x) (hy : b[i]? = some y) : (plusL a b)[i]? = some ((x + y) % 4294967296) := by simp [plusL, List.getElem?_zipWith, hx, hy]
theorem u32_info : (Tryd.prog.info? 28).map (·.size) = some 8 := by kernel_rfl

set_option maxHeartbeats 400000 in
theorem plus_any (a b : List Nat) (w : World) (ha : a.length = 8) (hb : b.length = 8) :
    Calls Tryd.prog 16 #[.agg (ints .u32 a), .agg (ints .u32 b)] w fun e w' => e = .returned (.agg (ints .u32 (plusL a b))) ∧ Below w.heap.size w w' := by
  obtain ⟨L, hL⟩ : ∃ L, L = plusL a b := ⟨_, rfl⟩
  rw [← hL]
  have EL : Kept _ := ⟨hL⟩
  have HL : Kept (L.length = a.length) := ⟨by rw [hL]; exact plusL_len a b (by omega)⟩
  clear hL
  go_enter Tryd.func16, Tryd.ntmps16
  go_wp2_with fail
  generalize hW : ((w.alloc (.cells (ints .u32 a) 28)).alloc (.cells (ints .u32 b) 28)).alloc (.cells #[.int .u32 0, .int .u32 0, .int .u32 0, .int .u32 0, .int .u32 0, .int .u32 0, .int .u32 0, .int .u32 0] 28) = W
  have B0 : Blk W w.heap.size 28 (ints .u32 (mix L a 0)) := by subst hW; rw [mix_zero]; exact ((blk_new w _ _).alloc _).alloc _
  have B1 : Blk W (w.heap.size + 1) 28 (ints .u32 b) := by subst hW; exact (blk_top _ _ _ _ (by simp)).alloc _
  have B2 : Blk W (w.heap.size + 2) 28 #[.int .u32 0, .int .u32 0, .int .u32 0, .int .u32 0, .int .u32 0, .int .u32 0, .int .u32 0, .int .u32 0] := by subst hW; exact blk_top _ _ _ _ (by simp)
  have QB : Below w.heap.size w W := by subst hW; exact (((Below.refl _ _).alloc (Nat.le_refl _) _).alloc (by simp) _).alloc (by simp; omega) _
  clear hW
  go_loopg [6] 8 (fun k s6 wr => ∃ i : Nat, i + k = 8 ∧ s6 = .int .i64 (i : Int) ∧ Below w.heap.size w wr ∧ Blk wr w.heap.size 28 (ints .u32 (mix L a i)) ∧ Blk wr (w.heap.size + 1) 28 (ints .u32 b) ∧ Blk wr (w.heap.size + 2) 28 #[.int .u32 0, .int .u32 0, .int .u32 0, .int .u32 0, .int .u32 0, .int .u32 0, .int .u32 0, .int .u32 0])
  case atStart => exact ⟨0, by omega, rfl, QB, B0, B1, B2⟩
  case round =>
    obtain ⟨i, hik, rfl, HB, A0, A1, A2⟩ := hrel
    clear QB B0 B1 B2
    by_cases hk0 : gk = 0
    · obtain rfl : i = 8 := by omega
      have e : mix L a 8 = L := by rw [← ha]; exact mix_all L a HL.out
      rw [e] at A0
      clear A1 e
      go_wp2_with (first | (refine wl_load rfl 28 (.tmp 2) rfl _ rfl (ints .u32 L) 8 26 Tryd.underlying28 (by rw [ints_size, HL.out, ha]; exact u32_info) A0 ?_) | (refine wl_store rfl 28 (.tmp 4) (.tmp 18) rfl _ (ints .u32 L) rfl rfl _ A2 (by rw [ints_size, HL.out, ha]; exact u32_info) (by rw [ints_size, HL.out, ha]; rfl) (ints_one _ _) ?_))
      intro w3 A3 P3
      go_wp2
      exact bodyPost_ret (v := .agg (ints .u32 L)) (results_cell_row Tryd.results16 _ _ _ 28 (ints .u32 L) (0, 0) _ rfl A3 Tryd.underlying28 rfl (by rw [ints_size, HL.out, ha]; exact u32_info)) rfl ⟨rfl, HB.trans (P3.below (by omega))⟩
    · have hil : i < 8 := by omega
      have hlt : ((i : Int) < 8) := by omega
      obtain ⟨x, hx⟩ : ∃ x, a[i]? = some x := ⟨_, List.getElem?_eq_getElem (by omega)⟩
      obtain ⟨y, hy⟩ : ∃ y, b[i]? = some y := ⟨_, List.getElem?_eq_getElem (by omega)⟩
      have gx : (ints .u32 (mix L a i))[i]? = some (.int .u32 (x : Int)) := ints_get (by rw [mix_get L a i HL.out (by omega)]; exact hx)
      have gy : (ints .u32 b)[i]? = some (.int .u32 (y : Int)) := ints_get hy
      obtain ⟨z, hz⟩ : ∃ z, z = (x + y) % 4294967296 := ⟨_, rfl⟩
      have gz : L[i]? = some z := by rw [EL.out, hz]; exact plusL_get a b i x y hx hy
      go_wp2_with fail
      refine wp_region_quiet_cut (C := fun w' => Below wr.heap.size wr w') 8 rfl (by kernel_rfl) (by kernel_rfl) (by kernel_rfl) (by kernel_rfl) (by kernel_rfl) (Below.drew (Below.refl _ _)) ?_
      dsimp only [List.take_succ_cons, List.take_zero]
      refine q_val (by kernel_rfl) (.int .i64 (i : Int)) (fun w' => by kernel_rfl) ?_
      simp only [Act.put, List.setIfInBounds_toArray, List.set_cons_succ, List.set_cons_zero]
      refine q_val (by kernel_rfl) (.pointer (some ⟨w.heap.size, i, none⟩)) (fun w' => ?ia) ?_
      case ia => simp [execOp, Act.eval, go_sem, hlt, hil]
      simp only [Act.put, List.setIfInBounds_toArray, List.set_cons_succ, List.set_cons_zero]
      refine q_elem (by kernel_rfl) 26 ag_u32 (.tmp 10) rfl (w.heap.size) i (by kernel_rfl) 28 (ints .u32 (mix L a i)) (.int .u32 (x : Int)) (fun w' hb => Blk.under A0 hb) gx ?_
      simp only [Act.put, List.setIfInBounds_toArray, List.set_cons_succ, List.set_cons_zero]
      refine q_val (by kernel_rfl) (.int .i64 (i : Int)) (fun w' => by kernel_rfl) ?_
      simp only [Act.put, List.setIfInBounds_toArray, List.set_cons_succ, List.set_cons_zero]
      refine q_val (by kernel_rfl) (.pointer (some ⟨w.heap.size + 1, i, none⟩)) (fun w' => ?ia) ?_
      case ia => simp [execOp, Act.eval, go_sem, hlt, hil]
      simp only [Act.put, List.setIfInBounds_toArray, List.set_cons_succ, List.set_cons_zero]
      refine q_elem (by kernel_rfl) 26 ag_u32 (.tmp 13) rfl (w.heap.size + 1) i (by kernel_rfl) 28 (ints .u32 b) (.int .u32 (y : Int)) (fun w' hb => Blk.under A1 hb) gy ?_
      simp only [Act.put, List.setIfInBounds_toArray, List.set_cons_succ, List.set_cons_zero]
      refine q_val (by kernel_rfl) (.int .u32 (z : Int)) (fun w' => ?ad) ?_
      case ad =>
        simp [execOp, Act.eval, go_sem, IntKind.wrap_u32']
        omega
      simp only [Act.put, List.setIfInBounds_toArray, List.set_cons_succ, List.set_cons_zero]
      refine q_val (by kernel_rfl) (.pointer (some ⟨w.heap.size, i, none⟩)) (fun w' => ?ia) ?_
      case ia => simp [execOp, Act.eval, go_sem, hlt, hil]
      simp only [Act.put, List.setIfInBounds_toArray, List.set_cons_succ, List.set_cons_zero]
      refine wpQuiet_nil ?_
      intro w3 hw3
      have A0' := A0.under hw3
      have A1' := A1.under hw3
      have A2' := A2.under hw3
      have HB' := HB.trans (hw3.mono HB.size)
      refine wl_setElem rfl 26 sz_u32 (.tmp 16) (.tmp 15) rfl w.heap.size i .u32 (z : Int) (by kernel_rfl) (by kernel_rfl) _ A0' (by rw [ints_size, mix_len L a i HL.out]; omega) ?_
      intro w4 A4 P4
      rw [ints_set, mix_set L a i z HL.out gz] at A4
      have A14 := P4.blk A1' (by omega)
      have A24 := P4.blk A2' (by omega)
      have HB4 := HB'.trans (P4.below (Nat.le_refl _))
      clear A0 A1 A2 HB hw3 A0' A1' A2' HB' P4 gx gy hx hy hz gz
      go_wp2_with fail
      go_roundg (gk - 1)
      case measure => omega
      case rel => exact ⟨i + 1, by omega, by simp, HB4, A4, A14, A24⟩

def firstL : List Nat := [1779033703, 3144134277, 1013904242, 2773480762, 1359893119, 2600822924, 528734635, 1541459225]
theorem first_val : Value.agg #[.int .u32 1779033703, .int .u32 3144134277, .int .u32 1013904242, .int .u32 2773480762, .int .u32 1359893119, .int .u32 2600822924, .int .u32 528734635, .int .u32 1541459225] = .agg (ints .u32 firstL) := by kernel_rfl
set_option maxHeartbeats 400000 in
theorem first_any (w : World) : Calls Tryd.prog 17 #[] w fun e w' => e = .returned (.agg (ints .u32 firstL)) ∧ Below w.heap.size w w' := by
  go_enter Tryd.func17, Tryd.ntmps17
  go_wp2_with (first | (refine wl_at (d := 1) rfl rfl (.agg (ints .u32 firstL)) ?h1 ?_; (case h1 => kernel_rfl); simp only [Act.put, List.setIfInBounds_toArray, List.set_cons_succ, List.set_cons_zero]) | (refine wl_store rfl 28 (.tmp 0) (.tmp 1) rfl _ (ints .u32 firstL) rfl rfl _ (blk_new w _ _) (by rw [ints_size]; exact u32_info) (by rw [ints_size]; rfl) (ints_one _ _) ?_))
  intro w3 A3 P3
  go_wp2
  exact bodyPost_ret (v := .agg (ints .u32 firstL)) (results_cell_row Tryd.results17 _ _ _ 28 (ints .u32 firstL) (0, 0) _ rfl A3 Tryd.underlying28 rfl (by rw [ints_size]; exact u32_info)) rfl ⟨rfl, ((Below.refl _ _).alloc (Nat.le_refl _) _).trans (P3.below (Nat.le_refl _))⟩

/-- The words one behind the other, the highest byte of each first. -/
def bytesL (s : List Nat) : List Nat := (List.range 32).map fun i => s.getD (i / 4) 0 / 2 ^ (24 - i % 4 * 8) % 256
theorem bytesL_len (s : List Nat) : (bytesL s).length = 32 := by simp [bytesL]
theorem bytesL_get (s : List Nat) (i x : Nat) (hi : i < 32) (hx : s[i / 4]? = some x) : (bytesL s)[i]? = some (x / 2 ^ (24 - i % 4 * 8) % 256) := by
  simp [bytesL, hi, hx]
theorem t32_info : (Tryd.prog.info? 24).map (·.size) = some 32 := by kernel_rfl
theorem zero32 : (#[.int .u8 0, .int .u8 0, .int .u8 0, .int .u8 0, .int .u8 0, .int .u8 0, .int .u8 0, .int .u8 0, .int .u8 0, .int .u8 0, .int .u8 0, .int .u8 0, .int .u8 0, .int .u8 0, .int .u8 0, .int .u8 0, .int .u8 0, .int .u8 0, .int .u8 0, .int .u8 0, .int .u8 0, .int .u8 0, .int .u8 0, .int .u8 0, .int .u8 0, .int .u8 0, .int .u8 0, .int .u8 0, .int .u8 0, .int .u8 0, .int .u8 0, .int .u8 0] : Array Value) = ints .u8 (List.replicate 32 0) := by kernel_rfl

set_option maxHeartbeats 1000000 in
theorem bytes_any (s : List Nat) (w : World) (hs : s.length = 8) (hlt : ∀ (i x : Nat), s[i]? = some x → x < 4294967296) :
    Calls Tryd.prog 20 #[.agg (ints .u32 s)] w fun e w' => e = .returned (.agg (ints .u8 (bytesL s))) ∧ Below w.heap.size w w' := by
  obtain ⟨L, hL⟩ : ∃ L, L = bytesL s := ⟨_, rfl⟩
  rw [← hL]
  have EL : Kept _ := ⟨hL⟩
  have HL : Kept (L.length = 32) := ⟨by rw [hL]; exact bytesL_len s⟩
  obtain ⟨Z0, hZ⟩ : ∃ Z0, Z0 = List.replicate 32 0 := ⟨_, rfl⟩
  have EZ : Kept _ := ⟨hZ⟩
  have HL2 : Kept (L.length = Z0.length) := ⟨by rw [HL.out, hZ]; rfl⟩
  have HZ : Kept (Z0.length = 32) := ⟨by rw [hZ]; rfl⟩
  clear hZ
  have HX : Kept _ := ⟨hlt⟩
  clear hL hlt
  go_enter Tryd.func20, Tryd.ntmps20
  go_wp2_with fail
  generalize hW : ((w.alloc (.cells (ints .u32 s) 28)).alloc (.cells #[.int .u8 0, .int .u8 0, .int .u8 0, .int .u8 0, .int .u8 0, .int .u8 0, .int .u8 0, .int .u8 0, .int .u8 0, .int .u8 0, .int .u8 0, .int .u8 0, .int .u8 0, .int .u8 0, .int .u8 0, .int .u8 0, .int .u8 0, .int .u8 0, .int .u8 0, .int .u8 0, .int .u8 0, .int .u8 0, .int .u8 0, .int .u8 0, .int .u8 0, .int .u8 0, .int .u8 0, .int .u8 0, .int .u8 0, .int .u8 0, .int .u8 0, .int .u8 0] 24)).alloc (.cells #[.int .u8 0, .int .u8 0, .int .u8 0, .int .u8 0, .int .u8 0, .int .u8 0, .int .u8 0, .int .u8 0, .int .u8 0, .int .u8 0, .int .u8 0, .int .u8 0, .int .u8 0, .int .u8 0, .int .u8 0, .int .u8 0, .int .u8 0, .int .u8 0, .int .u8 0, .int .u8 0, .int .u8 0, .int .u8 0, .int .u8 0, .int .u8 0, .int .u8 0, .int .u8 0, .int .u8 0, .int .u8 0, .int .u8 0, .int .u8 0, .int .u8 0, .int .u8 0] 24) = W
  have B0 : Blk W w.heap.size 28 (ints .u32 s) := by subst hW; exact ((blk_new w _ _).alloc _).alloc _
  have B1 : Blk W (w.heap.size + 1) 24 #[.int .u8 0, .int .u8 0, .int .u8 0, .int .u8 0, .int .u8 0, .int .u8 0, .int .u8 0, .int .u8 0, .int .u8 0, .int .u8 0, .int .u8 0, .int .u8 0, .int .u8 0, .int .u8 0, .int .u8 0, .int .u8 0, .int .u8 0, .int .u8 0, .int .u8 0, .int .u8 0, .int .u8 0, .int .u8 0, .int .u8 0, .int .u8 0, .int .u8 0, .int .u8 0, .int .u8 0, .int .u8 0, .int .u8 0, .int .u8 0, .int .u8 0, .int .u8 0] := by subst hW; exact (blk_top _ _ _ _ (by simp)).alloc _
  have B2 : Blk W (w.heap.size + 2) 24 (ints .u8 (mix L Z0 0)) := by subst hW; rw [mix_zero, EZ.out, ← zero32]; exact blk_top _ _ _ _ (by simp)
  have QB : Below w.heap.size w W := by subst hW; exact (((Below.refl _ _).alloc (Nat.le_refl _) _).alloc (by simp) _).alloc (by simp; omega) _
  clear hW
  go_loopg [5] 32 (fun k s5 wr => ∃ i : Nat, i + k = 32 ∧ s5 = .int .i64 (i : Int) ∧ Below w.heap.size w wr ∧ Blk wr w.heap.size 28 (ints .u32 s) ∧ Blk wr (w.heap.size + 1) 24 #[.int .u8 0, .int .u8 0, .int .u8 0, .int .u8 0, .int .u8 0, .int .u8 0, .int .u8 0, .int .u8 0, .int .u8 0, .int .u8 0, .int .u8 0, .int .u8 0, .int .u8 0, .int .u8 0, .int .u8 0, .int .u8 0, .int .u8 0, .int .u8 0, .int .u8 0, .int .u8 0, .int .u8 0, .int .u8 0, .int .u8 0, .int .u8 0, .int .u8 0, .int .u8 0, .int .u8 0, .int .u8 0, .int .u8 0, .int .u8 0, .int .u8 0, .int .u8 0] ∧ Blk wr (w.heap.size + 2) 24 (ints .u8 (mix L Z0 i)))
  case atStart => exact ⟨0, by omega, rfl, QB, B0, B1, B2⟩
  case round =>
    obtain ⟨i, hik, rfl, HB, A0, A1, A2⟩ := hrel
    clear QB B0 B1 B2
    by_cases hk0 : gk = 0
    · obtain rfl : i = 32 := by omega
      have e : mix L Z0 32 = L := by rw [← HZ.out]; exact mix_all L Z0 HL2.out
      rw [e] at A2
      clear A0 e
      go_wp2_with (first | (refine wl_load rfl 24 (.tmp 3) rfl _ rfl (ints .u8 L) 32 5 Tryd.underlying24 (by rw [ints_size, HL.out]; exact t32_info) A2 ?_) | (refine wl_store rfl 24 (.tmp 2) (.tmp 21) rfl _ (ints .u8 L) rfl rfl _ A1 (by rw [ints_size, HL.out]; exact t32_info) (by rw [ints_size, HL.out]; rfl) (ints_one _ _) ?_))
      intro w3 A3 P3
      go_wp2
      exact bodyPost_ret (v := .agg (ints .u8 L)) (results_cell_row Tryd.results20 _ _ _ 24 (ints .u8 L) (0, 0) _ rfl A3 Tryd.underlying24 rfl (by rw [ints_size, HL.out]; exact t32_info)) rfl ⟨rfl, HB.trans (P3.below (by omega))⟩
    · have hil : i < 32 := by omega
      have hlt : ((i : Int) < 32) := by omega
      have hq8 : i / 4 < 8 := by omega
      obtain ⟨x, hx⟩ : ∃ x, s[i / 4]? = some x := ⟨_, List.getElem?_eq_getElem (by omega)⟩
      have lx := HX.out _ x hx
      have gx : (ints .u32 s)[i / 4]? = some (.int .u32 (x : Int)) := ints_get hx
      have KX : Kept (x < 4294967296) := ⟨lx⟩
      clear lx
      have l2 : i < (ints .u8 (mix L Z0 i)).size := by rw [ints_size, mix_len L _ i HL2.out, HZ.out]; exact hil
      go_wp2_with (first | (refine wl_elem rfl 26 ag_u32 (.tmp 11) rfl w.heap.size (i / 4) rfl (ints .u32 s) (.int .u32 (x : Int)) A0 gx ?_) | (refine wl_setElem rfl 5 sz_u8 (.tmp 19) (.tmp 18) rfl (w.heap.size + 1 + 1) i .u8 ((x : Int) / 2 ^ (24 - i % 4 * 8) % 256) rfl rfl _ A2 l2 ?_))
      obtain ⟨z, hz⟩ : ∃ z, z = x / 2 ^ (24 - i % 4 * 8) % 256 := ⟨_, rfl⟩
      have gz : L[i]? = some z := by rw [EL.out, hz]; exact bytesL_get s i x hil hx
      have ez : (x : Int) / 2 ^ (24 - i % 4 * 8) % 256 = (z : Int) := by rw [hz, Int.natCast_emod, Int.natCast_ediv, Int.natCast_pow]; rfl
      rw [ez]
      intro w4 A4 P4
      rw [ints_set, mix_set L _ i z HL2.out gz] at A4
      have A04 := P4.blk A0 (by omega)
      have A14 := P4.blk A1 (by omega)
      have HB4 := HB.trans (P4.below (by omega))
      clear A0 A1 A2 HB P4 gx hx hz gz l2
      go_wp2_with fail
      go_roundg (gk - 1)
      case measure => omega
      case rel => exact ⟨i + 1, by omega, by simp, HB4, A04, A14, A4⟩
end Go.Proofs.YtghinfdmkiaaiaaDoor.sh
