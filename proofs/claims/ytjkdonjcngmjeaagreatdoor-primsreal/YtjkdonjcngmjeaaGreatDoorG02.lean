/-
  General pieces, joined: SP Alloc Free SR.
-/
import Derived.Test.YtjkdonjcngmjeaaGreatDoorG01
import Derived.Below
/-
  Words: the first state, sums, their bytes.
-/
namespace Go.Proofs.YtjkdonjcngmjeaaGreatDoor.sh
open Go Go.RowKit
set_option linter.unusedVariables false
set_option linter.unusedSimpArgs false

/-- A row that is filled in order: the first i as they shall be, the others as they were. -/
def mix (L a : List Nat) (i : Nat) : List Nat := L.take i ++ a.drop i
theorem mix_zero (L a : List Nat) : mix L a 0 = a := by simp [mix]
theorem mix_all (L a : List Nat) (h : L.length = a.length) : mix L a a.length = L := by simp [mix, ← h]
theorem mix_len (L a : List Nat) (i : Nat) (h : L.length = a.length) : (mix L a i).length = a.length := by simp [mix]; omega
theorem mix_get (L a : List Nat) (i : Nat) (h : L.length = a.length) (hi : i < a.length) : (mix L a i)[i]? = a[i]? := by
  simp [mix, List.getElem?_append, h]
  rw [if_neg (by omega), Nat.min_eq_left (by omega)]
  simp
theorem mix_set (L a : List Nat) (i v : Nat) (h : L.length = a.length) (hi : L[i]? = some v) : (mix L a i).set i v = mix L a (i + 1) := by
  have hil : i < L.length := (List.getElem?_eq_some_iff.1 hi).1
  have e1 : (L.take i).length = i := by simp; omega
  unfold mix
  rw [List.set_append_right _ _ (by omega), e1, Nat.sub_self, List.take_add_one, hi, List.append_assoc]
  congr 1
  have e2 : a.drop i = a[i]'(by omega) :: a.drop (i + 1) := List.drop_eq_getElem_cons (by omega)
  rw [e2]
  rfl

def plusL (a b : List Nat) : List Nat := List.zipWith (fun x y => (x + y) % 4294967296) a b
theorem plusL_len (a b : List Nat) (h : a.length = b.length) : (plusL a b).length = a.length := by simp [plusL, h]
theorem plusL_get (a b : List Nat) (i x y : Nat) (hx : a[i]? = some x) (hy : b[i]? = some y) : (plusL a b)[i]? = some ((x + y) % 4294967296) := by simp [plusL, List.getElem?_zipWith, hx, hy]
theorem u32_info : (Tryz.prog.info? 74).map (·.size) = some 8 := by kernel_rfl

set_option maxHeartbeats 400000 in
theorem plus_any (a b : List Nat) (w : World) (ha : a.length = 8) (hb : b.length = 8) :
    Calls Tryz.prog 53 #[.agg (ints .u32 a), .agg (ints .u32 b)] w fun e w' => e = .returned (.agg (ints .u32 (plusL a b))) ∧ Below w.heap.size w w' := by
  obtain ⟨L, hL⟩ : ∃ L, L = plusL a b := ⟨_, rfl⟩
  rw [← hL]
  have EL : Kept _ := ⟨hL⟩
  have HL : Kept (L.length = a.length) := ⟨by rw [hL]; exact plusL_len a b (by omega)⟩
  clear hL
  go_enter Tryz.func53, Tryz.ntmps53
  go_wp2_with fail
  generalize hW : ((w.alloc (.cells (ints .u32 a) 74)).alloc (.cells (ints .u32 b) 74)).alloc (.cells #[.int .u32 0, .int .u32 0, .int .u32 0, .int .u32 0, .int .u32 0, .int .u32 0, .int .u32 0, .int .u32 0] 74) = W
  have B0 : Blk W w.heap.size 74 (ints .u32 (mix L a 0)) := by subst hW; rw [mix_zero]; exact ((blk_new w _ _).alloc _).alloc _
  have B1 : Blk W (w.heap.size + 1) 74 (ints .u32 b) := by subst hW; exact (blk_top _ _ _ _ (by simp)).alloc _
  have B2 : Blk W (w.heap.size + 2) 74 #[.int .u32 0, .int .u32 0, .int .u32 0, .int .u32 0, .int .u32 0, .int .u32 0, .int .u32 0, .int .u32 0] := by subst hW; exact blk_top _ _ _ _ (by simp)
  have QB : Below w.heap.size w W := by subst hW; exact (((Below.refl _ _).alloc (Nat.le_refl _) _).alloc (by simp) _).alloc (by simp; omega) _
  clear hW
  go_loopg [6] 8 (fun k s6 wr => ∃ i : Nat, i + k = 8 ∧ s6 = .int .i64 (i : Int) ∧ Below w.heap.size w wr ∧ Blk wr w.heap.size 74 (ints .u32 (mix L a i)) ∧ Blk wr (w.heap.size + 1) 74 (ints .u32 b) ∧ Blk wr (w.heap.size + 2) 74 #[.int .u32 0, .int .u32 0, .int .u32 0, .int .u32 0, .int .u32 0, .int .u32 0, .int .u32 0, .int .u32 0])
  case atStart => exact ⟨0, by omega, rfl, QB, B0, B1, B2⟩
  case round =>
    obtain ⟨i, hik, rfl, HB, A0, A1, A2⟩ := hrel
    clear QB B0 B1 B2
    by_cases hk0 : gk = 0
    · obtain rfl : i = 8 := by omega
      have e : mix L a 8 = L := by rw [← ha]; exact mix_all L a HL.out
      rw [e] at A0
      clear A1 e
      go_wp2_with (first | (refine wl_load rfl 74 (.tmp 2) rfl _ rfl (ints .u32 L) 8 72 Tryz.underlying74 (by rw [ints_size, HL.out, ha]; exact u32_info) A0 ?_) | (refine wl_store rfl 74 (.tmp 4) (.tmp 18) rfl _ (ints .u32 L) rfl rfl _ A2 (by rw [ints_size, HL.out, ha]; exact u32_info) (by rw [ints_size, HL.out, ha]; rfl) (ints_one _ _) ?_))
      intro w3 A3 P3
      go_wp2
      exact bodyPost_ret (v := .agg (ints .u32 L)) (results_cell_row Tryz.results53 _ _ _ 74 (ints .u32 L) (0, 0) _ rfl A3 Tryz.underlying74 rfl (by rw [ints_size, HL.out, ha]; exact u32_info)) rfl ⟨rfl, HB.trans (P3.below (by omega))⟩
    · have hil : i < 8 := by omega
      have hlt : ((i : Int) < 8) := by omega
      obtain ⟨x, hx⟩ : ∃ x, a[i]? = some x := ⟨_, List.getElem?_eq_getElem (by omega)⟩
      obtain ⟨y, hy⟩ : ∃ y, b[i]? = some y := ⟨_, List.getElem?_eq_getElem (by omega)⟩
      have gx : (ints .u32 (mix L a i))[i]? = some (.int .u32 (x : Int)) := ints_get (by rw [mix_get L a i HL.out (by omega)]; exact hx)
      have gy : (ints .u32 b)[i]? = some (.int .u32 (y : Int)) := ints_get hy
      obtain ⟨z, hz⟩ : ∃ z, z = (x + y) % 4294967296 := ⟨_, rfl⟩
      have gz : L[i]? = some z := by rw [EL.out, hz]; exact plusL_get a b i x y hx hy
      go_wp2_with fail
      refine wp_region_quiet_cut (C := fun w' => Below wr.heap.size wr w') 8 rfl (by kernel_rfl) (by kernel_rfl) (by kernel_rfl) (by kernel_rfl) (by kernel_rfl) (Below.drew (Below.refl _ _)) ?_
      dsimp only [List.take_succ_cons, List.take_zero]
      refine q_val (by kernel_rfl) (.int .i64 (i : Int)) (fun w' => by kernel_rfl) ?_
      simp only [Act.put, List.setIfInBounds_toArray, List.set_cons_succ, List.set_cons_zero]
      refine q_val (by kernel_rfl) (.pointer (some ⟨w.heap.size, i, none⟩)) (fun w' => ?ia) ?_
      case ia => simp [execOp, Act.eval, go_sem, hlt, hil]
      simp only [Act.put, List.setIfInBounds_toArray, List.set_cons_succ, List.set_cons_zero]
      refine q_elem (by kernel_rfl) 72 ag_u32 (.tmp 10) rfl (w.heap.size) i (by kernel_rfl) 74 (ints .u32 (mix L a i)) (.int .u32 (x : Int)) (fun w' hb => Blk.under A0 hb) gx ?_
      simp only [Act.put, List.setIfInBounds_toArray, List.set_cons_succ, List.set_cons_zero]
      refine q_val (by kernel_rfl) (.int .i64 (i : Int)) (fun w' => by kernel_rfl) ?_
      simp only [Act.put, List.setIfInBounds_toArray, List.set_cons_succ, List.set_cons_zero]
      refine q_val (by kernel_rfl) (.pointer (some ⟨w.heap.size + 1, i, none⟩)) (fun w' => ?ia) ?_
      case ia => simp [execOp, Act.eval, go_sem, hlt, hil]
      simp only [Act.put, List.setIfInBounds_toArray, List.set_cons_succ, List.set_cons_zero]
      refine q_elem (by kernel_rfl) 72 ag_u32 (.tmp 13) rfl (w.heap.size + 1) i (by kernel_rfl) 74 (ints .u32 b) (.int .u32 (y : Int)) (fun w' hb => Blk.under A1 hb) gy ?_
      simp only [Act.put, List.setIfInBounds_toArray, List.set_cons_succ, List.set_cons_zero]
      refine q_val (by kernel_rfl) (.int .u32 (z : Int)) (fun w' => ?ad) ?_
      case ad =>
        simp [execOp, Act.eval, go_sem, IntKind.wrap_u32']
        omega
      simp only [Act.put, List.setIfInBounds_toArray, List.set_cons_succ, List.set_cons_zero]
      refine q_val (by kernel_rfl) (.pointer (some ⟨w.heap.size, i, none⟩)) (fun w' => ?ia) ?_
      case ia => simp [execOp, Act.eval, go_sem, hlt, hil]
      simp only [Act.put, List.setIfInBounds_toArray, List.set_cons_succ, List.set_cons_zero]
      refine wpQuiet_nil ?_
      intro w3 hw3
      have A0' := A0.under hw3
      have A1' := A1.under hw3
      have A2' := A2.under hw3
      have HB' := HB.trans (hw3.mono HB.size)
      refine wl_setElem rfl 72 sz_u32 (.tmp 16) (.tmp 15) rfl w.heap.size i .u32 (z : Int) (by kernel_rfl) (by kernel_rfl) _ A0' (by rw [ints_size, mix_len L a i HL.out]; omega) ?_
      intro w4 A4 P4
      rw [ints_set, mix_set L a i z HL.out gz] at A4
      have A14 := P4.blk A1' (by omega)
      have A24 := P4.blk A2' (by omega)
      have HB4 := HB'.trans (P4.below (Nat.le_refl _))
      clear A0 A1 A2 HB hw3 A0' A1' A2' HB' P4 gx gy hx hy hz gz
      go_wp2_with fail
      go_roundg (gk - 1)
      case measure => omega
      case rel => exact ⟨i + 1, by omega, by simp, HB4, A4, A14, A24⟩

def firstL : List Nat := [1779033703, 3144134277, 1013904242, 2773480762, 1359893119, 2600822924, 528734635, 1541459225]
set_option maxHeartbeats 400000 in
theorem first_any (w : World) : Calls Tryz.prog 54 #[] w fun e w' => e = .returned (.agg (ints .u32 firstL)) ∧ Below w.heap.size w w' := by
  go_enter Tryz.func54, Tryz.ntmps54
  go_wp2_with (first | (refine wl_at (d := 1) rfl rfl (.agg (ints .u32 firstL)) ?h1 ?_; (case h1 => kernel_rfl); simp only [Act.put, List.setIfInBounds_toArray, List.set_cons_succ, List.set_cons_zero]) | (refine wl_store rfl 74 (.tmp 0) (.tmp 1) rfl _ (ints .u32 firstL) rfl rfl _ (blk_new w _ _) (by rw [ints_size]; exact u32_info) (by rw [ints_size]; rfl) (ints_one _ _) ?_))
  intro w3 A3 P3
  go_wp2
  exact bodyPost_ret (v := .agg (ints .u32 firstL)) (results_cell_row Tryz.results54 _ _ _ 74 (ints .u32 firstL) (0, 0) _ rfl A3 Tryz.underlying74 rfl (by rw [ints_size]; exact u32_info)) rfl ⟨rfl, ((Below.refl _ _).alloc (Nat.le_refl _) _).trans (P3.below (Nat.le_refl _))⟩

/-- The words one behind the other, the highest byte of each first. -/
def bytesL (s : List Nat) : List Nat := (List.range 32).map fun i => s.getD (i / 4) 0 / 2 ^ (24 - i % 4 * 8) % 256
theorem bytesL_len (s : List Nat) : (bytesL s).length = 32 := by simp [bytesL]
theorem bytesL_get (s : List Nat) (i x : Nat) (hi : i < 32) (hx : s[i / 4]? = some x) : (bytesL s)[i]? = some (x / 2 ^ (24 - i % 4 * 8) % 256) := by
  simp [bytesL, hi, hx]
theorem t32_info : (Tryz.prog.info? 30).map (·.size) = some 32 := by kernel_rfl
theorem zero32 : (#[.int .u8 0, .int .u8 0, .int .u8 0, .int .u8 0, .int .u8 0, .int .u8 0, .int .u8 0, .int .u8 0, .int .u8 0, .int .u8 0, .int .u8 0, .int .u8 0, .int .u8 0, .int .u8 0, .int .u8 0, .int .u8 0, .int .u8 0, .int .u8 0, .int .u8 0, .int .u8 0, .int .u8 0, .int .u8 0, .int .u8 0, .int .u8 0, .int .u8 0, .int .u8 0, .int .u8 0, .int .u8 0, .int .u8 0, .int .u8 0, .int .u8 0, .int .u8 0] : Array Value) = ints .u8 (List.replicate 32 0) := by kernel_rfl

set_option maxHeartbeats 1000000 in
theorem bytes_any (s : List Nat) (w : World) (hs : s.length = 8) (hlt : ∀ (i x : Nat), s[i]? = some x → x < 4294967296) :
    Calls Tryz.prog 57 #[.agg (ints .u32 s)] w fun e w' => e = .returned (.agg (ints .u8 (bytesL s))) ∧ Below w.heap.size w w' := by
  obtain ⟨L, hL⟩ : ∃ L, L = bytesL s := ⟨_, rfl⟩
  rw [← hL]
  have EL : Kept _ := ⟨hL⟩
  have HL : Kept (L.length = 32) := ⟨by rw [hL]; exact bytesL_len s⟩
  obtain ⟨Z0, hZ⟩ : ∃ Z0, Z0 = List.replicate 32 0 := ⟨_, rfl⟩
  have EZ : Kept _ := ⟨hZ⟩
  have HL2 : Kept (L.length = Z0.length) := ⟨by rw [HL.out, hZ]; rfl⟩
  have HZ : Kept (Z0.length = 32) := ⟨by rw [hZ]; rfl⟩
  clear hZ
  have HX : Kept _ := ⟨hlt⟩
  clear hL hlt
  go_enter Tryz.func57, Tryz.ntmps57
  go_wp2_with fail
  generalize hW : ((w.alloc (.cells (ints .u32 s) 74)).alloc (.cells #[.int .u8 0, .int .u8 0, .int .u8 0, .int .u8 0, .int .u8 0, .int .u8 0, .int .u8 0, .int .u8 0, .int .u8 0, .int .u8 0, .int .u8 0, .int .u8 0, .int .u8 0, .int .u8 0, .int .u8 0, .int .u8 0, .int .u8 0, .int .u8 0, .int .u8 0, .int .u8 0, .int .u8 0, .int .u8 0, .int .u8 0, .int .u8 0, .int .u8 0, .int .u8 0, .int .u8 0, .int .u8 0, .int .u8 0, .int .u8 0, .int .u8 0, .int .u8 0] 30)).alloc (.cells #[.int .u8 0, .int .u8 0, .int .u8 0, .int .u8 0, .int .u8 0, .int .u8 0, .int .u8 0, .int .u8 0, .int .u8 0, .int .u8 0, .int .u8 0, .int .u8 0, .int .u8 0, .int .u8 0, .int .u8 0, .int .u8 0, .int .u8 0, .int .u8 0, .int .u8 0, .int .u8 0, .int .u8 0, .int .u8 0, .int .u8 0, .int .u8 0, .int .u8 0, .int .u8 0, .int .u8 0, .int .u8 0, .int .u8 0, .int .u8 0, .int .u8 0, .int .u8 0] 30) = W
  have B0 : Blk W w.heap.size 74 (ints .u32 s) := by subst hW; exact ((blk_new w _ _).alloc _).alloc _
  have B1 : Blk W (w.heap.size + 1) 30 #[.int .u8 0, .int .u8 0, .int .u8 0, .int .u8 0, .int .u8 0, .int .u8 0, .int .u8 0, .int .u8 0, .int .u8 0, .int .u8 0, .int .u8 0, .int .u8 0, .int .u8 0, .int .u8 0, .int .u8 0, .int .u8 0, .int .u8 0, .int .u8 0, .int .u8 0, .int .u8 0, .int .u8 0, .int .u8 0, .int .u8 0, .int .u8 0, .int .u8 0, .int .u8 0, .int .u8 0, .int .u8 0, .int .u8 0, .int .u8 0, .int .u8 0, .int .u8 0] := by subst hW; exact (blk_top _ _ _ _ (by simp)).alloc _
  have B2 : Blk W (w.heap.size + 2) 30 (ints .u8 (mix L Z0 0)) := by subst hW; rw [mix_zero, EZ.out, ← zero32]; exact blk_top _ _ _ _ (by simp)
  have QB : Below w.heap.size w W := by subst hW; exact (((Below.refl _ _).alloc (Nat.le_refl _) _).alloc (by simp) _).alloc (by simp; omega) _
  clear hW
  go_loopg [5] 32 (fun k s5 wr => ∃ i : Nat, i + k = 32 ∧ s5 = .int .i64 (i : Int) ∧ Below w.heap.size w wr ∧ Blk wr w.heap.size 74 (ints .u32 s) ∧ Blk wr (w.heap.size + 1) 30 #[.int .u8 0, .int .u8 0, .int .u8 0, .int .u8 0, .int .u8 0, .int .u8 0, .int .u8 0, .int .u8 0, .int .u8 0, .int .u8 0, .int .u8 0, .int .u8 0, .int .u8 0, .int .u8 0, .int .u8 0, .int .u8 0, .int .u8 0, .int .u8 0, .int .u8 0, .int .u8 0, .int .u8 0, .int .u8 0, .int .u8 0, .int .u8 0, .int .u8 0, .int .u8 0, .int .u8 0, .int .u8 0, .int .u8 0, .int .u8 0, .int .u8 0, .int .u8 0] ∧ Blk wr (w.heap.size + 2) 30 (ints .u8 (mix L Z0 i)))
  case atStart => exact ⟨0, by omega, rfl, QB, B0, B1, B2⟩
  case round =>
    obtain ⟨i, hik, rfl, HB, A0, A1, A2⟩ := hrel
    clear QB B0 B1 B2
    by_cases hk0 : gk = 0
    · obtain rfl : i = 32 := by omega
      have e : mix L Z0 32 = L := by rw [← HZ.out]; exact mix_all L Z0 HL2.out
      rw [e] at A2
      clear A0 e
      go_wp2_with (first | (refine wl_load rfl 30 (.tmp 3) rfl _ rfl (ints .u8 L) 32 5 Tryz.underlying30 (by rw [ints_size, HL.out]; exact t32_info) A2 ?_) | (refine wl_store rfl 30 (.tmp 2) (.tmp 21) rfl _ (ints .u8 L) rfl rfl _ A1 (by rw [ints_size, HL.out]; exact t32_info) (by rw [ints_size, HL.out]; rfl) (ints_one _ _) ?_))
      intro w3 A3 P3
      go_wp2
      exact bodyPost_ret (v := .agg (ints .u8 L)) (results_cell_row Tryz.results57 _ _ _ 30 (ints .u8 L) (0, 0) _ rfl A3 Tryz.underlying30 rfl (by rw [ints_size, HL.out]; exact t32_info)) rfl ⟨rfl, HB.trans (P3.below (by omega))⟩
    · have hil : i < 32 := by omega
      have hlt : ((i : Int) < 32) := by omega
      have hq8 : i / 4 < 8 := by omega
      obtain ⟨x, hx⟩ : ∃ x, s[i / 4]? = some x := ⟨_, List.getElem?_eq_getElem (by omega)⟩
      have lx := HX.out _ x hx
      have gx : (ints .u32 s)[i / 4]? = some (.int .u32 (x : Int)) := ints_get hx
      have KX : Kept (x < 4294967296) := ⟨lx⟩
      clear lx
      have l2 : i < (ints .u8 (mix L Z0 i)).size := by rw [ints_size, mix_len L _ i HL2.out, HZ.out]; exact hil
      go_wp2_with (first | (refine wl_elem rfl 72 ag_u32 (.tmp 11) rfl w.heap.size (i / 4) rfl (ints .u32 s) (.int .u32 (x : Int)) A0 gx ?_) | (refine wl_setElem rfl 5 sz_u8 (.tmp 19) (.tmp 18) rfl (w.heap.size + 1 + 1) i .u8 ((x : Int) / 2 ^ (24 - i % 4 * 8) % 256) rfl rfl _ A2 l2 ?_))
      obtain ⟨z, hz⟩ : ∃ z, z = x / 2 ^ (24 - i % 4 * 8) % 256 := ⟨_, rfl⟩
      have gz : L[i]? = some z := by rw [EL.out, hz]; exact bytesL_get s i x hil hx
      have ez : (x : Int) / 2 ^ (24 - i % 4 * 8) % 256 = (z : Int) := by rw [hz, Int.natCast_emod, Int.natCast_ediv, Int.natCast_pow]; rfl
      rw [ez]
      intro w4 A4 P4
      rw [ints_set, mix_set L _ i z HL2.out gz] at A4
      have A04 := P4.blk A0 (by omega)
      have A14 := P4.blk A1 (by omega)
      have HB4 := HB.trans (P4.below (by omega))
      clear A0 A1 A2 HB P4 gx hx hz gz l2
      go_wp2_with fail
      go_roundg (gk - 1)
      case measure => omega
      case rel => exact ⟨i + 1, by omega, by simp, HB4, A04, A14, A4⟩
end Go.Proofs.YtjkdonjcngmjeaaGreatDoor.sh
/-
  A region that draws its order and makes one block besides: its first operations only read, or call what makes memory alone; then comes an operation that makes a block, whenever it likes; the last ones wait for all of these.
-/
namespace Go.Proofs.YtjkdonjcngmjeaaGreatDoor
open Go Go.RowKit
set_option linter.unusedVariables false
set_option linter.unusedSimpArgs false

section
variable {P : Program} {Q : Exit → Act → World → Prop} {h t : List Oper} {al : Oper} {A : Act}

def dstsApart (h : List Oper) (n : Nat) : Bool := h.zipIdx.all fun (o, i) => h.zipIdx.all fun (o', j) => decide (i = j) || (match o.dst, o'.dst with | some d, some d' => decide (d ≠ d') | _, _ => true)
def dstsIn (h : List Oper) (n : Nat) : Bool := h.all fun o => match o.dst with | some d => decide (d < n) | none => true

theorem dst_ne (hb : dstsApart h 0 = true) {i j : Nat} {o o' : Oper} (hi : h[i]? = some o) (hj : h[j]? = some o') (hij : i ≠ j) {d : Nat} (hd : o.dst = some d) : o'.dst ≠ some d := by
  have h1 := List.all_eq_true.1 hb (o, i) (by rw [List.mem_zipIdx_iff_getElem?]; exact hi)
  have h2 := List.all_eq_true.1 h1 (o', j) (by rw [List.mem_zipIdx_iff_getElem?]; exact hj)
  intro h3
  simp [hij, hd, h3] at h2

/-- What the region makes, seen from the operation: a block behind all others, a pointer to it. -/
def Makes (P : Program) (al : Oper) (o : Obj) : Prop := ∀ (a : Act) (w : World), (execOp a.eval al).run P w = .ok (.value (.pointer (some ⟨w.heap.size, 0, none⟩))) (w.alloc o)

theorem size_put (a : Act) (d : Option Tmp) (v : Value) : (a.put d v).tmps.size = a.tmps.size := by
  cases d <;> simp [Act.put]

theorem setp {listed : Array Bool} {m i : Nat} (b : Bool) (hi : i < listed.size) : (listed.push b ++ Array.replicate m false).setIfInBounds i true = (listed.setIfInBounds i true).push b ++ Array.replicate m false := by
  rw [set_app (by simp; omega)]
  congr 1
  apply Array.ext_getElem?
  intro k
  rw [Array.getElem?_setIfInBounds, Array.getElem?_push, Array.getElem?_push, Array.getElem?_setIfInBounds]
  have h1 : (listed.setIfInBounds i true).size = listed.size := by simp
  rw [h1]
  by_cases hik : i = k
  · subst hik
    rw [if_pos rfl, if_pos (by simp; omega), if_neg (by omega), if_pos rfl, if_pos hi]
  · rw [if_neg hik]
    by_cases hk : k = listed.size
    · rw [if_pos hk, if_pos hk]
    · rw [if_neg hk, if_neg hk, if_neg hik]
end
end Go.Proofs.YtjkdonjcngmjeaaGreatDoor
/-
  A region that draws its order: its first operations only read, or call what makes memory alone; then come such as wait, one through another, for all of these, and are forced among themselves; the last one (a constant is moved) waits for nothing and nobody waits for it.
-/
namespace Go.Proofs.YtjkdonjcngmjeaaGreatDoor
open Go Go.RowKit
set_option linter.unusedVariables false
set_option linter.unusedSimpArgs false

section
variable {P : Program} {Q : Exit → Act → World → Prop} {l h t : List Oper} {m : Oper} {v : Value}

theorem gn {listed : Array Bool} (b d : Bool) : (listed.push b).getD listed.size d = b := by
  simp
theorem sp {listed : Array Bool} {i : Nat} (b : Bool) (hi : i < listed.size) : (listed.push b).setIfInBounds i true = (listed.setIfInBounds i true).push b := by
  have := setp (m := 0) (listed := listed) b hi
  simpa using this
/-- What the named ones wait for, one through another. -/
def under (h : List Oper) : Nat → List Nat → List Nat
  | 0, s => s
  | f + 1, s => s ++ under h f (s.flatMap fun i => match h[i]? with | some o => (o.after.toList.filter (Region.binds .any)).map (·.on) | none => [])

def Closed (h : List Oper) (listed : Array Bool) : Prop := ∀ i o, h[i]? = some o → listed.getD i false = true → ∀ e ∈ o.after, Region.binds .any e = true → listed.getD e.on false = true

theorem under_listed {listed : Array Bool} (hc : Closed h listed) : ∀ (f : Nat) (s : List Nat), (∀ j ∈ s, listed.getD j false = true) → ∀ j ∈ under h f s, listed.getD j false = true
  | 0, s, hs, j, hj => hs j hj
  | f + 1, s, hs, j, hj => by
    rcases List.mem_append.1 hj with h1 | h1
    · exact hs j h1
    · refine under_listed hc f _ ?_ j h1
      intro k hk
      obtain ⟨i, hi, hk'⟩ := List.mem_flatMap.1 hk
      cases ho : h[i]? with
      | none => simp [ho] at hk'
      | some o =>
        simp only [ho] at hk'
        obtain ⟨e, he, rfl⟩ := List.mem_map.1 hk'
        obtain ⟨he1, he2⟩ := List.mem_filter.1 he
        exact hc i o ho (hs i hi) e (by simpa using he1) he2

theorem closed_set {listed : Array Bool} {i : Nat} {o : Oper} (hc : Closed h listed) (ho : h[i]? = some o) (hall : ∀ e ∈ o.after, Region.binds .any e = true → listed.getD e.on false = true) : Closed h (listed.setIfInBounds i true) := by
  intro j o' ho' hl e he hb
  by_cases hij : i = j
  · subst hij
    rw [ho] at ho'
    obtain rfl := Option.some.inj ho'
    exact getD_set_true (hall e he hb)
  · rw [getD_set_ne false hij] at hl
    exact getD_set_true (hc j o' ho' hl e he hb)

/-- Each of the tail waits for another of the tail, or, one through another, for all of the head. -/
def tailUnder (h t : List Oper) : Bool := t.all fun o => (o.after.any fun e => Region.binds .any e && decide (h.length ≤ e.on)) ||
  (List.range h.length).all fun j => (under h h.length ((o.after.toList.filter (Region.binds .any)).map (·.on))).contains j

theorem app_ge {listed : Array Bool} {n j : Nat} (hj : listed.size ≤ j) : (listed ++ Array.replicate n false).getD j false = false := by
  rw [Array.getD_eq_getD_getElem?, Array.getElem?_append_right hj, Array.getElem?_replicate]
  split <;> rfl

theorem lift_under (hE : edgesIn h = true) (hG : guardsIn h = true) (hT : tailUnder h t = true)
    (hS : Region.seqB .any (h ++ t).toArray t.length h.length (Array.replicate h.length true ++ Array.replicate t.length false) = true) :
    ∀ (f : Nat) (listed : Array Bool) (a : Act) (w : World), listed.size = h.length → open_ listed = f → Closed h listed →
      wpAny P .any h.toArray (headPost P (h ++ t).toArray Q t) f listed a w → wpAny P .any (h ++ t).toArray Q (f + t.length) (listed ++ Array.replicate t.length false) a w := by
  intro f
  induction f with
  | zero =>
    intro listed a w hs ho hc H
    have e := all_true ho
    rw [hs] at e
    rw [Nat.zero_add, e]
    exact wpAny_of_seq t h.length _ a w (fun j => by rw [List.getElem?_toArray, List.getElem?_append_right (by omega), Nat.add_sub_cancel_left]) hS H.2
  | succ f ih =>
    intro listed a w hs ho hc H
    obtain ⟨i0, hi0, hlow⟩ := least_open (listed := listed) (by omega)
    have hi0s : i0 < listed.size := by
      rcases Nat.lt_or_ge i0 listed.size with h' | h'
      · exact h'
      · simp [Array.getElem?_eq_none h'] at hi0
    rw [show f + 1 + t.length = (f + t.length) + 1 by omega]
    refine ⟨fun h0 => ?_, fun i hi => ?_⟩
    · have : i0 ∈ Region.ready .any (h ++ t).toArray (listed ++ Array.replicate t.length false) := by
        rw [mem_ready]
        have hih : i0 < h.length := by omega
        refine ⟨by rw [getD_app true hi0s]; exact hi0, h[i0], by simp [List.getElem?_append_left hih], fun e he hb => ?_⟩
        have := edge_lt hE (List.getElem?_eq_getElem hih) he hb
        rw [getD_app false (by omega)]
        exact hlow _ this
      rw [h0] at this
      cases this
    · obtain ⟨hun, o, hoo, hall⟩ := mem_ready.1 hi
      have hih : i < h.length := by
        rcases Nat.lt_or_ge i h.length with h' | h'
        · exact h'
        · exfalso
          have hot : o ∈ t := by
            simp [List.getElem?_append_right h'] at hoo
            exact List.mem_of_getElem? hoo
          have hseed : ∀ e ∈ o.after, Region.binds .any e = true → e.on < listed.size ∧ listed.getD e.on false = true := by
            intro e he hb
            have h2 := hall e he hb
            rcases Nat.lt_or_ge e.on listed.size with h3 | h3
            · exact ⟨h3, by rwa [getD_app false h3] at h2⟩
            · rw [app_ge h3] at h2; cases h2
          have h1 := List.all_eq_true.1 hT o hot
          rcases Bool.or_eq_true_iff.1 h1 with h1 | h1
          · obtain ⟨e, he, hbe⟩ := Array.any_eq_true'.1 h1
            simp only [Bool.and_eq_true, decide_eq_true_eq] at hbe
            have := (hseed e he hbe.1).1
            omega
          · have h2 := List.all_eq_true.1 h1 i0 (List.mem_range.2 (by omega))
            have h3 := under_listed hc h.length ((o.after.toList.filter (Region.binds .any)).map (·.on)) (fun j hj => by
              obtain ⟨e, he, rfl⟩ := List.mem_map.1 hj
              obtain ⟨he1, he2⟩ := List.mem_filter.1 he
              exact (hseed e (by simpa using he1) he2).2) i0 (by simpa using h2)
            simp [hi0s] at hi0 h3
            rw [hi0] at h3
            cases h3
      have hoh : h[i]? = some o := by simpa [List.getElem?_append_left hih] using hoo
      have hun' : listed.getD i true = false := by rw [getD_app true (by omega)] at hun; exact hun
      have hall' : ∀ e ∈ o.after, Region.binds .any e = true → listed.getD e.on false = true := fun e he hb => by
        have hlt := edge_lt hE hoh he hb
        have := hall e he hb
        rwa [getD_app false (by omega)] at this
      have hr : i ∈ Region.ready .any h.toArray listed := by
        rw [mem_ready]
        exact ⟨hun', o, by simpa using hoh, hall'⟩
      have H1 := H.2 i hr
      have hK : ∀ a' w', wpAny P .any h.toArray (headPost P (h ++ t).toArray Q t) f (listed.setIfInBounds i true) a' w' → wpAny P .any (h ++ t).toArray Q (f + t.length) ((listed ++ Array.replicate t.length false).setIfInBounds i true) a' w' := by
        intro a' w' hh
        rw [set_app (by omega)]
        exact ih _ a' w' (by simpa using hs) (by have := open_set hun'; omega) (closed_set hc hoh hall') hh
      unfold wpOp at H1 ⊢
      have ho' : h.toArray[i]? = some o := by simpa using hoh
      simp only [hoo, ho'] at H1 ⊢
      rw [wanted_head hG (List.mem_of_getElem? hoh)]
      split
      · rename_i hw
        simp only [hw, if_true] at H1
        rcases H1 with H1 | ⟨h1, h2⟩
        · exact .inl (upon_headPost hK H1)
        · exact .inr ⟨h1, h2⟩
      · rename_i hw
        simp only [hw] at H1
        exact hK _ _ H1

end
end Go.Proofs.YtjkdonjcngmjeaaGreatDoor
/-
  Regions that draw their order: a quiet head and a tail that waits for it, one through another; and heads whose values are known by what holds of them alone (fresh slices among them).
-/
namespace Go.Proofs.YtjkdonjcngmjeaaGreatDoor.sh
open Go Go.RowKit
set_option linter.unusedVariables false
set_option linter.unusedSimpArgs false

theorem closed_none (h : List Oper) : Closed h (Array.replicate h.length false) := by
  intro i o ho hl
  exfalso
  rw [Array.getD_eq_getD_getElem?, Array.getElem?_replicate] at hl
  split at hl <;> simp at hl

/-- One walk of the head in the order of the text, then the tail, which waits for all of the head, one through another. -/
theorem wp_region_quiet_under {P : Program} {Q : Exit → Act → World → Prop} {id : Nat} {C : World → Prop} {a : Act} {w : World} (n : Nat) {l : List Oper} (hm : P.follows .mixedOrders = true) (hB : Region.lexB .any (l.take n).toArray = true)
    (hE : edgesIn (l.take n) = true) (hG : guardsIn (l.take n) = true) (hT : tailUnder (l.take n) (l.drop n) = true)
    (hS : Region.seqB .any l.toArray (l.drop n).length (l.take n).length (Array.replicate (l.take n).length true ++ Array.replicate (l.drop n).length false) = true)
    (hC : C { w with drawn := w.drawn + 1 })
    (H : wpQuiet P (l.take n).toArray C (fun a' => ∀ w', C w' → wpList P l.toArray Q (l.drop n) a' w') (l.take n) a) : (Code.region id l.toArray true).wp P Q a w := by
  have e : l.take n ++ l.drop n = l := List.take_append_drop n l
  refine wp_region_any hm ?_
  simp only [Region.lexB, Bool.and_eq_true] at hB
  have h1 := wpAnyQ_lex (P := P) (C := C) (md := .any) hB.1 (l.take n) 0 (Array.replicate (l.take n).length false) a (by simp) (by simpa using hB.2) H
  have h2 := wpAny_of_quiet (Q' := headPost P (l.take n ++ l.drop n).toArray Q (l.drop n)) (fun _ w' hw' hh => by rw [e]; exact hh w' hw') _ _ _ _ hC h1
  have h3 := lift_under (Q := Q) hE hG hT (by rw [e]; exact hS) (l.take n).length (Array.replicate (l.take n).length false) a _ (by simp) (by simp [open_]) (closed_none _) h2
  rw [e] at h3
  have e1 : l.toArray.size = (l.take n).length + (l.drop n).length := by rw [← List.length_append, e]; simp
  rw [e1, show Array.replicate ((l.take n).length + (l.drop n).length) false = Array.replicate (l.take n).length false ++ Array.replicate (l.drop n).length false by simp]
  exact h3

/-- An invariant of what is listed, the frame and the world carries any order. -/
theorem wpAny_inv {P : Program} {Q : Exit → Act → World → Prop} {l : List Oper} (I : Array Bool → Act → World → Prop) (hE : edgesIn l = true)
    (hstep : ∀ listed a w i o, listed.size = l.length → I listed a w → l[i]? = some o → listed.getD i true = false → (∀ e ∈ o.after, Region.binds .any e = true → listed.getD e.on false = true) →
      Region.wanted o (yielded l.toArray a.tmps) = true ∧ o.wp P a w (fun a' w' => I (listed.setIfInBounds i true) a' w') Q)
    (hdone : ∀ a w, I (Array.replicate l.length true) a w → Q .normal a w) :
    ∀ (fuel : Nat) (listed : Array Bool) (a : Act) (w : World), listed.size = l.length → open_ listed = fuel → I listed a w → wpAny P .any l.toArray Q fuel listed a w
  | 0, listed, a, w, hs, ho, hI => by
    have ha := all_true ho
    rw [hs] at ha
    refine ⟨?_, hdone a w (by rw [← ha]; exact hI)⟩
    rw [List.eq_nil_iff_forall_not_mem]
    intro j hj
    obtain ⟨h1, o, h2, _⟩ := mem_ready.1 hj
    have hl : j < l.length := by
      have := (Array.getElem?_eq_some_iff.1 h2).1
      simpa using this
    rw [ha] at h1
    simp [hl] at h1
  | f + 1, listed, a, w, hs, ho, hI => by
    refine ⟨fun hr => ?_, fun i hi => ?_⟩
    · obtain ⟨i, h1, h2⟩ := least_open (listed := listed) (by omega)
      have hil : i < l.length := by
        rcases Nat.lt_or_ge i l.length with h' | h'
        · exact h'
        · have : listed.size ≤ i := by omega
          simp [Array.getElem?_eq_none this] at h1
      have hm : i ∈ Region.ready .any l.toArray listed := mem_ready.2 ⟨h1, l[i], by simp [hil], fun e he hb => h2 _ (edge_lt hE (List.getElem?_eq_getElem hil) he hb)⟩
      rw [hr] at hm
      cases hm
    · obtain ⟨h1, o, h2, h3⟩ := mem_ready.1 hi
      have h2' : l[i]? = some o := by simpa using h2
      obtain ⟨hw, hwp⟩ := hstep listed a w i o hs hI h2' h1 h3
      unfold wpOp
      simp only [h2, hw, if_true]
      left
      refine Oper.wp_mono (fun a' w' h => ?_) hwp
      exact wpAny_inv I hE hstep hdone f _ a' w' (by simpa using hs) (by have := open_set h1; omega) h

structure Fr (h : List Oper) (A0 a : Act) : Prop where
  size : a.tmps.size = A0.tmps.size
  defers : a.defers = A0.defers
  out : ∀ d, (∀ (i : Nat) (o : Oper), h[i]? = some o → o.dst ≠ some d) → a.tmps[d]? = A0.tmps[d]?

/-- What the operation waits for is there, and what is asked of it holds. -/
def Got (h : List Oper) (R : Nat → Value → World → Prop) (a : Act) (w : World) (o : Oper) : Prop := ∀ e ∈ o.after, Region.binds .any e = true → ∀ (o' : Oper) (d : Nat), h[e.on]? = some o' → o'.dst = some d → ∃ v, a.tmps[d]? = some v ∧ R d v w

/-- What is asked of each operation. -/
def RelOk (P : Program) (h : List Oper) (A0 : Act) (W0 : World) (R : Nat → Value → World → Prop) (o : Oper) : Prop := ∃ d, o.dst = some d ∧ ∀ a w, Fr h A0 a → Below W0.heap.size W0 w → Got h R a w o →
  Region.wanted o (yielded h.toArray a.tmps) = true ∧ o.wp P a w (fun a' w' => ∃ v, a' = a.put (some d) v ∧ R d v w' ∧ Below w.heap.size w w') (fun _ _ _ => False)
def RelAll (P : Program) (h : List Oper) (A0 : Act) (W0 : World) (R : Nat → Value → World → Prop) : List Oper → Prop
  | [] => True
  | o :: r => RelOk P h A0 W0 R o ∧ RelAll P h A0 W0 R r
theorem relAll_mem {P : Program} {h : List Oper} {A0 : Act} {W0 : World} {R : Nat → Value → World → Prop} : ∀ (r : List Oper), RelAll P h A0 W0 R r → ∀ o ∈ r, RelOk P h A0 W0 R o
  | [], _, o, ho => by cases ho
  | x :: r, hr, o, ho => by
    rcases List.mem_cons.1 ho with h1 | h1
    · rw [h1]; exact hr.1
    · exact relAll_mem r hr.2 o h1

theorem wp_false {P : Program} {o : Oper} {a : Act} {w : World} {K K' : Act → World → Prop} {Q : Exit → Act → World → Prop} (hK : ∀ a w, K a w → K' a w) (h : o.wp P a w K (fun _ _ _ => False)) : o.wp P a w K' Q := by
  unfold Oper.wp at *
  generalize (execOp a.eval o).run P w = r at *
  cases r with
  | ok x w' =>
    cases x with
    | value v => exact hK _ _ h
    | skip => exact hK _ _ h
    | defer d => exact hK _ _ h
    | enter f args =>
      refine Calls.mono h ?_
      intro e w'' hr
      cases e with
      | returned v => exact hK _ _ hr
      | panicked c => exact hr.elim
      | outgrown => obtain ⟨_, _, h⟩ := hr; exact h.elim
    | row r args => exact Rows.mono h fun v w'' hr => hK _ _ hr
    | _ => exact h.elim
  | halt x w' =>
    cases x <;> exact h.elim

def putR (a : Act) (vals : List (Nat × Value)) : Act := vals.foldl (fun a p => a.put (some p.1) p.2) a
theorem putR_size : ∀ (vals : List (Nat × Value)) (a : Act), (putR a vals).tmps.size = a.tmps.size
  | [], a => rfl
  | p :: r, a => by show (putR (a.put (some p.1) p.2) r).tmps.size = _; rw [putR_size r, size_put]
theorem putR_defers : ∀ (vals : List (Nat × Value)) (a : Act), (putR a vals).defers = a.defers
  | [], a => rfl
  | p :: r, a => by show (putR (a.put (some p.1) p.2) r).defers = _; rw [putR_defers r]; rfl
theorem putR_get (f : Nat → Value) (d : Nat) : ∀ (ds : List Nat) (a : Act), d < a.tmps.size → (putR a (ds.map fun d => (d, f d))).tmps[d]? = if d ∈ ds then some (f d) else a.tmps[d]?
  | [], a, _ => by simp [putR]
  | x :: r, a, h => by
    show (putR (a.put (some x) (f x)) (r.map fun d => (d, f d))).tmps[d]? = _
    rw [putR_get f d r _ (by rw [size_put]; exact h)]
    by_cases h1 : d ∈ r
    · rw [if_pos h1, if_pos (List.mem_cons_of_mem _ h1)]
    · rw [if_neg h1]
      by_cases h2 : d = x
      · subst h2
        rw [if_pos List.mem_cons_self]
        simp [Act.put, h]
      · rw [if_neg (by simp [h1, h2])]
        simp [Act.put, Array.getElem?_setIfInBounds_ne (Ne.symm h2)]
theorem act_eq {a b : Act} (h1 : a.tmps = b.tmps) (h2 : a.defers = b.defers) : a = b := by cases a; cases b; simp_all

def dstsOf (h : List Oper) : List Nat := h.filterMap (·.dst)

/-- A region that draws its order, whose first n operations each make a value of which something holds, and whose last ones wait for all of those. -/
theorem region_rel {P : Program} {Q : Exit → Act → World → Prop} {id : Nat} {a : Act} {w : World} (W0 : World) (n : Nat) {l : List Oper} (R : Nat → Value → World → Prop) (ds : List Nat) (hm : P.follows .mixedOrders = true)
    (hE : edgesIn (l.take n) = true) (hG : guardsIn (l.take n) = true) (hA : dstsApart (l.take n) 0 = true) (hI : dstsIn (l.take n) a.tmps.size = true) (hT : tailUnder (l.take n) (l.drop n) = true)
    (hS : Region.seqB .any l.toArray (l.drop n).length (l.take n).length (Array.replicate (l.take n).length true ++ Array.replicate (l.drop n).length false) = true)
    (hds : dstsOf (l.take n) = ds) (hst : ∀ d v w w', R d v w → Below W0.heap.size W0 w → Below w.heap.size w w' → R d v w') (hw : Below W0.heap.size W0 w)
    (hok : RelAll P (l.take n) a W0 R (l.take n))
    (hfin : ∀ (f : Nat → Value) w', (∀ d ∈ ds, R d (f d) w') → Below W0.heap.size W0 w' → wpList P l.toArray Q (l.drop n) (putR a (ds.map fun d => (d, f d))) w') : (Code.region id l.toArray true).wp P Q a w := by
  have e : l.take n ++ l.drop n = l := List.take_append_drop n l
  refine wp_region_any hm ?_
  generalize hh : l.take n = h at *
  have main := wpAny_inv (P := P) (l := h) (Q := headPost P (h ++ l.drop n).toArray Q (l.drop n))
    (fun listed a' w' => Fr h a a' ∧ Below W0.heap.size W0 w' ∧ ∀ i o d, h[i]? = some o → listed.getD i false = true → o.dst = some d → ∃ v, a'.tmps[d]? = some v ∧ R d v w') hE
    (by
      intro listed a' w' i o hls hI' ho hun hall
      obtain ⟨hF, hB, hV⟩ := hI'
      have hil : i < listed.size := by rw [hls]; exact (List.getElem?_eq_some_iff.1 ho).1
      obtain ⟨d, hd, hrun⟩ := relAll_mem h hok o (List.mem_of_getElem? ho)
      obtain ⟨hwant, hwp⟩ := hrun a' w' hF hB (fun x hx hb o' d' ho' hd' => hV x.on o' d' ho' (hall x hx hb) hd')
      refine ⟨hwant, wp_false ?_ hwp⟩
      rintro a2 w2 ⟨v, rfl, hR, hb⟩
      have hdl : d < a'.tmps.size := by
        have := List.all_eq_true.1 hI o (List.mem_of_getElem? ho)
        rw [hd] at this
        rw [hF.size]
        simpa using this
      have hother : ∀ d', d' ≠ d → (a'.put (some d) v).tmps[d']? = a'.tmps[d']? := fun d' hne => by simp [Act.put, Array.getElem?_setIfInBounds_ne (Ne.symm hne)]
      refine ⟨⟨by rw [size_put]; exact hF.size, hF.defers, fun d' h' => ?_⟩, hB.trans (hb.mono hB.size), fun k o' d' hk hon hd' => ?_⟩
      · rw [hother d' (fun e2 => h' i o ho (by rw [hd, e2]))]
        exact hF.out d' h'
      · by_cases hki : i = k
        · subst hki
          rw [ho] at hk
          cases hk
          rw [hd] at hd'
          cases hd'
          exact ⟨v, by simp [Act.put, hdl], hR⟩
        · rw [getD_set_ne false hki] at hon
          obtain ⟨v', h1, h2⟩ := hV k o' d' hk hon hd'
          have hne : d' ≠ d := fun e2 => dst_ne hA ho hk hki hd (by rw [hd', e2])
          exact ⟨v', by rw [hother d' hne]; exact h1, hst d' v' w' w2 h2 hB hb⟩)
    (by
      intro a' w' hI'
      obtain ⟨hF, hB, hV⟩ := hI'
      have hV' : ∀ d ∈ ds, ∃ v, a'.tmps[d]? = some v ∧ R d v w' := by
        intro d hd
        rw [← hds] at hd
        obtain ⟨o, ho, hd'⟩ := List.mem_filterMap.1 hd
        obtain ⟨i, hi, he⟩ := List.getElem_of_mem ho
        exact hV i o d (by rw [List.getElem?_eq_getElem hi, he]) (by simp [hi]) hd'
      have hfr := hfin (fun d => (a'.tmps[d]?).getD undef) w' (fun d hd => by obtain ⟨v, h1, h2⟩ := hV' d hd; simp [h1, h2]) hB
      have ea : a' = putR a (ds.map fun d => (d, (a'.tmps[d]?).getD undef)) := by
        refine act_eq (Array.ext_getElem? fun d => ?_) (by rw [putR_defers]; exact hF.defers)
        by_cases hdl : d < a.tmps.size
        · rw [putR_get (fun d => (a'.tmps[d]?).getD undef) d ds a hdl]
          by_cases hd : d ∈ ds
          · rw [if_pos hd]
            obtain ⟨v, h1, _⟩ := hV' d hd
            simp [h1]
          · rw [if_neg hd]
            refine hF.out d fun i o ho hd' => hd ?_
            rw [← hds]
            exact List.mem_filterMap.2 ⟨o, List.mem_of_getElem? ho, hd'⟩
        · rw [Array.getElem?_eq_none (by rw [hF.size]; omega), Array.getElem?_eq_none (by rw [putR_size]; omega)]
      rw [← ea] at hfr
      show wpList P (h ++ l.drop n).toArray Q (l.drop n) a' w'
      rw [e]
      exact hfr)
    h.length (Array.replicate h.length false) a { w with drawn := w.drawn + 1 } (by simp) (by simp [open_])
    ⟨⟨rfl, rfl, fun _ _ => rfl⟩, hw.drew, fun i o d ho hon => by
      exfalso
      rw [Array.getD_eq_getD_getElem?, Array.getElem?_replicate] at hon
      split at hon <;> simp at hon⟩
  have h3 := lift_under (Q := Q) hE hG hT (by rw [e]; exact hS) h.length (Array.replicate h.length false) a _ (by simp) (by simp [open_]) (closed_none _) main
  rw [e] at h3
  have e1 : l.toArray.size = h.length + (l.drop n).length := by rw [← List.length_append, e]; simp
  rw [e1, show Array.replicate (h.length + (l.drop n).length) false = Array.replicate h.length false ++ Array.replicate (l.drop n).length false by simp]
  exact h3
end Go.Proofs.YtjkdonjcngmjeaaGreatDoor.sh
