/-
  General pieces, joined: XC.
-/
import Derived.Test.YtjkdonjcngmjeaaGreatDoorG12
/-
  All rounds of a block, by the program.
-/
namespace Go.Proofs.YtjkdonjcngmjeaaGreatDoor.sh
open Go Go.RowKit
set_option linter.unusedVariables false
set_option linter.unusedSimpArgs false

theorem ws_info : (Tryz.prog.info? 136).map (·.size) = some 16 := by kernel_rfl
theorem dblL_eight {X0 X1 X2 X3 X4 X5 X6 X7 X8 : List Nat} (E0 : X1 = qL X0 0 4 8 12) (E1 : X2 = qL X1 1 5 9 13) (E2 : X3 = qL X2 2 6 10 14) (E3 : X4 = qL X3 3 7 11 15) (E4 : X5 = qL X4 0 5 10 15) (E5 : X6 = qL X5 1 6 11 12) (E6 : X7 = qL X6 2 7 8 13) (E7 : X8 = qL X7 3 4 9 14) : X8 = dblL X0 := by
  rw [E7, E6, E5, E4, E3, E2, E1, E0]
  rfl
set_option maxRecDepth 100000 in
set_option maxHeartbeats 4000000 in
theorem mixedS_any (s : List Nat) (w : World) (hs : Ws s) :
    Calls Tryz.prog 86 #[.agg (ints .u32 s)] w fun e w' => e = .returned (.agg (ints .u32 (mixT s 10))) ∧ Below w.heap.size w w' := by
  have HS : Kept _ := ⟨hs⟩
  obtain ⟨L, hL⟩ : ∃ L, L = mixT s 10 := ⟨_, rfl⟩
  rw [← hL]
  have EL : Kept _ := ⟨hL⟩
  have LL : Kept (L.length = 16) := ⟨by rw [hL]; exact (hs.mix 10).len⟩
  have A0 : Blk ((w.alloc (.cells (ints .u32 s) 136)).alloc (.cells #[.int .u32 0, .int .u32 0, .int .u32 0, .int .u32 0, .int .u32 0, .int .u32 0, .int .u32 0, .int .u32 0, .int .u32 0, .int .u32 0, .int .u32 0, .int .u32 0, .int .u32 0, .int .u32 0, .int .u32 0, .int .u32 0] 136)) w.heap.size 136 (ints .u32 s) := (blk_new w _ _).alloc _
  have A1 : Blk ((w.alloc (.cells (ints .u32 s) 136)).alloc (.cells #[.int .u32 0, .int .u32 0, .int .u32 0, .int .u32 0, .int .u32 0, .int .u32 0, .int .u32 0, .int .u32 0, .int .u32 0, .int .u32 0, .int .u32 0, .int .u32 0, .int .u32 0, .int .u32 0, .int .u32 0, .int .u32 0] 136)) (w.heap.size + 1) 136 #[.int .u32 0, .int .u32 0, .int .u32 0, .int .u32 0, .int .u32 0, .int .u32 0, .int .u32 0, .int .u32 0, .int .u32 0, .int .u32 0, .int .u32 0, .int .u32 0, .int .u32 0, .int .u32 0, .int .u32 0, .int .u32 0] := blk_top _ _ _ _ (by simp)
  have Q0 : Below w.heap.size w ((w.alloc (.cells (ints .u32 s) 136)).alloc (.cells #[.int .u32 0, .int .u32 0, .int .u32 0, .int .u32 0, .int .u32 0, .int .u32 0, .int .u32 0, .int .u32 0, .int .u32 0, .int .u32 0, .int .u32 0, .int .u32 0, .int .u32 0, .int .u32 0, .int .u32 0, .int .u32 0] 136)) := ((Below.refl _ _).alloc (Nat.le_refl _) _).alloc (by simp) _
  clear hs hL
  go_enter Tryz.func86, Tryz.ntmps86
  go_wp2_with fail
  generalize hW : (w.alloc (.cells (ints .u32 s) 136)).alloc (.cells #[.int .u32 0, .int .u32 0, .int .u32 0, .int .u32 0, .int .u32 0, .int .u32 0, .int .u32 0, .int .u32 0, .int .u32 0, .int .u32 0, .int .u32 0, .int .u32 0, .int .u32 0, .int .u32 0, .int .u32 0, .int .u32 0] 136) = wa at *
  clear hW
  obtain ⟨ZZ, hZZ⟩ : ∃ ZZ : Array Value, ZZ = #[.int .u32 0, .int .u32 0, .int .u32 0, .int .u32 0, .int .u32 0, .int .u32 0, .int .u32 0, .int .u32 0, .int .u32 0, .int .u32 0, .int .u32 0, .int .u32 0, .int .u32 0, .int .u32 0, .int .u32 0, .int .u32 0] := ⟨_, rfl⟩
  have LZ : Kept (ZZ.size = 16) := ⟨by rw [hZZ]; rfl⟩
  rw [← hZZ] at A1
  clear hZZ
  go_loopg [3] 10 (fun k s3 wr => ∃ (n : Nat) (X : List Nat), n + k = 10 ∧ s3 = .int .i64 (n : Int) ∧ Kept (X = mixT s n) ∧ Below w.heap.size w wr ∧ Blk wr w.heap.size 136 (ints .u32 X) ∧ Blk wr (w.heap.size + 1) 136 ZZ)
  case atStart => exact ⟨0, s, by omega, rfl, ⟨rfl⟩, Q0, A0, A1⟩
  case round =>
    clear A0 A1 Q0
    obtain ⟨n, X0, hik, rfl, EX, HB, A0, A1⟩ := hrel
    rename World => v0
    by_cases hi : n < 10
    case pos =>
      have hi' : (n : Int) < 10 := by omega
      have HW : Kept (Ws X0) := ⟨by rw [EX.out]; exact HS.out.mix n⟩
      obtain ⟨x0, hx0⟩ : ∃ x, x = X0.getD 0 0 := ⟨_, rfl⟩
      have G0 : Kept ((ints .u32 X0)[0]? = some (.int .u32 (x0 : Int))) := ⟨ints_get (by rw [hx0]; exact HW.out.get 0 (by decide))⟩
      obtain ⟨x1, hx1⟩ : ∃ x, x = X0.getD 4 0 := ⟨_, rfl⟩
      have G1 : Kept ((ints .u32 X0)[4]? = some (.int .u32 (x1 : Int))) := ⟨ints_get (by rw [hx1]; exact HW.out.get 4 (by decide))⟩
      obtain ⟨x2, hx2⟩ : ∃ x, x = X0.getD 8 0 := ⟨_, rfl⟩
      have G2 : Kept ((ints .u32 X0)[8]? = some (.int .u32 (x2 : Int))) := ⟨ints_get (by rw [hx2]; exact HW.out.get 8 (by decide))⟩
      obtain ⟨x3, hx3⟩ : ∃ x, x = X0.getD 12 0 := ⟨_, rfl⟩
      have G3 : Kept ((ints .u32 X0)[12]? = some (.int .u32 (x3 : Int))) := ⟨ints_get (by rw [hx3]; exact HW.out.get 12 (by decide))⟩
      have FF : Kept (Four x0 x1 x2 x3) := ⟨by rw [hx0, hx1, hx2, hx3]; exact HW.out.four 0 4 8 12⟩
      obtain ⟨y0, hy0⟩ : ∃ y, y = qa2 x0 x1 x2 x3 := ⟨_, rfl⟩
      obtain ⟨y1, hy1⟩ : ∃ y, y = qb2 x0 x1 x2 x3 := ⟨_, rfl⟩
      obtain ⟨y2, hy2⟩ : ∃ y, y = qc2 x0 x1 x2 x3 := ⟨_, rfl⟩
      obtain ⟨y3, hy3⟩ : ∃ y, y = qd2 x0 x1 x2 x3 := ⟨_, rfl⟩
      obtain ⟨X1, hY⟩ : ∃ Y, Y = qL X0 0 4 8 12 := ⟨_, rfl⟩
      have EY : Kept ((((X0.set 0 y0).set 4 y1).set 8 y2).set 12 y3 = X1) := ⟨by rw [hY, hy0, hy1, hy2, hy3, hx0, hx1, hx2, hx3]; rfl⟩
      have E0 : Kept (X1 = qL X0 0 4 8 12) := ⟨hY⟩
      have HY : Kept (Ws X1) := ⟨by rw [hY]; exact HW.out.q 0 4 8 12⟩
      have LX : Kept (X0.length = 16) := ⟨HW.out.len⟩
      have CQ : Kept (Calls Tryz.prog 121 #[.int .u32 (x0 : Int), .int .u32 (x1 : Int), .int .u32 (x2 : Int), .int .u32 (x3 : Int)] v0 fun e w' => e = .returned (.tuple #[.int .u32 (y0 : Int), .int .u32 (y1 : Int), .int .u32 (y2 : Int), .int .u32 (y3 : Int)]) ∧ w' = v0) := ⟨by rw [hy0, hy1, hy2, hy3]; exact quarter_any x0 x1 x2 x3 v0 FF.out⟩
      clear hx0 hx1 hx2 hx3 hy0 hy1 hy2 hy3 hY HW FF
      go_wp2_with (first | (refine wl_elem rfl 72 ag_u32 (.tmp 6) rfl w.heap.size 0 rfl _ (.int .u32 (x0 : Int)) A0 G0.out ?_) | (refine wl_elem rfl 72 ag_u32 (.tmp 8) rfl w.heap.size 4 rfl _ (.int .u32 (x1 : Int)) A0 G1.out ?_) | (refine wl_elem rfl 72 ag_u32 (.tmp 10) rfl w.heap.size 8 rfl _ (.int .u32 (x2 : Int)) A0 G2.out ?_) | (refine wl_elem rfl 72 ag_u32 (.tmp 12) rfl w.heap.size 12 rfl _ (.int .u32 (x3 : Int)) A0 G3.out ?_))
      refine CQ.out.mono ?_
      rintro e w' ⟨rfl, hw'⟩
      obtain rfl := hw'.symm
      clear CQ G0 G1 G2 G3
      go_wp2_with (first | (refine wl_setElem rfl 72 sz_u32 (.tmp 19) (.tmp 15) rfl w.heap.size 0 .u32 (y0 : Int) rfl rfl _ A0 (by simp only [ints_size, List.length_set, LX.out]; decide) ?_))
      intro ua0 B0 P0
      rw [ints_set] at B0
      go_wp2_with (first | (refine wl_setElem rfl 72 sz_u32 (.tmp 20) (.tmp 16) rfl w.heap.size 4 .u32 (y1 : Int) rfl rfl _ B0 (by simp only [ints_size, List.length_set, LX.out]; decide) ?_))
      intro ua1 B1 P1
      rw [ints_set] at B1
      go_wp2_with (first | (refine wl_setElem rfl 72 sz_u32 (.tmp 21) (.tmp 17) rfl w.heap.size 8 .u32 (y2 : Int) rfl rfl _ B1 (by simp only [ints_size, List.length_set, LX.out]; decide) ?_))
      intro ua2 B2 P2
      rw [ints_set] at B2
      go_wp2_with (first | (refine wl_setElem rfl 72 sz_u32 (.tmp 22) (.tmp 18) rfl w.heap.size 12 .u32 (y3 : Int) rfl rfl _ B2 (by simp only [ints_size, List.length_set, LX.out]; decide) ?_))
      intro v1 B3 P3
      rw [ints_set] at B3
      rw [EY.out] at B3
      have HB' := (((HB.trans (P0.below (Nat.le_refl _))).trans (P1.below (Nat.le_refl _))).trans (P2.below (Nat.le_refl _))).trans (P3.below (Nat.le_refl _))
      have A1' := P3.blk (P2.blk (P1.blk (P0.blk A1 (by omega)) (by omega)) (by omega)) (by omega)
      clear A0 A1 HB P0 P1 P2 P3 B0 B1 B2 EY LX
      have A0 := B3
      have A1 := A1'
      have HB := HB'
      have HW := HY
      clear B3 A1' HB' HY
      obtain ⟨x0, hx0⟩ : ∃ x, x = X1.getD 1 0 := ⟨_, rfl⟩
      have G0 : Kept ((ints .u32 X1)[1]? = some (.int .u32 (x0 : Int))) := ⟨ints_get (by rw [hx0]; exact HW.out.get 1 (by decide))⟩
      obtain ⟨x1, hx1⟩ : ∃ x, x = X1.getD 5 0 := ⟨_, rfl⟩
      have G1 : Kept ((ints .u32 X1)[5]? = some (.int .u32 (x1 : Int))) := ⟨ints_get (by rw [hx1]; exact HW.out.get 5 (by decide))⟩
      obtain ⟨x2, hx2⟩ : ∃ x, x = X1.getD 9 0 := ⟨_, rfl⟩
      have G2 : Kept ((ints .u32 X1)[9]? = some (.int .u32 (x2 : Int))) := ⟨ints_get (by rw [hx2]; exact HW.out.get 9 (by decide))⟩
      obtain ⟨x3, hx3⟩ : ∃ x, x = X1.getD 13 0 := ⟨_, rfl⟩
      have G3 : Kept ((ints .u32 X1)[13]? = some (.int .u32 (x3 : Int))) := ⟨ints_get (by rw [hx3]; exact HW.out.get 13 (by decide))⟩
      have FF : Kept (Four x0 x1 x2 x3) := ⟨by rw [hx0, hx1, hx2, hx3]; exact HW.out.four 1 5 9 13⟩
      obtain ⟨y0, hy0⟩ : ∃ y, y = qa2 x0 x1 x2 x3 := ⟨_, rfl⟩
      obtain ⟨y1, hy1⟩ : ∃ y, y = qb2 x0 x1 x2 x3 := ⟨_, rfl⟩
      obtain ⟨y2, hy2⟩ : ∃ y, y = qc2 x0 x1 x2 x3 := ⟨_, rfl⟩
      obtain ⟨y3, hy3⟩ : ∃ y, y = qd2 x0 x1 x2 x3 := ⟨_, rfl⟩
      obtain ⟨X2, hY⟩ : ∃ Y, Y = qL X1 1 5 9 13 := ⟨_, rfl⟩
      have EY : Kept ((((X1.set 1 y0).set 5 y1).set 9 y2).set 13 y3 = X2) := ⟨by rw [hY, hy0, hy1, hy2, hy3, hx0, hx1, hx2, hx3]; rfl⟩
      have E1 : Kept (X2 = qL X1 1 5 9 13) := ⟨hY⟩
      have HY : Kept (Ws X2) := ⟨by rw [hY]; exact HW.out.q 1 5 9 13⟩
      have LX : Kept (X1.length = 16) := ⟨HW.out.len⟩
      have CQ : Kept (Calls Tryz.prog 121 #[.int .u32 (x0 : Int), .int .u32 (x1 : Int), .int .u32 (x2 : Int), .int .u32 (x3 : Int)] v1 fun e w' => e = .returned (.tuple #[.int .u32 (y0 : Int), .int .u32 (y1 : Int), .int .u32 (y2 : Int), .int .u32 (y3 : Int)]) ∧ w' = v1) := ⟨by rw [hy0, hy1, hy2, hy3]; exact quarter_any x0 x1 x2 x3 v1 FF.out⟩
      clear hx0 hx1 hx2 hx3 hy0 hy1 hy2 hy3 hY HW FF
      go_wp2_with (first | (refine wl_elem rfl 72 ag_u32 (.tmp 24) rfl w.heap.size 1 rfl _ (.int .u32 (x0 : Int)) A0 G0.out ?_) | (refine wl_elem rfl 72 ag_u32 (.tmp 26) rfl w.heap.size 5 rfl _ (.int .u32 (x1 : Int)) A0 G1.out ?_) | (refine wl_elem rfl 72 ag_u32 (.tmp 28) rfl w.heap.size 9 rfl _ (.int .u32 (x2 : Int)) A0 G2.out ?_) | (refine wl_elem rfl 72 ag_u32 (.tmp 30) rfl w.heap.size 13 rfl _ (.int .u32 (x3 : Int)) A0 G3.out ?_))
      refine CQ.out.mono ?_
      rintro e w' ⟨rfl, hw'⟩
      obtain rfl := hw'.symm
      clear CQ G0 G1 G2 G3
      go_wp2_with (first | (refine wl_setElem rfl 72 sz_u32 (.tmp 37) (.tmp 33) rfl w.heap.size 1 .u32 (y0 : Int) rfl rfl _ A0 (by simp only [ints_size, List.length_set, LX.out]; decide) ?_))
      intro ua0 B0 P0
      rw [ints_set] at B0
      go_wp2_with (first | (refine wl_setElem rfl 72 sz_u32 (.tmp 38) (.tmp 34) rfl w.heap.size 5 .u32 (y1 : Int) rfl rfl _ B0 (by simp only [ints_size, List.length_set, LX.out]; decide) ?_))
      intro ua1 B1 P1
      rw [ints_set] at B1
      go_wp2_with (first | (refine wl_setElem rfl 72 sz_u32 (.tmp 39) (.tmp 35) rfl w.heap.size 9 .u32 (y2 : Int) rfl rfl _ B1 (by simp only [ints_size, List.length_set, LX.out]; decide) ?_))
      intro ua2 B2 P2
      rw [ints_set] at B2
      go_wp2_with (first | (refine wl_setElem rfl 72 sz_u32 (.tmp 40) (.tmp 36) rfl w.heap.size 13 .u32 (y3 : Int) rfl rfl _ B2 (by simp only [ints_size, List.length_set, LX.out]; decide) ?_))
      intro v2 B3 P3
      rw [ints_set] at B3
      rw [EY.out] at B3
      have HB' := (((HB.trans (P0.below (Nat.le_refl _))).trans (P1.below (Nat.le_refl _))).trans (P2.below (Nat.le_refl _))).trans (P3.below (Nat.le_refl _))
      have A1' := P3.blk (P2.blk (P1.blk (P0.blk A1 (by omega)) (by omega)) (by omega)) (by omega)
      clear A0 A1 HB P0 P1 P2 P3 B0 B1 B2 EY LX
      have A0 := B3
      have A1 := A1'
      have HB := HB'
      have HW := HY
      clear B3 A1' HB' HY
      obtain ⟨x0, hx0⟩ : ∃ x, x = X2.getD 2 0 := ⟨_, rfl⟩
      have G0 : Kept ((ints .u32 X2)[2]? = some (.int .u32 (x0 : Int))) := ⟨ints_get (by rw [hx0]; exact HW.out.get 2 (by decide))⟩
      obtain ⟨x1, hx1⟩ : ∃ x, x = X2.getD 6 0 := ⟨_, rfl⟩
      have G1 : Kept ((ints .u32 X2)[6]? = some (.int .u32 (x1 : Int))) := ⟨ints_get (by rw [hx1]; exact HW.out.get 6 (by decide))⟩
      obtain ⟨x2, hx2⟩ : ∃ x, x = X2.getD 10 0 := ⟨_, rfl⟩
      have G2 : Kept ((ints .u32 X2)[10]? = some (.int .u32 (x2 : Int))) := ⟨ints_get (by rw [hx2]; exact HW.out.get 10 (by decide))⟩
      obtain ⟨x3, hx3⟩ : ∃ x, x = X2.getD 14 0 := ⟨_, rfl⟩
      have G3 : Kept ((ints .u32 X2)[14]? = some (.int .u32 (x3 : Int))) := ⟨ints_get (by rw [hx3]; exact HW.out.get 14 (by decide))⟩
      have FF : Kept (Four x0 x1 x2 x3) := ⟨by rw [hx0, hx1, hx2, hx3]; exact HW.out.four 2 6 10 14⟩
      obtain ⟨y0, hy0⟩ : ∃ y, y = qa2 x0 x1 x2 x3 := ⟨_, rfl⟩
      obtain ⟨y1, hy1⟩ : ∃ y, y = qb2 x0 x1 x2 x3 := ⟨_, rfl⟩
      obtain ⟨y2, hy2⟩ : ∃ y, y = qc2 x0 x1 x2 x3 := ⟨_, rfl⟩
      obtain ⟨y3, hy3⟩ : ∃ y, y = qd2 x0 x1 x2 x3 := ⟨_, rfl⟩
      obtain ⟨X3, hY⟩ : ∃ Y, Y = qL X2 2 6 10 14 := ⟨_, rfl⟩
      have EY : Kept ((((X2.set 2 y0).set 6 y1).set 10 y2).set 14 y3 = X3) := ⟨by rw [hY, hy0, hy1, hy2, hy3, hx0, hx1, hx2, hx3]; rfl⟩
      have E2 : Kept (X3 = qL X2 2 6 10 14) := ⟨hY⟩
      have HY : Kept (Ws X3) := ⟨by rw [hY]; exact HW.out.q 2 6 10 14⟩
      have LX : Kept (X2.length = 16) := ⟨HW.out.len⟩
      have CQ : Kept (Calls Tryz.prog 121 #[.int .u32 (x0 : Int), .int .u32 (x1 : Int), .int .u32 (x2 : Int), .int .u32 (x3 : Int)] v2 fun e w' => e = .returned (.tuple #[.int .u32 (y0 : Int), .int .u32 (y1 : Int), .int .u32 (y2 : Int), .int .u32 (y3 : Int)]) ∧ w' = v2) := ⟨by rw [hy0, hy1, hy2, hy3]; exact quarter_any x0 x1 x2 x3 v2 FF.out⟩
      clear hx0 hx1 hx2 hx3 hy0 hy1 hy2 hy3 hY HW FF
      go_wp2_with (first | (refine wl_elem rfl 72 ag_u32 (.tmp 42) rfl w.heap.size 2 rfl _ (.int .u32 (x0 : Int)) A0 G0.out ?_) | (refine wl_elem rfl 72 ag_u32 (.tmp 44) rfl w.heap.size 6 rfl _ (.int .u32 (x1 : Int)) A0 G1.out ?_) | (refine wl_elem rfl 72 ag_u32 (.tmp 46) rfl w.heap.size 10 rfl _ (.int .u32 (x2 : Int)) A0 G2.out ?_) | (refine wl_elem rfl 72 ag_u32 (.tmp 48) rfl w.heap.size 14 rfl _ (.int .u32 (x3 : Int)) A0 G3.out ?_))
      refine CQ.out.mono ?_
      rintro e w' ⟨rfl, hw'⟩
      obtain rfl := hw'.symm
      clear CQ G0 G1 G2 G3
      go_wp2_with (first | (refine wl_setElem rfl 72 sz_u32 (.tmp 55) (.tmp 51) rfl w.heap.size 2 .u32 (y0 : Int) rfl rfl _ A0 (by simp only [ints_size, List.length_set, LX.out]; decide) ?_))
      intro ua0 B0 P0
      rw [ints_set] at B0
      go_wp2_with (first | (refine wl_setElem rfl 72 sz_u32 (.tmp 56) (.tmp 52) rfl w.heap.size 6 .u32 (y1 : Int) rfl rfl _ B0 (by simp only [ints_size, List.length_set, LX.out]; decide) ?_))
      intro ua1 B1 P1
      rw [ints_set] at B1
      go_wp2_with (first | (refine wl_setElem rfl 72 sz_u32 (.tmp 57) (.tmp 53) rfl w.heap.size 10 .u32 (y2 : Int) rfl rfl _ B1 (by simp only [ints_size, List.length_set, LX.out]; decide) ?_))
      intro ua2 B2 P2
      rw [ints_set] at B2
      go_wp2_with (first | (refine wl_setElem rfl 72 sz_u32 (.tmp 58) (.tmp 54) rfl w.heap.size 14 .u32 (y3 : Int) rfl rfl _ B2 (by simp only [ints_size, List.length_set, LX.out]; decide) ?_))
      intro v3 B3 P3
      rw [ints_set] at B3
      rw [EY.out] at B3
      have HB' := (((HB.trans (P0.below (Nat.le_refl _))).trans (P1.below (Nat.le_refl _))).trans (P2.below (Nat.le_refl _))).trans (P3.below (Nat.le_refl _))
      have A1' := P3.blk (P2.blk (P1.blk (P0.blk A1 (by omega)) (by omega)) (by omega)) (by omega)
      clear A0 A1 HB P0 P1 P2 P3 B0 B1 B2 EY LX
      have A0 := B3
      have A1 := A1'
      have HB := HB'
      have HW := HY
      clear B3 A1' HB' HY
      obtain ⟨x0, hx0⟩ : ∃ x, x = X3.getD 3 0 := ⟨_, rfl⟩
      have G0 : Kept ((ints .u32 X3)[3]? = some (.int .u32 (x0 : Int))) := ⟨ints_get (by rw [hx0]; exact HW.out.get 3 (by decide))⟩
      obtain ⟨x1, hx1⟩ : ∃ x, x = X3.getD 7 0 := ⟨_, rfl⟩
      have G1 : Kept ((ints .u32 X3)[7]? = some (.int .u32 (x1 : Int))) := ⟨ints_get (by rw [hx1]; exact HW.out.get 7 (by decide))⟩
      obtain ⟨x2, hx2⟩ : ∃ x, x = X3.getD 11 0 := ⟨_, rfl⟩
      have G2 : Kept ((ints .u32 X3)[11]? = some (.int .u32 (x2 : Int))) := ⟨ints_get (by rw [hx2]; exact HW.out.get 11 (by decide))⟩
      obtain ⟨x3, hx3⟩ : ∃ x, x = X3.getD 15 0 := ⟨_, rfl⟩
      have G3 : Kept ((ints .u32 X3)[15]? = some (.int .u32 (x3 : Int))) := ⟨ints_get (by rw [hx3]; exact HW.out.get 15 (by decide))⟩
      have FF : Kept (Four x0 x1 x2 x3) := ⟨by rw [hx0, hx1, hx2, hx3]; exact HW.out.four 3 7 11 15⟩
      obtain ⟨y0, hy0⟩ : ∃ y, y = qa2 x0 x1 x2 x3 := ⟨_, rfl⟩
      obtain ⟨y1, hy1⟩ : ∃ y, y = qb2 x0 x1 x2 x3 := ⟨_, rfl⟩
      obtain ⟨y2, hy2⟩ : ∃ y, y = qc2 x0 x1 x2 x3 := ⟨_, rfl⟩
      obtain ⟨y3, hy3⟩ : ∃ y, y = qd2 x0 x1 x2 x3 := ⟨_, rfl⟩
      obtain ⟨X4, hY⟩ : ∃ Y, Y = qL X3 3 7 11 15 := ⟨_, rfl⟩
      have EY : Kept ((((X3.set 3 y0).set 7 y1).set 11 y2).set 15 y3 = X4) := ⟨by rw [hY, hy0, hy1, hy2, hy3, hx0, hx1, hx2, hx3]; rfl⟩
      have E3 : Kept (X4 = qL X3 3 7 11 15) := ⟨hY⟩
      have HY : Kept (Ws X4) := ⟨by rw [hY]; exact HW.out.q 3 7 11 15⟩
      have LX : Kept (X3.length = 16) := ⟨HW.out.len⟩
      have CQ : Kept (Calls Tryz.prog 121 #[.int .u32 (x0 : Int), .int .u32 (x1 : Int), .int .u32 (x2 : Int), .int .u32 (x3 : Int)] v3 fun e w' => e = .returned (.tuple #[.int .u32 (y0 : Int), .int .u32 (y1 : Int), .int .u32 (y2 : Int), .int .u32 (y3 : Int)]) ∧ w' = v3) := ⟨by rw [hy0, hy1, hy2, hy3]; exact quarter_any x0 x1 x2 x3 v3 FF.out⟩
      clear hx0 hx1 hx2 hx3 hy0 hy1 hy2 hy3 hY HW FF
      go_wp2_with (first | (refine wl_elem rfl 72 ag_u32 (.tmp 60) rfl w.heap.size 3 rfl _ (.int .u32 (x0 : Int)) A0 G0.out ?_) | (refine wl_elem rfl 72 ag_u32 (.tmp 62) rfl w.heap.size 7 rfl _ (.int .u32 (x1 : Int)) A0 G1.out ?_) | (refine wl_elem rfl 72 ag_u32 (.tmp 64) rfl w.heap.size 11 rfl _ (.int .u32 (x2 : Int)) A0 G2.out ?_) | (refine wl_elem rfl 72 ag_u32 (.tmp 66) rfl w.heap.size 15 rfl _ (.int .u32 (x3 : Int)) A0 G3.out ?_))
      refine CQ.out.mono ?_
      rintro e w' ⟨rfl, hw'⟩
      obtain rfl := hw'.symm
      clear CQ G0 G1 G2 G3
      go_wp2_with (first | (refine wl_setElem rfl 72 sz_u32 (.tmp 73) (.tmp 69) rfl w.heap.size 3 .u32 (y0 : Int) rfl rfl _ A0 (by simp only [ints_size, List.length_set, LX.out]; decide) ?_))
      intro ua0 B0 P0
      rw [ints_set] at B0
      go_wp2_with (first | (refine wl_setElem rfl 72 sz_u32 (.tmp 74) (.tmp 70) rfl w.heap.size 7 .u32 (y1 : Int) rfl rfl _ B0 (by simp only [ints_size, List.length_set, LX.out]; decide) ?_))
      intro ua1 B1 P1
      rw [ints_set] at B1
      go_wp2_with (first | (refine wl_setElem rfl 72 sz_u32 (.tmp 75) (.tmp 71) rfl w.heap.size 11 .u32 (y2 : Int) rfl rfl _ B1 (by simp only [ints_size, List.length_set, LX.out]; decide) ?_))
      intro ua2 B2 P2
      rw [ints_set] at B2
      go_wp2_with (first | (refine wl_setElem rfl 72 sz_u32 (.tmp 76) (.tmp 72) rfl w.heap.size 15 .u32 (y3 : Int) rfl rfl _ B2 (by simp only [ints_size, List.length_set, LX.out]; decide) ?_))
      intro v4 B3 P3
      rw [ints_set] at B3
      rw [EY.out] at B3
      have HB' := (((HB.trans (P0.below (Nat.le_refl _))).trans (P1.below (Nat.le_refl _))).trans (P2.below (Nat.le_refl _))).trans (P3.below (Nat.le_refl _))
      have A1' := P3.blk (P2.blk (P1.blk (P0.blk A1 (by omega)) (by omega)) (by omega)) (by omega)
      clear A0 A1 HB P0 P1 P2 P3 B0 B1 B2 EY LX
      have A0 := B3
      have A1 := A1'
      have HB := HB'
      have HW := HY
      clear B3 A1' HB' HY
      obtain ⟨x0, hx0⟩ : ∃ x, x = X4.getD 0 0 := ⟨_, rfl⟩
      have G0 : Kept ((ints .u32 X4)[0]? = some (.int .u32 (x0 : Int))) := ⟨ints_get (by rw [hx0]; exact HW.out.get 0 (by decide))⟩
      obtain ⟨x1, hx1⟩ : ∃ x, x = X4.getD 5 0 := ⟨_, rfl⟩
      have G1 : Kept ((ints .u32 X4)[5]? = some (.int .u32 (x1 : Int))) := ⟨ints_get (by rw [hx1]; exact HW.out.get 5 (by decide))⟩
      obtain ⟨x2, hx2⟩ : ∃ x, x = X4.getD 10 0 := ⟨_, rfl⟩
      have G2 : Kept ((ints .u32 X4)[10]? = some (.int .u32 (x2 : Int))) := ⟨ints_get (by rw [hx2]; exact HW.out.get 10 (by decide))⟩
      obtain ⟨x3, hx3⟩ : ∃ x, x = X4.getD 15 0 := ⟨_, rfl⟩
      have G3 : Kept ((ints .u32 X4)[15]? = some (.int .u32 (x3 : Int))) := ⟨ints_get (by rw [hx3]; exact HW.out.get 15 (by decide))⟩
      have FF : Kept (Four x0 x1 x2 x3) := ⟨by rw [hx0, hx1, hx2, hx3]; exact HW.out.four 0 5 10 15⟩
      obtain ⟨y0, hy0⟩ : ∃ y, y = qa2 x0 x1 x2 x3 := ⟨_, rfl⟩
      obtain ⟨y1, hy1⟩ : ∃ y, y = qb2 x0 x1 x2 x3 := ⟨_, rfl⟩
      obtain ⟨y2, hy2⟩ : ∃ y, y = qc2 x0 x1 x2 x3 := ⟨_, rfl⟩
      obtain ⟨y3, hy3⟩ : ∃ y, y = qd2 x0 x1 x2 x3 := ⟨_, rfl⟩
      obtain ⟨X5, hY⟩ : ∃ Y, Y = qL X4 0 5 10 15 := ⟨_, rfl⟩
      have EY : Kept ((((X4.set 0 y0).set 5 y1).set 10 y2).set 15 y3 = X5) := ⟨by rw [hY, hy0, hy1, hy2, hy3, hx0, hx1, hx2, hx3]; rfl⟩
      have E4 : Kept (X5 = qL X4 0 5 10 15) := ⟨hY⟩
      have HY : Kept (Ws X5) := ⟨by rw [hY]; exact HW.out.q 0 5 10 15⟩
      have LX : Kept (X4.length = 16) := ⟨HW.out.len⟩
      have CQ : Kept (Calls Tryz.prog 121 #[.int .u32 (x0 : Int), .int .u32 (x1 : Int), .int .u32 (x2 : Int), .int .u32 (x3 : Int)] v4 fun e w' => e = .returned (.tuple #[.int .u32 (y0 : Int), .int .u32 (y1 : Int), .int .u32 (y2 : Int), .int .u32 (y3 : Int)]) ∧ w' = v4) := ⟨by rw [hy0, hy1, hy2, hy3]; exact quarter_any x0 x1 x2 x3 v4 FF.out⟩
      clear hx0 hx1 hx2 hx3 hy0 hy1 hy2 hy3 hY HW FF
      go_wp2_with (first | (refine wl_elem rfl 72 ag_u32 (.tmp 78) rfl w.heap.size 0 rfl _ (.int .u32 (x0 : Int)) A0 G0.out ?_) | (refine wl_elem rfl 72 ag_u32 (.tmp 80) rfl w.heap.size 5 rfl _ (.int .u32 (x1 : Int)) A0 G1.out ?_) | (refine wl_elem rfl 72 ag_u32 (.tmp 82) rfl w.heap.size 10 rfl _ (.int .u32 (x2 : Int)) A0 G2.out ?_) | (refine wl_elem rfl 72 ag_u32 (.tmp 84) rfl w.heap.size 15 rfl _ (.int .u32 (x3 : Int)) A0 G3.out ?_))
      refine CQ.out.mono ?_
      rintro e w' ⟨rfl, hw'⟩
      obtain rfl := hw'.symm
      clear CQ G0 G1 G2 G3
      go_wp2_with (first | (refine wl_setElem rfl 72 sz_u32 (.tmp 91) (.tmp 87) rfl w.heap.size 0 .u32 (y0 : Int) rfl rfl _ A0 (by simp only [ints_size, List.length_set, LX.out]; decide) ?_))
      intro ua0 B0 P0
      rw [ints_set] at B0
      go_wp2_with (first | (refine wl_setElem rfl 72 sz_u32 (.tmp 92) (.tmp 88) rfl w.heap.size 5 .u32 (y1 : Int) rfl rfl _ B0 (by simp only [ints_size, List.length_set, LX.out]; decide) ?_))
      intro ua1 B1 P1
      rw [ints_set] at B1
      go_wp2_with (first | (refine wl_setElem rfl 72 sz_u32 (.tmp 93) (.tmp 89) rfl w.heap.size 10 .u32 (y2 : Int) rfl rfl _ B1 (by simp only [ints_size, List.length_set, LX.out]; decide) ?_))
      intro ua2 B2 P2
      rw [ints_set] at B2
      go_wp2_with (first | (refine wl_setElem rfl 72 sz_u32 (.tmp 94) (.tmp 90) rfl w.heap.size 15 .u32 (y3 : Int) rfl rfl _ B2 (by simp only [ints_size, List.length_set, LX.out]; decide) ?_))
      intro v5 B3 P3
      rw [ints_set] at B3
      rw [EY.out] at B3
      have HB' := (((HB.trans (P0.below (Nat.le_refl _))).trans (P1.below (Nat.le_refl _))).trans (P2.below (Nat.le_refl _))).trans (P3.below (Nat.le_refl _))
      have A1' := P3.blk (P2.blk (P1.blk (P0.blk A1 (by omega)) (by omega)) (by omega)) (by omega)
      clear A0 A1 HB P0 P1 P2 P3 B0 B1 B2 EY LX
      have A0 := B3
      have A1 := A1'
      have HB := HB'
      have HW := HY
      clear B3 A1' HB' HY
      obtain ⟨x0, hx0⟩ : ∃ x, x = X5.getD 1 0 := ⟨_, rfl⟩
      have G0 : Kept ((ints .u32 X5)[1]? = some (.int .u32 (x0 : Int))) := ⟨ints_get (by rw [hx0]; exact HW.out.get 1 (by decide))⟩
      obtain ⟨x1, hx1⟩ : ∃ x, x = X5.getD 6 0 := ⟨_, rfl⟩
      have G1 : Kept ((ints .u32 X5)[6]? = some (.int .u32 (x1 : Int))) := ⟨ints_get (by rw [hx1]; exact HW.out.get 6 (by decide))⟩
      obtain ⟨x2, hx2⟩ : ∃ x, x = X5.getD 11 0 := ⟨_, rfl⟩
      have G2 : Kept ((ints .u32 X5)[11]? = some (.int .u32 (x2 : Int))) := ⟨ints_get (by rw [hx2]; exact HW.out.get 11 (by decide))⟩
      obtain ⟨x3, hx3⟩ : ∃ x, x = X5.getD 12 0 := ⟨_, rfl⟩
      have G3 : Kept ((ints .u32 X5)[12]? = some (.int .u32 (x3 : Int))) := ⟨ints_get (by rw [hx3]; exact HW.out.get 12 (by decide))⟩
      have FF : Kept (Four x0 x1 x2 x3) := ⟨by rw [hx0, hx1, hx2, hx3]; exact HW.out.four 1 6 11 12⟩
      obtain ⟨y0, hy0⟩ : ∃ y, y = qa2 x0 x1 x2 x3 := ⟨_, rfl⟩
      obtain ⟨y1, hy1⟩ : ∃ y, y = qb2 x0 x1 x2 x3 := ⟨_, rfl⟩
      obtain ⟨y2, hy2⟩ : ∃ y, y = qc2 x0 x1 x2 x3 := ⟨_, rfl⟩
      obtain ⟨y3, hy3⟩ : ∃ y, y = qd2 x0 x1 x2 x3 := ⟨_, rfl⟩
      obtain ⟨X6, hY⟩ : ∃ Y, Y = qL X5 1 6 11 12 := ⟨_, rfl⟩
      have EY : Kept ((((X5.set 1 y0).set 6 y1).set 11 y2).set 12 y3 = X6) := ⟨by rw [hY, hy0, hy1, hy2, hy3, hx0, hx1, hx2, hx3]; rfl⟩
      have E5 : Kept (X6 = qL X5 1 6 11 12) := ⟨hY⟩
      have HY : Kept (Ws X6) := ⟨by rw [hY]; exact HW.out.q 1 6 11 12⟩
      have LX : Kept (X5.length = 16) := ⟨HW.out.len⟩
      have CQ : Kept (Calls Tryz.prog 121 #[.int .u32 (x0 : Int), .int .u32 (x1 : Int), .int .u32 (x2 : Int), .int .u32 (x3 : Int)] v5 fun e w' => e = .returned (.tuple #[.int .u32 (y0 : Int), .int .u32 (y1 : Int), .int .u32 (y2 : Int), .int .u32 (y3 : Int)]) ∧ w' = v5) := ⟨by rw [hy0, hy1, hy2, hy3]; exact quarter_any x0 x1 x2 x3 v5 FF.out⟩
      clear hx0 hx1 hx2 hx3 hy0 hy1 hy2 hy3 hY HW FF
      go_wp2_with (first | (refine wl_elem rfl 72 ag_u32 (.tmp 96) rfl w.heap.size 1 rfl _ (.int .u32 (x0 : Int)) A0 G0.out ?_) | (refine wl_elem rfl 72 ag_u32 (.tmp 98) rfl w.heap.size 6 rfl _ (.int .u32 (x1 : Int)) A0 G1.out ?_) | (refine wl_elem rfl 72 ag_u32 (.tmp 100) rfl w.heap.size 11 rfl _ (.int .u32 (x2 : Int)) A0 G2.out ?_) | (refine wl_elem rfl 72 ag_u32 (.tmp 102) rfl w.heap.size 12 rfl _ (.int .u32 (x3 : Int)) A0 G3.out ?_))
      refine CQ.out.mono ?_
      rintro e w' ⟨rfl, hw'⟩
      obtain rfl := hw'.symm
      clear CQ G0 G1 G2 G3
      go_wp2_with (first | (refine wl_setElem rfl 72 sz_u32 (.tmp 109) (.tmp 105) rfl w.heap.size 1 .u32 (y0 : Int) rfl rfl _ A0 (by simp only [ints_size, List.length_set, LX.out]; decide) ?_))
      intro ua0 B0 P0
      rw [ints_set] at B0
      go_wp2_with (first | (refine wl_setElem rfl 72 sz_u32 (.tmp 110) (.tmp 106) rfl w.heap.size 6 .u32 (y1 : Int) rfl rfl _ B0 (by simp only [ints_size, List.length_set, LX.out]; decide) ?_))
      intro ua1 B1 P1
      rw [ints_set] at B1
      go_wp2_with (first | (refine wl_setElem rfl 72 sz_u32 (.tmp 111) (.tmp 107) rfl w.heap.size 11 .u32 (y2 : Int) rfl rfl _ B1 (by simp only [ints_size, List.length_set, LX.out]; decide) ?_))
      intro ua2 B2 P2
      rw [ints_set] at B2
      go_wp2_with (first | (refine wl_setElem rfl 72 sz_u32 (.tmp 112) (.tmp 108) rfl w.heap.size 12 .u32 (y3 : Int) rfl rfl _ B2 (by simp only [ints_size, List.length_set, LX.out]; decide) ?_))
      intro v6 B3 P3
      rw [ints_set] at B3
      rw [EY.out] at B3
      have HB' := (((HB.trans (P0.below (Nat.le_refl _))).trans (P1.below (Nat.le_refl _))).trans (P2.below (Nat.le_refl _))).trans (P3.below (Nat.le_refl _))
      have A1' := P3.blk (P2.blk (P1.blk (P0.blk A1 (by omega)) (by omega)) (by omega)) (by omega)
      clear A0 A1 HB P0 P1 P2 P3 B0 B1 B2 EY LX
      have A0 := B3
      have A1 := A1'
      have HB := HB'
      have HW := HY
      clear B3 A1' HB' HY
      obtain ⟨x0, hx0⟩ : ∃ x, x = X6.getD 2 0 := ⟨_, rfl⟩
      have G0 : Kept ((ints .u32 X6)[2]? = some (.int .u32 (x0 : Int))) := ⟨ints_get (by rw [hx0]; exact HW.out.get 2 (by decide))⟩
      obtain ⟨x1, hx1⟩ : ∃ x, x = X6.getD 7 0 := ⟨_, rfl⟩
      have G1 : Kept ((ints .u32 X6)[7]? = some (.int .u32 (x1 : Int))) := ⟨ints_get (by rw [hx1]; exact HW.out.get 7 (by decide))⟩
      obtain ⟨x2, hx2⟩ : ∃ x, x = X6.getD 8 0 := ⟨_, rfl⟩
      have G2 : Kept ((ints .u32 X6)[8]? = some (.int .u32 (x2 : Int))) := ⟨ints_get (by rw [hx2]; exact HW.out.get 8 (by decide))⟩
      obtain ⟨x3, hx3⟩ : ∃ x, x = X6.getD 13 0 := ⟨_, rfl⟩
      have G3 : Kept ((ints .u32 X6)[13]? = some (.int .u32 (x3 : Int))) := ⟨ints_get (by rw [hx3]; exact HW.out.get 13 (by decide))⟩
      have FF : Kept (Four x0 x1 x2 x3) := ⟨by rw [hx0, hx1, hx2, hx3]; exact HW.out.four 2 7 8 13⟩
      obtain ⟨y0, hy0⟩ : ∃ y, y = qa2 x0 x1 x2 x3 := ⟨_, rfl⟩
      obtain ⟨y1, hy1⟩ : ∃ y, y = qb2 x0 x1 x2 x3 := ⟨_, rfl⟩
      obtain ⟨y2, hy2⟩ : ∃ y, y = qc2 x0 x1 x2 x3 := ⟨_, rfl⟩
      obtain ⟨y3, hy3⟩ : ∃ y, y = qd2 x0 x1 x2 x3 := ⟨_, rfl⟩
      obtain ⟨X7, hY⟩ : ∃ Y, Y = qL X6 2 7 8 13 := ⟨_, rfl⟩
      have EY : Kept ((((X6.set 2 y0).set 7 y1).set 8 y2).set 13 y3 = X7) := ⟨by rw [hY, hy0, hy1, hy2, hy3, hx0, hx1, hx2, hx3]; rfl⟩
      have E6 : Kept (X7 = qL X6 2 7 8 13) := ⟨hY⟩
      have HY : Kept (Ws X7) := ⟨by rw [hY]; exact HW.out.q 2 7 8 13⟩
      have LX : Kept (X6.length = 16) := ⟨HW.out.len⟩
      have CQ : Kept (Calls Tryz.prog 121 #[.int .u32 (x0 : Int), .int .u32 (x1 : Int), .int .u32 (x2 : Int), .int .u32 (x3 : Int)] v6 fun e w' => e = .returned (.tuple #[.int .u32 (y0 : Int), .int .u32 (y1 : Int), .int .u32 (y2 : Int), .int .u32 (y3 : Int)]) ∧ w' = v6) := ⟨by rw [hy0, hy1, hy2, hy3]; exact quarter_any x0 x1 x2 x3 v6 FF.out⟩
      clear hx0 hx1 hx2 hx3 hy0 hy1 hy2 hy3 hY HW FF
      go_wp2_with (first | (refine wl_elem rfl 72 ag_u32 (.tmp 114) rfl w.heap.size 2 rfl _ (.int .u32 (x0 : Int)) A0 G0.out ?_) | (refine wl_elem rfl 72 ag_u32 (.tmp 116) rfl w.heap.size 7 rfl _ (.int .u32 (x1 : Int)) A0 G1.out ?_) | (refine wl_elem rfl 72 ag_u32 (.tmp 118) rfl w.heap.size 8 rfl _ (.int .u32 (x2 : Int)) A0 G2.out ?_) | (refine wl_elem rfl 72 ag_u32 (.tmp 120) rfl w.heap.size 13 rfl _ (.int .u32 (x3 : Int)) A0 G3.out ?_))
      refine CQ.out.mono ?_
      rintro e w' ⟨rfl, hw'⟩
      obtain rfl := hw'.symm
      clear CQ G0 G1 G2 G3
      go_wp2_with (first | (refine wl_setElem rfl 72 sz_u32 (.tmp 127) (.tmp 123) rfl w.heap.size 2 .u32 (y0 : Int) rfl rfl _ A0 (by simp only [ints_size, List.length_set, LX.out]; decide) ?_))
      intro ua0 B0 P0
      rw [ints_set] at B0
      go_wp2_with (first | (refine wl_setElem rfl 72 sz_u32 (.tmp 128) (.tmp 124) rfl w.heap.size 7 .u32 (y1 : Int) rfl rfl _ B0 (by simp only [ints_size, List.length_set, LX.out]; decide) ?_))
      intro ua1 B1 P1
      rw [ints_set] at B1
      go_wp2_with (first | (refine wl_setElem rfl 72 sz_u32 (.tmp 129) (.tmp 125) rfl w.heap.size 8 .u32 (y2 : Int) rfl rfl _ B1 (by simp only [ints_size, List.length_set, LX.out]; decide) ?_))
      intro ua2 B2 P2
      rw [ints_set] at B2
      go_wp2_with (first | (refine wl_setElem rfl 72 sz_u32 (.tmp 130) (.tmp 126) rfl w.heap.size 13 .u32 (y3 : Int) rfl rfl _ B2 (by simp only [ints_size, List.length_set, LX.out]; decide) ?_))
      intro v7 B3 P3
      rw [ints_set] at B3
      rw [EY.out] at B3
      have HB' := (((HB.trans (P0.below (Nat.le_refl _))).trans (P1.below (Nat.le_refl _))).trans (P2.below (Nat.le_refl _))).trans (P3.below (Nat.le_refl _))
      have A1' := P3.blk (P2.blk (P1.blk (P0.blk A1 (by omega)) (by omega)) (by omega)) (by omega)
      clear A0 A1 HB P0 P1 P2 P3 B0 B1 B2 EY LX
      have A0 := B3
      have A1 := A1'
      have HB := HB'
      have HW := HY
      clear B3 A1' HB' HY
      obtain ⟨x0, hx0⟩ : ∃ x, x = X7.getD 3 0 := ⟨_, rfl⟩
      have G0 : Kept ((ints .u32 X7)[3]? = some (.int .u32 (x0 : Int))) := ⟨ints_get (by rw [hx0]; exact HW.out.get 3 (by decide))⟩
      obtain ⟨x1, hx1⟩ : ∃ x, x = X7.getD 4 0 := ⟨_, rfl⟩
      have G1 : Kept ((ints .u32 X7)[4]? = some (.int .u32 (x1 : Int))) := ⟨ints_get (by rw [hx1]; exact HW.out.get 4 (by decide))⟩
      obtain ⟨x2, hx2⟩ : ∃ x, x = X7.getD 9 0 := ⟨_, rfl⟩
      have G2 : Kept ((ints .u32 X7)[9]? = some (.int .u32 (x2 : Int))) := ⟨ints_get (by rw [hx2]; exact HW.out.get 9 (by decide))⟩
      obtain ⟨x3, hx3⟩ : ∃ x, x = X7.getD 14 0 := ⟨_, rfl⟩
      have G3 : Kept ((ints .u32 X7)[14]? = some (.int .u32 (x3 : Int))) := ⟨ints_get (by rw [hx3]; exact HW.out.get 14 (by decide))⟩
      have FF : Kept (Four x0 x1 x2 x3) := ⟨by rw [hx0, hx1, hx2, hx3]; exact HW.out.four 3 4 9 14⟩
      obtain ⟨y0, hy0⟩ : ∃ y, y = qa2 x0 x1 x2 x3 := ⟨_, rfl⟩
      obtain ⟨y1, hy1⟩ : ∃ y, y = qb2 x0 x1 x2 x3 := ⟨_, rfl⟩
      obtain ⟨y2, hy2⟩ : ∃ y, y = qc2 x0 x1 x2 x3 := ⟨_, rfl⟩
      obtain ⟨y3, hy3⟩ : ∃ y, y = qd2 x0 x1 x2 x3 := ⟨_, rfl⟩
      obtain ⟨X8, hY⟩ : ∃ Y, Y = qL X7 3 4 9 14 := ⟨_, rfl⟩
      have EY : Kept ((((X7.set 3 y0).set 4 y1).set 9 y2).set 14 y3 = X8) := ⟨by rw [hY, hy0, hy1, hy2, hy3, hx0, hx1, hx2, hx3]; rfl⟩
      have E7 : Kept (X8 = qL X7 3 4 9 14) := ⟨hY⟩
      have HY : Kept (Ws X8) := ⟨by rw [hY]; exact HW.out.q 3 4 9 14⟩
      have LX : Kept (X7.length = 16) := ⟨HW.out.len⟩
      have CQ : Kept (Calls Tryz.prog 121 #[.int .u32 (x0 : Int), .int .u32 (x1 : Int), .int .u32 (x2 : Int), .int .u32 (x3 : Int)] v7 fun e w' => e = .returned (.tuple #[.int .u32 (y0 : Int), .int .u32 (y1 : Int), .int .u32 (y2 : Int), .int .u32 (y3 : Int)]) ∧ w' = v7) := ⟨by rw [hy0, hy1, hy2, hy3]; exact quarter_any x0 x1 x2 x3 v7 FF.out⟩
      clear hx0 hx1 hx2 hx3 hy0 hy1 hy2 hy3 hY HW FF
      go_wp2_with (first | (refine wl_elem rfl 72 ag_u32 (.tmp 132) rfl w.heap.size 3 rfl _ (.int .u32 (x0 : Int)) A0 G0.out ?_) | (refine wl_elem rfl 72 ag_u32 (.tmp 134) rfl w.heap.size 4 rfl _ (.int .u32 (x1 : Int)) A0 G1.out ?_) | (refine wl_elem rfl 72 ag_u32 (.tmp 136) rfl w.heap.size 9 rfl _ (.int .u32 (x2 : Int)) A0 G2.out ?_) | (refine wl_elem rfl 72 ag_u32 (.tmp 138) rfl w.heap.size 14 rfl _ (.int .u32 (x3 : Int)) A0 G3.out ?_))
      refine CQ.out.mono ?_
      rintro e w' ⟨rfl, hw'⟩
      obtain rfl := hw'.symm
      clear CQ G0 G1 G2 G3
      go_wp2_with (first | (refine wl_setElem rfl 72 sz_u32 (.tmp 145) (.tmp 141) rfl w.heap.size 3 .u32 (y0 : Int) rfl rfl _ A0 (by simp only [ints_size, List.length_set, LX.out]; decide) ?_))
      intro ua0 B0 P0
      rw [ints_set] at B0
      go_wp2_with (first | (refine wl_setElem rfl 72 sz_u32 (.tmp 146) (.tmp 142) rfl w.heap.size 4 .u32 (y1 : Int) rfl rfl _ B0 (by simp only [ints_size, List.length_set, LX.out]; decide) ?_))
      intro ua1 B1 P1
      rw [ints_set] at B1
      go_wp2_with (first | (refine wl_setElem rfl 72 sz_u32 (.tmp 147) (.tmp 143) rfl w.heap.size 9 .u32 (y2 : Int) rfl rfl _ B1 (by simp only [ints_size, List.length_set, LX.out]; decide) ?_))
      intro ua2 B2 P2
      rw [ints_set] at B2
      go_wp2_with (first | (refine wl_setElem rfl 72 sz_u32 (.tmp 148) (.tmp 144) rfl w.heap.size 14 .u32 (y3 : Int) rfl rfl _ B2 (by simp only [ints_size, List.length_set, LX.out]; decide) ?_))
      intro v8 B3 P3
      rw [ints_set] at B3
      rw [EY.out] at B3
      have HB' := (((HB.trans (P0.below (Nat.le_refl _))).trans (P1.below (Nat.le_refl _))).trans (P2.below (Nat.le_refl _))).trans (P3.below (Nat.le_refl _))
      have A1' := P3.blk (P2.blk (P1.blk (P0.blk A1 (by omega)) (by omega)) (by omega)) (by omega)
      clear A0 A1 HB P0 P1 P2 P3 B0 B1 B2 EY LX
      have A0 := B3
      have A1 := A1'
      have HB := HB'
      have HW := HY
      clear B3 A1' HB' HY
      have EF : Kept (X8 = mixT s (n + 1)) := ⟨by
        rw [dblL_eight E0.out E1.out E2.out E3.out E4.out E5.out E6.out E7.out, EX.out]
        rfl⟩
      clear E0 E1 E2 E3 E4 E5 E6 E7 EX
      go_wp2_with fail
      go_roundg (gk - 1)
      case measure => omega
      case rel => exact ⟨n + 1, X8, by omega, by simp, EF, HB, A0, A1⟩
    case neg =>
      have hi' : ¬ (n : Int) < 10 := by omega
      obtain rfl : X0 = L := by rw [EX.out, EL.out, show n = 10 by omega]
      clear EX
      go_wp2_with (first | (refine wl_load rfl 136 (.tmp 1) rfl _ rfl (ints .u32 X0) 16 72 Tryz.underlying136 (by rw [ints_size, LL.out]; exact ws_info) A0 ?_) | (refine wl_store rfl 136 (.tmp 2) (.tmp 150) rfl _ (ints .u32 X0) rfl rfl _ A1 (by rw [ints_size, LL.out]; exact ws_info) (by rw [ints_size, LL.out, LZ.out]) (ints_one _ _) ?_))
      intro w6 A6 P6
      go_wp2
      exact bodyPost_ret (v := .agg (ints .u32 X0)) (results_cell_row Tryz.results86 _ _ _ 136 (ints .u32 X0) (0, 0) _ rfl A6 Tryz.underlying136 rfl (by rw [ints_size, LL.out]; exact ws_info)) rfl ⟨rfl, HB.trans (P6.below (by omega))⟩
end Go.Proofs.YtjkdonjcngmjeaaGreatDoor.sh
