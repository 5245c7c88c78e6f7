/-
  General pieces, joined: XC XD XE XF XG XH XI XJ XK XL XU XM XN.
-/
import Derived.Test.YtpamcmhfimnfbaaBaseB
import Derived.Lib.BufferWrite
import Derived.Deep.Strs
/-
  All rounds of a block, by the program.
-/
namespace Go.Proofs.Ytpamcmhfimnfbaa.sh
open Go Go.RowKit
set_option linter.unusedVariables false
set_option linter.unusedSimpArgs false

theorem ws_info : (Try.prog.info? 59).map (·.size) = some 16 := by kernel_rfl
theorem dblL_eight {X0 X1 X2 X3 X4 X5 X6 X7 X8 : List Nat} (E0 : X1 = qL X0 0 4 8 12) (E1 : X2 = qL X1 1 5 9 13) (E2 : X3 = qL X2 2 6 10 14) (E3 : X4 = qL X3 3 7 11 15) (E4 : X5 = qL X4 0 5 10 15) (E5 : X6 = qL X5 1 6 11 12) (E6 : X7 = qL X6 2 7 8 13) (E7 : X8 = qL X7 3 4 9 14) : X8 = dblL X0 := by
  rw [E7, E6, E5, E4, E3, E2, E1, E0]
  rfl
set_option maxRecDepth 100000 in
set_option maxHeartbeats 4000000 in
theorem mixed_any (s : List Nat) (w : World) (hs : Ws s) :
    Calls Try.prog 32 #[.agg (ints .u32 s)] w fun e w' => e = .returned (.agg (ints .u32 (mixT s 10))) ∧ Below w.heap.size w w' := by
  have HS : Kept _ := ⟨hs⟩
  obtain ⟨L, hL⟩ : ∃ L, L = mixT s 10 := ⟨_, rfl⟩
  rw [← hL]
  have EL : Kept _ := ⟨hL⟩
  have LL : Kept (L.length = 16) := ⟨by rw [hL]; exact (hs.mix 10).len⟩
  have A0 : Blk ((w.alloc (.cells (ints .u32 s) 59)).alloc (.cells #[.int .u32 0, .int .u32 0, .int .u32 0, .int .u32 0, .int .u32 0, .int .u32 0, .int .u32 0, .int .u32 0, .int .u32 0, .int .u32 0, .int .u32 0, .int .u32 0, .int .u32 0, .int .u32 0, .int .u32 0, .int .u32 0] 59)) w.heap.size 59 (ints .u32 s) := (blk_new w _ _).alloc _
  have A1 : Blk ((w.alloc (.cells (ints .u32 s) 59)).alloc (.cells #[.int .u32 0, .int .u32 0, .int .u32 0, .int .u32 0, .int .u32 0, .int .u32 0, .int .u32 0, .int .u32 0, .int .u32 0, .int .u32 0, .int .u32 0, .int .u32 0, .int .u32 0, .int .u32 0, .int .u32 0, .int .u32 0] 59)) (w.heap.size + 1) 59 #[.int .u32 0, .int .u32 0, .int .u32 0, .int .u32 0, .int .u32 0, .int .u32 0, .int .u32 0, .int .u32 0, .int .u32 0, .int .u32 0, .int .u32 0, .int .u32 0, .int .u32 0, .int .u32 0, .int .u32 0, .int .u32 0] := blk_top _ _ _ _ (by simp)
  have Q0 : Below w.heap.size w ((w.alloc (.cells (ints .u32 s) 59)).alloc (.cells #[.int .u32 0, .int .u32 0, .int .u32 0, .int .u32 0, .int .u32 0, .int .u32 0, .int .u32 0, .int .u32 0, .int .u32 0, .int .u32 0, .int .u32 0, .int .u32 0, .int .u32 0, .int .u32 0, .int .u32 0, .int .u32 0] 59)) := ((Below.refl _ _).alloc (Nat.le_refl _) _).alloc (by simp) _
  clear hs hL
  go_enter Try.func32, Try.ntmps32
  go_wp2_with fail
  generalize hW : (w.alloc (.cells (ints .u32 s) 59)).alloc (.cells #[.int .u32 0, .int .u32 0, .int .u32 0, .int .u32 0, .int .u32 0, .int .u32 0, .int .u32 0, .int .u32 0, .int .u32 0, .int .u32 0, .int .u32 0, .int .u32 0, .int .u32 0, .int .u32 0, .int .u32 0, .int .u32 0] 59) = wa at *
  clear hW
  obtain ⟨ZZ, hZZ⟩ : ∃ ZZ : Array Value, ZZ = #[.int .u32 0, .int .u32 0, .int .u32 0, .int .u32 0, .int .u32 0, .int .u32 0, .int .u32 0, .int .u32 0, .int .u32 0, .int .u32 0, .int .u32 0, .int .u32 0, .int .u32 0, .int .u32 0, .int .u32 0, .int .u32 0] := ⟨_, rfl⟩
  have LZ : Kept (ZZ.size = 16) := ⟨by rw [hZZ]; rfl⟩
  rw [← hZZ] at A1
  clear hZZ
  go_loopg [3] 10 (fun k s3 wr => ∃ (n : Nat) (X : List Nat), n + k = 10 ∧ s3 = .int .i64 (n : Int) ∧ Kept (X = mixT s n) ∧ Below w.heap.size w wr ∧ Blk wr w.heap.size 59 (ints .u32 X) ∧ Blk wr (w.heap.size + 1) 59 ZZ)
  case atStart => exact ⟨0, s, by omega, rfl, ⟨rfl⟩, Q0, A0, A1⟩
  case round =>
    clear A0 A1 Q0
    obtain ⟨n, X0, hik, rfl, EX, HB, A0, A1⟩ := hrel
    rename World => v0
    by_cases hi : n < 10
    case pos =>
      have hi' : (n : Int) < 10 := by omega
      have HW : Kept (Ws X0) := ⟨by rw [EX.out]; exact HS.out.mix n⟩
      obtain ⟨x0, hx0⟩ : ∃ x, x = X0.getD 0 0 := ⟨_, rfl⟩
      have G0 : Kept ((ints .u32 X0)[0]? = some (.int .u32 (x0 : Int))) := ⟨ints_get (by rw [hx0]; exact HW.out.get 0 (by decide))⟩
      obtain ⟨x1, hx1⟩ : ∃ x, x = X0.getD 4 0 := ⟨_, rfl⟩
      have G1 : Kept ((ints .u32 X0)[4]? = some (.int .u32 (x1 : Int))) := ⟨ints_get (by rw [hx1]; exact HW.out.get 4 (by decide))⟩
      obtain ⟨x2, hx2⟩ : ∃ x, x = X0.getD 8 0 := ⟨_, rfl⟩
      have G2 : Kept ((ints .u32 X0)[8]? = some (.int .u32 (x2 : Int))) := ⟨ints_get (by rw [hx2]; exact HW.out.get 8 (by decide))⟩
      obtain ⟨x3, hx3⟩ : ∃ x, x = X0.getD 12 0 := ⟨_, rfl⟩
      have G3 : Kept ((ints .u32 X0)[12]? = some (.int .u32 (x3 : Int))) := ⟨ints_get (by rw [hx3]; exact HW.out.get 12 (by decide))⟩
      have FF : Kept (Four x0 x1 x2 x3) := ⟨by rw [hx0, hx1, hx2, hx3]; exact HW.out.four 0 4 8 12⟩
      obtain ⟨y0, hy0⟩ : ∃ y, y = qa2 x0 x1 x2 x3 := ⟨_, rfl⟩
      obtain ⟨y1, hy1⟩ : ∃ y, y = qb2 x0 x1 x2 x3 := ⟨_, rfl⟩
      obtain ⟨y2, hy2⟩ : ∃ y, y = qc2 x0 x1 x2 x3 := ⟨_, rfl⟩
      obtain ⟨y3, hy3⟩ : ∃ y, y = qd2 x0 x1 x2 x3 := ⟨_, rfl⟩
      obtain ⟨X1, hY⟩ : ∃ Y, Y = qL X0 0 4 8 12 := ⟨_, rfl⟩
      have EY : Kept ((((X0.set 0 y0).set 4 y1).set 8 y2).set 12 y3 = X1) := ⟨by rw [hY, hy0, hy1, hy2, hy3, hx0, hx1, hx2, hx3]; rfl⟩
      have E0 : Kept (X1 = qL X0 0 4 8 12) := ⟨hY⟩
      have HY : Kept (Ws X1) := ⟨by rw [hY]; exact HW.out.q 0 4 8 12⟩
      have LX : Kept (X0.length = 16) := ⟨HW.out.len⟩
      have CQ : Kept (Calls Try.prog 48 #[.int .u32 (x0 : Int), .int .u32 (x1 : Int), .int .u32 (x2 : Int), .int .u32 (x3 : Int)] v0 fun e w' => e = .returned (.tuple #[.int .u32 (y0 : Int), .int .u32 (y1 : Int), .int .u32 (y2 : Int), .int .u32 (y3 : Int)]) ∧ w' = v0) := ⟨by rw [hy0, hy1, hy2, hy3]; exact quarter_any x0 x1 x2 x3 v0 FF.out⟩
      clear hx0 hx1 hx2 hx3 hy0 hy1 hy2 hy3 hY HW FF
      go_wp2_with (first | (refine wl_elem rfl 38 ag_u32 (.tmp 6) rfl w.heap.size 0 rfl _ (.int .u32 (x0 : Int)) A0 G0.out ?_) | (refine wl_elem rfl 38 ag_u32 (.tmp 8) rfl w.heap.size 4 rfl _ (.int .u32 (x1 : Int)) A0 G1.out ?_) | (refine wl_elem rfl 38 ag_u32 (.tmp 10) rfl w.heap.size 8 rfl _ (.int .u32 (x2 : Int)) A0 G2.out ?_) | (refine wl_elem rfl 38 ag_u32 (.tmp 12) rfl w.heap.size 12 rfl _ (.int .u32 (x3 : Int)) A0 G3.out ?_))
      refine CQ.out.mono ?_
      rintro e w' ⟨rfl, hw'⟩
      obtain rfl := hw'.symm
      clear CQ G0 G1 G2 G3
      go_wp2_with (first | (refine wl_setElem rfl 38 sz_u32 (.tmp 19) (.tmp 15) rfl w.heap.size 0 .u32 (y0 : Int) rfl rfl _ A0 (by simp only [ints_size, List.length_set, LX.out]; decide) ?_))
      intro ua0 B0 P0
      rw [ints_set] at B0
      go_wp2_with (first | (refine wl_setElem rfl 38 sz_u32 (.tmp 20) (.tmp 16) rfl w.heap.size 4 .u32 (y1 : Int) rfl rfl _ B0 (by simp only [ints_size, List.length_set, LX.out]; decide) ?_))
      intro ua1 B1 P1
      rw [ints_set] at B1
      go_wp2_with (first | (refine wl_setElem rfl 38 sz_u32 (.tmp 21) (.tmp 17) rfl w.heap.size 8 .u32 (y2 : Int) rfl rfl _ B1 (by simp only [ints_size, List.length_set, LX.out]; decide) ?_))
      intro ua2 B2 P2
      rw [ints_set] at B2
      go_wp2_with (first | (refine wl_setElem rfl 38 sz_u32 (.tmp 22) (.tmp 18) rfl w.heap.size 12 .u32 (y3 : Int) rfl rfl _ B2 (by simp only [ints_size, List.length_set, LX.out]; decide) ?_))
      intro v1 B3 P3
      rw [ints_set] at B3
      rw [EY.out] at B3
      have HB' := (((HB.trans (P0.below (Nat.le_refl _))).trans (P1.below (Nat.le_refl _))).trans (P2.below (Nat.le_refl _))).trans (P3.below (Nat.le_refl _))
      have A1' := P3.blk (P2.blk (P1.blk (P0.blk A1 (by omega)) (by omega)) (by omega)) (by omega)
      clear A0 A1 HB P0 P1 P2 P3 B0 B1 B2 EY LX
      have A0 := B3
      have A1 := A1'
      have HB := HB'
      have HW := HY
      clear B3 A1' HB' HY
      obtain ⟨x0, hx0⟩ : ∃ x, x = X1.getD 1 0 := ⟨_, rfl⟩
      have G0 : Kept ((ints .u32 X1)[1]? = some (.int .u32 (x0 : Int))) := ⟨ints_get (by rw [hx0]; exact HW.out.get 1 (by decide))⟩
      obtain ⟨x1, hx1⟩ : ∃ x, x = X1.getD 5 0 := ⟨_, rfl⟩
      have G1 : Kept ((ints .u32 X1)[5]? = some (.int .u32 (x1 : Int))) := ⟨ints_get (by rw [hx1]; exact HW.out.get 5 (by decide))⟩
      obtain ⟨x2, hx2⟩ : ∃ x, x = X1.getD 9 0 := ⟨_, rfl⟩
      have G2 : Kept ((ints .u32 X1)[9]? = some (.int .u32 (x2 : Int))) := ⟨ints_get (by rw [hx2]; exact HW.out.get 9 (by decide))⟩
      obtain ⟨x3, hx3⟩ : ∃ x, x = X1.getD 13 0 := ⟨_, rfl⟩
      have G3 : Kept ((ints .u32 X1)[13]? = some (.int .u32 (x3 : Int))) := ⟨ints_get (by rw [hx3]; exact HW.out.get 13 (by decide))⟩
      have FF : Kept (Four x0 x1 x2 x3) := ⟨by rw [hx0, hx1, hx2, hx3]; exact HW.out.four 1 5 9 13⟩
      obtain ⟨y0, hy0⟩ : ∃ y, y = qa2 x0 x1 x2 x3 := ⟨_, rfl⟩
      obtain ⟨y1, hy1⟩ : ∃ y, y = qb2 x0 x1 x2 x3 := ⟨_, rfl⟩
      obtain ⟨y2, hy2⟩ : ∃ y, y = qc2 x0 x1 x2 x3 := ⟨_, rfl⟩
      obtain ⟨y3, hy3⟩ : ∃ y, y = qd2 x0 x1 x2 x3 := ⟨_, rfl⟩
      obtain ⟨X2, hY⟩ : ∃ Y, Y = qL X1 1 5 9 13 := ⟨_, rfl⟩
      have EY : Kept ((((X1.set 1 y0).set 5 y1).set 9 y2).set 13 y3 = X2) := ⟨by rw [hY, hy0, hy1, hy2, hy3, hx0, hx1, hx2, hx3]; rfl⟩
      have E1 : Kept (X2 = qL X1 1 5 9 13) := ⟨hY⟩
      have HY : Kept (Ws X2) := ⟨by rw [hY]; exact HW.out.q 1 5 9 13⟩
      have LX : Kept (X1.length = 16) := ⟨HW.out.len⟩
      have CQ : Kept (Calls Try.prog 48 #[.int .u32 (x0 : Int), .int .u32 (x1 : Int), .int .u32 (x2 : Int), .int .u32 (x3 : Int)] v1 fun e w' => e = .returned (.tuple #[.int .u32 (y0 : Int), .int .u32 (y1 : Int), .int .u32 (y2 : Int), .int .u32 (y3 : Int)]) ∧ w' = v1) := ⟨by rw [hy0, hy1, hy2, hy3]; exact quarter_any x0 x1 x2 x3 v1 FF.out⟩
      clear hx0 hx1 hx2 hx3 hy0 hy1 hy2 hy3 hY HW FF
      go_wp2_with (first | (refine wl_elem rfl 38 ag_u32 (.tmp 24) rfl w.heap.size 1 rfl _ (.int .u32 (x0 : Int)) A0 G0.out ?_) | (refine wl_elem rfl 38 ag_u32 (.tmp 26) rfl w.heap.size 5 rfl _ (.int .u32 (x1 : Int)) A0 G1.out ?_) | (refine wl_elem rfl 38 ag_u32 (.tmp 28) rfl w.heap.size 9 rfl _ (.int .u32 (x2 : Int)) A0 G2.out ?_) | (refine wl_elem rfl 38 ag_u32 (.tmp 30) rfl w.heap.size 13 rfl _ (.int .u32 (x3 : Int)) A0 G3.out ?_))
      refine CQ.out.mono ?_
      rintro e w' ⟨rfl, hw'⟩
      obtain rfl := hw'.symm
      clear CQ G0 G1 G2 G3
      go_wp2_with (first | (refine wl_setElem rfl 38 sz_u32 (.tmp 37) (.tmp 33) rfl w.heap.size 1 .u32 (y0 : Int) rfl rfl _ A0 (by simp only [ints_size, List.length_set, LX.out]; decide) ?_))
      intro ua0 B0 P0
      rw [ints_set] at B0
      go_wp2_with (first | (refine wl_setElem rfl 38 sz_u32 (.tmp 38) (.tmp 34) rfl w.heap.size 5 .u32 (y1 : Int) rfl rfl _ B0 (by simp only [ints_size, List.length_set, LX.out]; decide) ?_))
      intro ua1 B1 P1
      rw [ints_set] at B1
      go_wp2_with (first | (refine wl_setElem rfl 38 sz_u32 (.tmp 39) (.tmp 35) rfl w.heap.size 9 .u32 (y2 : Int) rfl rfl _ B1 (by simp only [ints_size, List.length_set, LX.out]; decide) ?_))
      intro ua2 B2 P2
      rw [ints_set] at B2
      go_wp2_with (first | (refine wl_setElem rfl 38 sz_u32 (.tmp 40) (.tmp 36) rfl w.heap.size 13 .u32 (y3 : Int) rfl rfl _ B2 (by simp only [ints_size, List.length_set, LX.out]; decide) ?_))
      intro v2 B3 P3
      rw [ints_set] at B3
      rw [EY.out] at B3
      have HB' := (((HB.trans (P0.below (Nat.le_refl _))).trans (P1.below (Nat.le_refl _))).trans (P2.below (Nat.le_refl _))).trans (P3.below (Nat.le_refl _))
      have A1' := P3.blk (P2.blk (P1.blk (P0.blk A1 (by omega)) (by omega)) (by omega)) (by omega)
      clear A0 A1 HB P0 P1 P2 P3 B0 B1 B2 EY LX
      have A0 := B3
      have A1 := A1'
      have HB := HB'
      have HW := HY
      clear B3 A1' HB' HY
      obtain ⟨x0, hx0⟩ : ∃ x, x = X2.getD 2 0 := ⟨_, rfl⟩
      have G0 : Kept ((ints .u32 X2)[2]? = some (.int .u32 (x0 : Int))) := ⟨ints_get (by rw [hx0]; exact HW.out.get 2 (by decide))⟩
      obtain ⟨x1, hx1⟩ : ∃ x, x = X2.getD 6 0 := ⟨_, rfl⟩
      have G1 : Kept ((ints .u32 X2)[6]? = some (.int .u32 (x1 : Int))) := ⟨ints_get (by rw [hx1]; exact HW.out.get 6 (by decide))⟩
      obtain ⟨x2, hx2⟩ : ∃ x, x = X2.getD 10 0 := ⟨_, rfl⟩
      have G2 : Kept ((ints .u32 X2)[10]? = some (.int .u32 (x2 : Int))) := ⟨ints_get (by rw [hx2]; exact HW.out.get 10 (by decide))⟩
      obtain ⟨x3, hx3⟩ : ∃ x, x = X2.getD 14 0 := ⟨_, rfl⟩
      have G3 : Kept ((ints .u32 X2)[14]? = some (.int .u32 (x3 : Int))) := ⟨ints_get (by rw [hx3]; exact HW.out.get 14 (by decide))⟩
      have FF : Kept (Four x0 x1 x2 x3) := ⟨by rw [hx0, hx1, hx2, hx3]; exact HW.out.four 2 6 10 14⟩
      obtain ⟨y0, hy0⟩ : ∃ y, y = qa2 x0 x1 x2 x3 := ⟨_, rfl⟩
      obtain ⟨y1, hy1⟩ : ∃ y, y = qb2 x0 x1 x2 x3 := ⟨_, rfl⟩
      obtain ⟨y2, hy2⟩ : ∃ y, y = qc2 x0 x1 x2 x3 := ⟨_, rfl⟩
      obtain ⟨y3, hy3⟩ : ∃ y, y = qd2 x0 x1 x2 x3 := ⟨_, rfl⟩
      obtain ⟨X3, hY⟩ : ∃ Y, Y = qL X2 2 6 10 14 := ⟨_, rfl⟩
      have EY : Kept ((((X2.set 2 y0).set 6 y1).set 10 y2).set 14 y3 = X3) := ⟨by rw [hY, hy0, hy1, hy2, hy3, hx0, hx1, hx2, hx3]; rfl⟩
      have E2 : Kept (X3 = qL X2 2 6 10 14) := ⟨hY⟩
      have HY : Kept (Ws X3) := ⟨by rw [hY]; exact HW.out.q 2 6 10 14⟩
      have LX : Kept (X2.length = 16) := ⟨HW.out.len⟩
      have CQ : Kept (Calls Try.prog 48 #[.int .u32 (x0 : Int), .int .u32 (x1 : Int), .int .u32 (x2 : Int), .int .u32 (x3 : Int)] v2 fun e w' => e = .returned (.tuple #[.int .u32 (y0 : Int), .int .u32 (y1 : Int), .int .u32 (y2 : Int), .int .u32 (y3 : Int)]) ∧ w' = v2) := ⟨by rw [hy0, hy1, hy2, hy3]; exact quarter_any x0 x1 x2 x3 v2 FF.out⟩
      clear hx0 hx1 hx2 hx3 hy0 hy1 hy2 hy3 hY HW FF
      go_wp2_with (first | (refine wl_elem rfl 38 ag_u32 (.tmp 42) rfl w.heap.size 2 rfl _ (.int .u32 (x0 : Int)) A0 G0.out ?_) | (refine wl_elem rfl 38 ag_u32 (.tmp 44) rfl w.heap.size 6 rfl _ (.int .u32 (x1 : Int)) A0 G1.out ?_) | (refine wl_elem rfl 38 ag_u32 (.tmp 46) rfl w.heap.size 10 rfl _ (.int .u32 (x2 : Int)) A0 G2.out ?_) | (refine wl_elem rfl 38 ag_u32 (.tmp 48) rfl w.heap.size 14 rfl _ (.int .u32 (x3 : Int)) A0 G3.out ?_))
      refine CQ.out.mono ?_
      rintro e w' ⟨rfl, hw'⟩
      obtain rfl := hw'.symm
      clear CQ G0 G1 G2 G3
      go_wp2_with (first | (refine wl_setElem rfl 38 sz_u32 (.tmp 55) (.tmp 51) rfl w.heap.size 2 .u32 (y0 : Int) rfl rfl _ A0 (by simp only [ints_size, List.length_set, LX.out]; decide) ?_))
      intro ua0 B0 P0
      rw [ints_set] at B0
      go_wp2_with (first | (refine wl_setElem rfl 38 sz_u32 (.tmp 56) (.tmp 52) rfl w.heap.size 6 .u32 (y1 : Int) rfl rfl _ B0 (by simp only [ints_size, List.length_set, LX.out]; decide) ?_))
      intro ua1 B1 P1
      rw [ints_set] at B1
      go_wp2_with (first | (refine wl_setElem rfl 38 sz_u32 (.tmp 57) (.tmp 53) rfl w.heap.size 10 .u32 (y2 : Int) rfl rfl _ B1 (by simp only [ints_size, List.length_set, LX.out]; decide) ?_))
      intro ua2 B2 P2
      rw [ints_set] at B2
      go_wp2_with (first | (refine wl_setElem rfl 38 sz_u32 (.tmp 58) (.tmp 54) rfl w.heap.size 14 .u32 (y3 : Int) rfl rfl _ B2 (by simp only [ints_size, List.length_set, LX.out]; decide) ?_))
      intro v3 B3 P3
      rw [ints_set] at B3
      rw [EY.out] at B3
      have HB' := (((HB.trans (P0.below (Nat.le_refl _))).trans (P1.below (Nat.le_refl _))).trans (P2.below (Nat.le_refl _))).trans (P3.below (Nat.le_refl _))
      have A1' := P3.blk (P2.blk (P1.blk (P0.blk A1 (by omega)) (by omega)) (by omega)) (by omega)
      clear A0 A1 HB P0 P1 P2 P3 B0 B1 B2 EY LX
      have A0 := B3
      have A1 := A1'
      have HB := HB'
      have HW := HY
      clear B3 A1' HB' HY
      obtain ⟨x0, hx0⟩ : ∃ x, x = X3.getD 3 0 := ⟨_, rfl⟩
      have G0 : Kept ((ints .u32 X3)[3]? = some (.int .u32 (x0 : Int))) := ⟨ints_get (by rw [hx0]; exact HW.out.get 3 (by decide))⟩
      obtain ⟨x1, hx1⟩ : ∃ x, x = X3.getD 7 0 := ⟨_, rfl⟩
      have G1 : Kept ((ints .u32 X3)[7]? = some (.int .u32 (x1 : Int))) := ⟨ints_get (by rw [hx1]; exact HW.out.get 7 (by decide))⟩
      obtain ⟨x2, hx2⟩ : ∃ x, x = X3.getD 11 0 := ⟨_, rfl⟩
      have G2 : Kept ((ints .u32 X3)[11]? = some (.int .u32 (x2 : Int))) := ⟨ints_get (by rw [hx2]; exact HW.out.get 11 (by decide))⟩
      obtain ⟨x3, hx3⟩ : ∃ x, x = X3.getD 15 0 := ⟨_, rfl⟩
      have G3 : Kept ((ints .u32 X3)[15]? = some (.int .u32 (x3 : Int))) := ⟨ints_get (by rw [hx3]; exact HW.out.get 15 (by decide))⟩
      have FF : Kept (Four x0 x1 x2 x3) := ⟨by rw [hx0, hx1, hx2, hx3]; exact HW.out.four 3 7 11 15⟩
      obtain ⟨y0, hy0⟩ : ∃ y, y = qa2 x0 x1 x2 x3 := ⟨_, rfl⟩
      obtain ⟨y1, hy1⟩ : ∃ y, y = qb2 x0 x1 x2 x3 := ⟨_, rfl⟩
      obtain ⟨y2, hy2⟩ : ∃ y, y = qc2 x0 x1 x2 x3 := ⟨_, rfl⟩
      obtain ⟨y3, hy3⟩ : ∃ y, y = qd2 x0 x1 x2 x3 := ⟨_, rfl⟩
      obtain ⟨X4, hY⟩ : ∃ Y, Y = qL X3 3 7 11 15 := ⟨_, rfl⟩
      have EY : Kept ((((X3.set 3 y0).set 7 y1).set 11 y2).set 15 y3 = X4) := ⟨by rw [hY, hy0, hy1, hy2, hy3, hx0, hx1, hx2, hx3]; rfl⟩
      have E3 : Kept (X4 = qL X3 3 7 11 15) := ⟨hY⟩
      have HY : Kept (Ws X4) := ⟨by rw [hY]; exact HW.out.q 3 7 11 15⟩
      have LX : Kept (X3.length = 16) := ⟨HW.out.len⟩
      have CQ : Kept (Calls Try.prog 48 #[.int .u32 (x0 : Int), .int .u32 (x1 : Int), .int .u32 (x2 : Int), .int .u32 (x3 : Int)] v3 fun e w' => e = .returned (.tuple #[.int .u32 (y0 : Int), .int .u32 (y1 : Int), .int .u32 (y2 : Int), .int .u32 (y3 : Int)]) ∧ w' = v3) := ⟨by rw [hy0, hy1, hy2, hy3]; exact quarter_any x0 x1 x2 x3 v3 FF.out⟩
      clear hx0 hx1 hx2 hx3 hy0 hy1 hy2 hy3 hY HW FF
      go_wp2_with (first | (refine wl_elem rfl 38 ag_u32 (.tmp 60) rfl w.heap.size 3 rfl _ (.int .u32 (x0 : Int)) A0 G0.out ?_) | (refine wl_elem rfl 38 ag_u32 (.tmp 62) rfl w.heap.size 7 rfl _ (.int .u32 (x1 : Int)) A0 G1.out ?_) | (refine wl_elem rfl 38 ag_u32 (.tmp 64) rfl w.heap.size 11 rfl _ (.int .u32 (x2 : Int)) A0 G2.out ?_) | (refine wl_elem rfl 38 ag_u32 (.tmp 66) rfl w.heap.size 15 rfl _ (.int .u32 (x3 : Int)) A0 G3.out ?_))
      refine CQ.out.mono ?_
      rintro e w' ⟨rfl, hw'⟩
      obtain rfl := hw'.symm
      clear CQ G0 G1 G2 G3
      go_wp2_with (first | (refine wl_setElem rfl 38 sz_u32 (.tmp 73) (.tmp 69) rfl w.heap.size 3 .u32 (y0 : Int) rfl rfl _ A0 (by simp only [ints_size, List.length_set, LX.out]; decide) ?_))
      intro ua0 B0 P0
      rw [ints_set] at B0
      go_wp2_with (first | (refine wl_setElem rfl 38 sz_u32 (.tmp 74) (.tmp 70) rfl w.heap.size 7 .u32 (y1 : Int) rfl rfl _ B0 (by simp only [ints_size, List.length_set, LX.out]; decide) ?_))
      intro ua1 B1 P1
      rw [ints_set] at B1
      go_wp2_with (first | (refine wl_setElem rfl 38 sz_u32 (.tmp 75) (.tmp 71) rfl w.heap.size 11 .u32 (y2 : Int) rfl rfl _ B1 (by simp only [ints_size, List.length_set, LX.out]; decide) ?_))
      intro ua2 B2 P2
      rw [ints_set] at B2
      go_wp2_with (first | (refine wl_setElem rfl 38 sz_u32 (.tmp 76) (.tmp 72) rfl w.heap.size 15 .u32 (y3 : Int) rfl rfl _ B2 (by simp only [ints_size, List.length_set, LX.out]; decide) ?_))
      intro v4 B3 P3
      rw [ints_set] at B3
      rw [EY.out] at B3
      have HB' := (((HB.trans (P0.below (Nat.le_refl _))).trans (P1.below (Nat.le_refl _))).trans (P2.below (Nat.le_refl _))).trans (P3.below (Nat.le_refl _))
      have A1' := P3.blk (P2.blk (P1.blk (P0.blk A1 (by omega)) (by omega)) (by omega)) (by omega)
      clear A0 A1 HB P0 P1 P2 P3 B0 B1 B2 EY LX
      have A0 := B3
      have A1 := A1'
      have HB := HB'
      have HW := HY
      clear B3 A1' HB' HY
      obtain ⟨x0, hx0⟩ : ∃ x, x = X4.getD 0 0 := ⟨_, rfl⟩
      have G0 : Kept ((ints .u32 X4)[0]? = some (.int .u32 (x0 : Int))) := ⟨ints_get (by rw [hx0]; exact HW.out.get 0 (by decide))⟩
      obtain ⟨x1, hx1⟩ : ∃ x, x = X4.getD 5 0 := ⟨_, rfl⟩
      have G1 : Kept ((ints .u32 X4)[5]? = some (.int .u32 (x1 : Int))) := ⟨ints_get (by rw [hx1]; exact HW.out.get 5 (by decide))⟩
      obtain ⟨x2, hx2⟩ : ∃ x, x = X4.getD 10 0 := ⟨_, rfl⟩
      have G2 : Kept ((ints .u32 X4)[10]? = some (.int .u32 (x2 : Int))) := ⟨ints_get (by rw [hx2]; exact HW.out.get 10 (by decide))⟩
      obtain ⟨x3, hx3⟩ : ∃ x, x = X4.getD 15 0 := ⟨_, rfl⟩
      have G3 : Kept ((ints .u32 X4)[15]? = some (.int .u32 (x3 : Int))) := ⟨ints_get (by rw [hx3]; exact HW.out.get 15 (by decide))⟩
      have FF : Kept (Four x0 x1 x2 x3) := ⟨by rw [hx0, hx1, hx2, hx3]; exact HW.out.four 0 5 10 15⟩
      obtain ⟨y0, hy0⟩ : ∃ y, y = qa2 x0 x1 x2 x3 := ⟨_, rfl⟩
      obtain ⟨y1, hy1⟩ : ∃ y, y = qb2 x0 x1 x2 x3 := ⟨_, rfl⟩
      obtain ⟨y2, hy2⟩ : ∃ y, y = qc2 x0 x1 x2 x3 := ⟨_, rfl⟩
      obtain ⟨y3, hy3⟩ : ∃ y, y = qd2 x0 x1 x2 x3 := ⟨_, rfl⟩
      obtain ⟨X5, hY⟩ : ∃ Y, Y = qL X4 0 5 10 15 := ⟨_, rfl⟩
      have EY : Kept ((((X4.set 0 y0).set 5 y1).set 10 y2).set 15 y3 = X5) := ⟨by rw [hY, hy0, hy1, hy2, hy3, hx0, hx1, hx2, hx3]; rfl⟩
      have E4 : Kept (X5 = qL X4 0 5 10 15) := ⟨hY⟩
      have HY : Kept (Ws X5) := ⟨by rw [hY]; exact HW.out.q 0 5 10 15⟩
      have LX : Kept (X4.length = 16) := ⟨HW.out.len⟩
      have CQ : Kept (Calls Try.prog 48 #[.int .u32 (x0 : Int), .int .u32 (x1 : Int), .int .u32 (x2 : Int), .int .u32 (x3 : Int)] v4 fun e w' => e = .returned (.tuple #[.int .u32 (y0 : Int), .int .u32 (y1 : Int), .int .u32 (y2 : Int), .int .u32 (y3 : Int)]) ∧ w' = v4) := ⟨by rw [hy0, hy1, hy2, hy3]; exact quarter_any x0 x1 x2 x3 v4 FF.out⟩
      clear hx0 hx1 hx2 hx3 hy0 hy1 hy2 hy3 hY HW FF
      go_wp2_with (first | (refine wl_elem rfl 38 ag_u32 (.tmp 78) rfl w.heap.size 0 rfl _ (.int .u32 (x0 : Int)) A0 G0.out ?_) | (refine wl_elem rfl 38 ag_u32 (.tmp 80) rfl w.heap.size 5 rfl _ (.int .u32 (x1 : Int)) A0 G1.out ?_) | (refine wl_elem rfl 38 ag_u32 (.tmp 82) rfl w.heap.size 10 rfl _ (.int .u32 (x2 : Int)) A0 G2.out ?_) | (refine wl_elem rfl 38 ag_u32 (.tmp 84) rfl w.heap.size 15 rfl _ (.int .u32 (x3 : Int)) A0 G3.out ?_))
      refine CQ.out.mono ?_
      rintro e w' ⟨rfl, hw'⟩
      obtain rfl := hw'.symm
      clear CQ G0 G1 G2 G3
      go_wp2_with (first | (refine wl_setElem rfl 38 sz_u32 (.tmp 91) (.tmp 87) rfl w.heap.size 0 .u32 (y0 : Int) rfl rfl _ A0 (by simp only [ints_size, List.length_set, LX.out]; decide) ?_))
      intro ua0 B0 P0
      rw [ints_set] at B0
      go_wp2_with (first | (refine wl_setElem rfl 38 sz_u32 (.tmp 92) (.tmp 88) rfl w.heap.size 5 .u32 (y1 : Int) rfl rfl _ B0 (by simp only [ints_size, List.length_set, LX.out]; decide) ?_))
      intro ua1 B1 P1
      rw [ints_set] at B1
      go_wp2_with (first | (refine wl_setElem rfl 38 sz_u32 (.tmp 93) (.tmp 89) rfl w.heap.size 10 .u32 (y2 : Int) rfl rfl _ B1 (by simp only [ints_size, List.length_set, LX.out]; decide) ?_))
      intro ua2 B2 P2
      rw [ints_set] at B2
      go_wp2_with (first | (refine wl_setElem rfl 38 sz_u32 (.tmp 94) (.tmp 90) rfl w.heap.size 15 .u32 (y3 : Int) rfl rfl _ B2 (by simp only [ints_size, List.length_set, LX.out]; decide) ?_))
      intro v5 B3 P3
      rw [ints_set] at B3
      rw [EY.out] at B3
      have HB' := (((HB.trans (P0.below (Nat.le_refl _))).trans (P1.below (Nat.le_refl _))).trans (P2.below (Nat.le_refl _))).trans (P3.below (Nat.le_refl _))
      have A1' := P3.blk (P2.blk (P1.blk (P0.blk A1 (by omega)) (by omega)) (by omega)) (by omega)
      clear A0 A1 HB P0 P1 P2 P3 B0 B1 B2 EY LX
      have A0 := B3
      have A1 := A1'
      have HB := HB'
      have HW := HY
      clear B3 A1' HB' HY
      obtain ⟨x0, hx0⟩ : ∃ x, x = X5.getD 1 0 := ⟨_, rfl⟩
      have G0 : Kept ((ints .u32 X5)[1]? = some (.int .u32 (x0 : Int))) := ⟨ints_get (by rw [hx0]; exact HW.out.get 1 (by decide))⟩
      obtain ⟨x1, hx1⟩ : ∃ x, x = X5.getD 6 0 := ⟨_, rfl⟩
      have G1 : Kept ((ints .u32 X5)[6]? = some (.int .u32 (x1 : Int))) := ⟨ints_get (by rw [hx1]; exact HW.out.get 6 (by decide))⟩
      obtain ⟨x2, hx2⟩ : ∃ x, x = X5.getD 11 0 := ⟨_, rfl⟩
      have G2 : Kept ((ints .u32 X5)[11]? = some (.int .u32 (x2 : Int))) := ⟨ints_get (by rw [hx2]; exact HW.out.get 11 (by decide))⟩
      obtain ⟨x3, hx3⟩ : ∃ x, x = X5.getD 12 0 := ⟨_, rfl⟩
      have G3 : Kept ((ints .u32 X5)[12]? = some (.int .u32 (x3 : Int))) := ⟨ints_get (by rw [hx3]; exact HW.out.get 12 (by decide))⟩
      have FF : Kept (Four x0 x1 x2 x3) := ⟨by rw [hx0, hx1, hx2, hx3]; exact HW.out.four 1 6 11 12⟩
      obtain ⟨y0, hy0⟩ : ∃ y, y = qa2 x0 x1 x2 x3 := ⟨_, rfl⟩
      obtain ⟨y1, hy1⟩ : ∃ y, y = qb2 x0 x1 x2 x3 := ⟨_, rfl⟩
      obtain ⟨y2, hy2⟩ : ∃ y, y = qc2 x0 x1 x2 x3 := ⟨_, rfl⟩
      obtain ⟨y3, hy3⟩ : ∃ y, y = qd2 x0 x1 x2 x3 := ⟨_, rfl⟩
      obtain ⟨X6, hY⟩ : ∃ Y, Y = qL X5 1 6 11 12 := ⟨_, rfl⟩
      have EY : Kept ((((X5.set 1 y0).set 6 y1).set 11 y2).set 12 y3 = X6) := ⟨by rw [hY, hy0, hy1, hy2, hy3, hx0, hx1, hx2, hx3]; rfl⟩
      have E5 : Kept (X6 = qL X5 1 6 11 12) := ⟨hY⟩
      have HY : Kept (Ws X6) := ⟨by rw [hY]; exact HW.out.q 1 6 11 12⟩
      have LX : Kept (X5.length = 16) := ⟨HW.out.len⟩
      have CQ : Kept (Calls Try.prog 48 #[.int .u32 (x0 : Int), .int .u32 (x1 : Int), .int .u32 (x2 : Int), .int .u32 (x3 : Int)] v5 fun e w' => e = .returned (.tuple #[.int .u32 (y0 : Int), .int .u32 (y1 : Int), .int .u32 (y2 : Int), .int .u32 (y3 : Int)]) ∧ w' = v5) := ⟨by rw [hy0, hy1, hy2, hy3]; exact quarter_any x0 x1 x2 x3 v5 FF.out⟩
      clear hx0 hx1 hx2 hx3 hy0 hy1 hy2 hy3 hY HW FF
      go_wp2_with (first | (refine wl_elem rfl 38 ag_u32 (.tmp 96) rfl w.heap.size 1 rfl _ (.int .u32 (x0 : Int)) A0 G0.out ?_) | (refine wl_elem rfl 38 ag_u32 (.tmp 98) rfl w.heap.size 6 rfl _ (.int .u32 (x1 : Int)) A0 G1.out ?_) | (refine wl_elem rfl 38 ag_u32 (.tmp 100) rfl w.heap.size 11 rfl _ (.int .u32 (x2 : Int)) A0 G2.out ?_) | (refine wl_elem rfl 38 ag_u32 (.tmp 102) rfl w.heap.size 12 rfl _ (.int .u32 (x3 : Int)) A0 G3.out ?_))
      refine CQ.out.mono ?_
      rintro e w' ⟨rfl, hw'⟩
      obtain rfl := hw'.symm
      clear CQ G0 G1 G2 G3
      go_wp2_with (first | (refine wl_setElem rfl 38 sz_u32 (.tmp 109) (.tmp 105) rfl w.heap.size 1 .u32 (y0 : Int) rfl rfl _ A0 (by simp only [ints_size, List.length_set, LX.out]; decide) ?_))
      intro ua0 B0 P0
      rw [ints_set] at B0
      go_wp2_with (first | (refine wl_setElem rfl 38 sz_u32 (.tmp 110) (.tmp 106) rfl w.heap.size 6 .u32 (y1 : Int) rfl rfl _ B0 (by simp only [ints_size, List.length_set, LX.out]; decide) ?_))
      intro ua1 B1 P1
      rw [ints_set] at B1
      go_wp2_with (first | (refine wl_setElem rfl 38 sz_u32 (.tmp 111) (.tmp 107) rfl w.heap.size 11 .u32 (y2 : Int) rfl rfl _ B1 (by simp only [ints_size, List.length_set, LX.out]; decide) ?_))
      intro ua2 B2 P2
      rw [ints_set] at B2
      go_wp2_with (first | (refine wl_setElem rfl 38 sz_u32 (.tmp 112) (.tmp 108) rfl w.heap.size 12 .u32 (y3 : Int) rfl rfl _ B2 (by simp only [ints_size, List.length_set, LX.out]; decide) ?_))
      intro v6 B3 P3
      rw [ints_set] at B3
      rw [EY.out] at B3
      have HB' := (((HB.trans (P0.below (Nat.le_refl _))).trans (P1.below (Nat.le_refl _))).trans (P2.below (Nat.le_refl _))).trans (P3.below (Nat.le_refl _))
      have A1' := P3.blk (P2.blk (P1.blk (P0.blk A1 (by omega)) (by omega)) (by omega)) (by omega)
      clear A0 A1 HB P0 P1 P2 P3 B0 B1 B2 EY LX
      have A0 := B3
      have A1 := A1'
      have HB := HB'
      have HW := HY
      clear B3 A1' HB' HY
      obtain ⟨x0, hx0⟩ : ∃ x, x = X6.getD 2 0 := ⟨_, rfl⟩
      have G0 : Kept ((ints .u32 X6)[2]? = some (.int .u32 (x0 : Int))) := ⟨ints_get (by rw [hx0]; exact HW.out.get 2 (by decide))⟩
      obtain ⟨x1, hx1⟩ : ∃ x, x = X6.getD 7 0 := ⟨_, rfl⟩
      have G1 : Kept ((ints .u32 X6)[7]? = some (.int .u32 (x1 : Int))) := ⟨ints_get (by rw [hx1]; exact HW.out.get 7 (by decide))⟩
      obtain ⟨x2, hx2⟩ : ∃ x, x = X6.getD 8 0 := ⟨_, rfl⟩
      have G2 : Kept ((ints .u32 X6)[8]? = some (.int .u32 (x2 : Int))) := ⟨ints_get (by rw [hx2]; exact HW.out.get 8 (by decide))⟩
      obtain ⟨x3, hx3⟩ : ∃ x, x = X6.getD 13 0 := ⟨_, rfl⟩
      have G3 : Kept ((ints .u32 X6)[13]? = some (.int .u32 (x3 : Int))) := ⟨ints_get (by rw [hx3]; exact HW.out.get 13 (by decide))⟩
      have FF : Kept (Four x0 x1 x2 x3) := ⟨by rw [hx0, hx1, hx2, hx3]; exact HW.out.four 2 7 8 13⟩
      obtain ⟨y0, hy0⟩ : ∃ y, y = qa2 x0 x1 x2 x3 := ⟨_, rfl⟩
      obtain ⟨y1, hy1⟩ : ∃ y, y = qb2 x0 x1 x2 x3 := ⟨_, rfl⟩
      obtain ⟨y2, hy2⟩ : ∃ y, y = qc2 x0 x1 x2 x3 := ⟨_, rfl⟩
      obtain ⟨y3, hy3⟩ : ∃ y, y = qd2 x0 x1 x2 x3 := ⟨_, rfl⟩
      obtain ⟨X7, hY⟩ : ∃ Y, Y = qL X6 2 7 8 13 := ⟨_, rfl⟩
      have EY : Kept ((((X6.set 2 y0).set 7 y1).set 8 y2).set 13 y3 = X7) := ⟨by rw [hY, hy0, hy1, hy2, hy3, hx0, hx1, hx2, hx3]; rfl⟩
      have E6 : Kept (X7 = qL X6 2 7 8 13) := ⟨hY⟩
      have HY : Kept (Ws X7) := ⟨by rw [hY]; exact HW.out.q 2 7 8 13⟩
      have LX : Kept (X6.length = 16) := ⟨HW.out.len⟩
      have CQ : Kept (Calls Try.prog 48 #[.int .u32 (x0 : Int), .int .u32 (x1 : Int), .int .u32 (x2 : Int), .int .u32 (x3 : Int)] v6 fun e w' => e = .returned (.tuple #[.int .u32 (y0 : Int), .int .u32 (y1 : Int), .int .u32 (y2 : Int), .int .u32 (y3 : Int)]) ∧ w' = v6) := ⟨by rw [hy0, hy1, hy2, hy3]; exact quarter_any x0 x1 x2 x3 v6 FF.out⟩
      clear hx0 hx1 hx2 hx3 hy0 hy1 hy2 hy3 hY HW FF
      go_wp2_with (first | (refine wl_elem rfl 38 ag_u32 (.tmp 114) rfl w.heap.size 2 rfl _ (.int .u32 (x0 : Int)) A0 G0.out ?_) | (refine wl_elem rfl 38 ag_u32 (.tmp 116) rfl w.heap.size 7 rfl _ (.int .u32 (x1 : Int)) A0 G1.out ?_) | (refine wl_elem rfl 38 ag_u32 (.tmp 118) rfl w.heap.size 8 rfl _ (.int .u32 (x2 : Int)) A0 G2.out ?_) | (refine wl_elem rfl 38 ag_u32 (.tmp 120) rfl w.heap.size 13 rfl _ (.int .u32 (x3 : Int)) A0 G3.out ?_))
      refine CQ.out.mono ?_
      rintro e w' ⟨rfl, hw'⟩
      obtain rfl := hw'.symm
      clear CQ G0 G1 G2 G3
      go_wp2_with (first | (refine wl_setElem rfl 38 sz_u32 (.tmp 127) (.tmp 123) rfl w.heap.size 2 .u32 (y0 : Int) rfl rfl _ A0 (by simp only [ints_size, List.length_set, LX.out]; decide) ?_))
      intro ua0 B0 P0
      rw [ints_set] at B0
      go_wp2_with (first | (refine wl_setElem rfl 38 sz_u32 (.tmp 128) (.tmp 124) rfl w.heap.size 7 .u32 (y1 : Int) rfl rfl _ B0 (by simp only [ints_size, List.length_set, LX.out]; decide) ?_))
      intro ua1 B1 P1
      rw [ints_set] at B1
      go_wp2_with (first | (refine wl_setElem rfl 38 sz_u32 (.tmp 129) (.tmp 125) rfl w.heap.size 8 .u32 (y2 : Int) rfl rfl _ B1 (by simp only [ints_size, List.length_set, LX.out]; decide) ?_))
      intro ua2 B2 P2
      rw [ints_set] at B2
      go_wp2_with (first | (refine wl_setElem rfl 38 sz_u32 (.tmp 130) (.tmp 126) rfl w.heap.size 13 .u32 (y3 : Int) rfl rfl _ B2 (by simp only [ints_size, List.length_set, LX.out]; decide) ?_))
      intro v7 B3 P3
      rw [ints_set] at B3
      rw [EY.out] at B3
      have HB' := (((HB.trans (P0.below (Nat.le_refl _))).trans (P1.below (Nat.le_refl _))).trans (P2.below (Nat.le_refl _))).trans (P3.below (Nat.le_refl _))
      have A1' := P3.blk (P2.blk (P1.blk (P0.blk A1 (by omega)) (by omega)) (by omega)) (by omega)
      clear A0 A1 HB P0 P1 P2 P3 B0 B1 B2 EY LX
      have A0 := B3
      have A1 := A1'
      have HB := HB'
      have HW := HY
      clear B3 A1' HB' HY
      obtain ⟨x0, hx0⟩ : ∃ x, x = X7.getD 3 0 := ⟨_, rfl⟩
      have G0 : Kept ((ints .u32 X7)[3]? = some (.int .u32 (x0 : Int))) := ⟨ints_get (by rw [hx0]; exact HW.out.get 3 (by decide))⟩
      obtain ⟨x1, hx1⟩ : ∃ x, x = X7.getD 4 0 := ⟨_, rfl⟩
      have G1 : Kept ((ints .u32 X7)[4]? = some (.int .u32 (x1 : Int))) := ⟨ints_get (by rw [hx1]; exact HW.out.get 4 (by decide))⟩
      obtain ⟨x2, hx2⟩ : ∃ x, x = X7.getD 9 0 := ⟨_, rfl⟩
      have G2 : Kept ((ints .u32 X7)[9]? = some (.int .u32 (x2 : Int))) := ⟨ints_get (by rw [hx2]; exact HW.out.get 9 (by decide))⟩
      obtain ⟨x3, hx3⟩ : ∃ x, x = X7.getD 14 0 := ⟨_, rfl⟩
      have G3 : Kept ((ints .u32 X7)[14]? = some (.int .u32 (x3 : Int))) := ⟨ints_get (by rw [hx3]; exact HW.out.get 14 (by decide))⟩
      have FF : Kept (Four x0 x1 x2 x3) := ⟨by rw [hx0, hx1, hx2, hx3]; exact HW.out.four 3 4 9 14⟩
      obtain ⟨y0, hy0⟩ : ∃ y, y = qa2 x0 x1 x2 x3 := ⟨_, rfl⟩
      obtain ⟨y1, hy1⟩ : ∃ y, y = qb2 x0 x1 x2 x3 := ⟨_, rfl⟩
      obtain ⟨y2, hy2⟩ : ∃ y, y = qc2 x0 x1 x2 x3 := ⟨_, rfl⟩
      obtain ⟨y3, hy3⟩ : ∃ y, y = qd2 x0 x1 x2 x3 := ⟨_, rfl⟩
      obtain ⟨X8, hY⟩ : ∃ Y, Y = qL X7 3 4 9 14 := ⟨_, rfl⟩
      have EY : Kept ((((X7.set 3 y0).set 4 y1).set 9 y2).set 14 y3 = X8) := ⟨by rw [hY, hy0, hy1, hy2, hy3, hx0, hx1, hx2, hx3]; rfl⟩
      have E7 : Kept (X8 = qL X7 3 4 9 14) := ⟨hY⟩
      have HY : Kept (Ws X8) := ⟨by rw [hY]; exact HW.out.q 3 4 9 14⟩
      have LX : Kept (X7.length = 16) := ⟨HW.out.len⟩
      have CQ : Kept (Calls Try.prog 48 #[.int .u32 (x0 : Int), .int .u32 (x1 : Int), .int .u32 (x2 : Int), .int .u32 (x3 : Int)] v7 fun e w' => e = .returned (.tuple #[.int .u32 (y0 : Int), .int .u32 (y1 : Int), .int .u32 (y2 : Int), .int .u32 (y3 : Int)]) ∧ w' = v7) := ⟨by rw [hy0, hy1, hy2, hy3]; exact quarter_any x0 x1 x2 x3 v7 FF.out⟩
      clear hx0 hx1 hx2 hx3 hy0 hy1 hy2 hy3 hY HW FF
      go_wp2_with (first | (refine wl_elem rfl 38 ag_u32 (.tmp 132) rfl w.heap.size 3 rfl _ (.int .u32 (x0 : Int)) A0 G0.out ?_) | (refine wl_elem rfl 38 ag_u32 (.tmp 134) rfl w.heap.size 4 rfl _ (.int .u32 (x1 : Int)) A0 G1.out ?_) | (refine wl_elem rfl 38 ag_u32 (.tmp 136) rfl w.heap.size 9 rfl _ (.int .u32 (x2 : Int)) A0 G2.out ?_) | (refine wl_elem rfl 38 ag_u32 (.tmp 138) rfl w.heap.size 14 rfl _ (.int .u32 (x3 : Int)) A0 G3.out ?_))
      refine CQ.out.mono ?_
      rintro e w' ⟨rfl, hw'⟩
      obtain rfl := hw'.symm
      clear CQ G0 G1 G2 G3
      go_wp2_with (first | (refine wl_setElem rfl 38 sz_u32 (.tmp 145) (.tmp 141) rfl w.heap.size 3 .u32 (y0 : Int) rfl rfl _ A0 (by simp only [ints_size, List.length_set, LX.out]; decide) ?_))
      intro ua0 B0 P0
      rw [ints_set] at B0
      go_wp2_with (first | (refine wl_setElem rfl 38 sz_u32 (.tmp 146) (.tmp 142) rfl w.heap.size 4 .u32 (y1 : Int) rfl rfl _ B0 (by simp only [ints_size, List.length_set, LX.out]; decide) ?_))
      intro ua1 B1 P1
      rw [ints_set] at B1
      go_wp2_with (first | (refine wl_setElem rfl 38 sz_u32 (.tmp 147) (.tmp 143) rfl w.heap.size 9 .u32 (y2 : Int) rfl rfl _ B1 (by simp only [ints_size, List.length_set, LX.out]; decide) ?_))
      intro ua2 B2 P2
      rw [ints_set] at B2
      go_wp2_with (first | (refine wl_setElem rfl 38 sz_u32 (.tmp 148) (.tmp 144) rfl w.heap.size 14 .u32 (y3 : Int) rfl rfl _ B2 (by simp only [ints_size, List.length_set, LX.out]; decide) ?_))
      intro v8 B3 P3
      rw [ints_set] at B3
      rw [EY.out] at B3
      have HB' := (((HB.trans (P0.below (Nat.le_refl _))).trans (P1.below (Nat.le_refl _))).trans (P2.below (Nat.le_refl _))).trans (P3.below (Nat.le_refl _))
      have A1' := P3.blk (P2.blk (P1.blk (P0.blk A1 (by omega)) (by omega)) (by omega)) (by omega)
      clear A0 A1 HB P0 P1 P2 P3 B0 B1 B2 EY LX
      have A0 := B3
      have A1 := A1'
      have HB := HB'
      have HW := HY
      clear B3 A1' HB' HY
      have EF : Kept (X8 = mixT s (n + 1)) := ⟨by
        rw [dblL_eight E0.out E1.out E2.out E3.out E4.out E5.out E6.out E7.out, EX.out]
        rfl⟩
      clear E0 E1 E2 E3 E4 E5 E6 E7 EX
      go_wp2_with fail
      go_roundg (gk - 1)
      case measure => omega
      case rel => exact ⟨n + 1, X8, by omega, by simp, EF, HB, A0, A1⟩
    case neg =>
      have hi' : ¬ (n : Int) < 10 := by omega
      obtain rfl : X0 = L := by rw [EX.out, EL.out, show n = 10 by omega]
      clear EX
      go_wp2_with (first | (refine wl_load rfl 59 (.tmp 1) rfl _ rfl (ints .u32 X0) 16 38 Try.underlying59 (by rw [ints_size, LL.out]; exact ws_info) A0 ?_) | (refine wl_store rfl 59 (.tmp 2) (.tmp 150) rfl _ (ints .u32 X0) rfl rfl _ A1 (by rw [ints_size, LL.out]; exact ws_info) (by rw [ints_size, LL.out, LZ.out]) (ints_one _ _) ?_))
      intro w6 A6 P6
      go_wp2
      exact bodyPost_ret (v := .agg (ints .u32 X0)) (results_cell_row Try.results32 _ _ _ 59 (ints .u32 X0) (0, 0) _ rfl A6 Try.underlying59 rfl (by rw [ints_size, LL.out]; exact ws_info)) rfl ⟨rfl, HB.trans (P6.below (by omega))⟩
end Go.Proofs.Ytpamcmhfimnfbaa.sh
/-
  The words' sums, and their bytes, by the program.
-/
namespace Go.Proofs.Ytpamcmhfimnfbaa.sh
open Go Go.RowKit
set_option linter.unusedVariables false
set_option linter.unusedSimpArgs false

theorem ws_inf : (Try.prog.info? 59).map (·.size) = some 16 := by kernel_rfl
set_option maxRecDepth 100000 in
set_option maxHeartbeats 1000000 in
theorem plus16 (a b : List Nat) (w : World) (ha : a.length = 16) (hb : b.length = 16) :
    Calls Try.prog 31 #[.agg (ints .u32 a), .agg (ints .u32 b)] w fun e w' => e = .returned (.agg (ints .u32 (plusL a b))) ∧ Below w.heap.size w w' := by
  obtain ⟨L, hL⟩ : ∃ L, L = plusL a b := ⟨_, rfl⟩
  rw [← hL]
  have EL : Kept _ := ⟨hL⟩
  have HL : Kept (L.length = a.length) := ⟨by rw [hL]; exact plusL_len a b (by omega)⟩
  clear hL
  go_enter Try.func31, Try.ntmps31
  go_wp2_with fail
  generalize hW : ((w.alloc (.cells (ints .u32 a) 59)).alloc (.cells (ints .u32 b) 59)).alloc (.cells #[.int .u32 0, .int .u32 0, .int .u32 0, .int .u32 0, .int .u32 0, .int .u32 0, .int .u32 0, .int .u32 0, .int .u32 0, .int .u32 0, .int .u32 0, .int .u32 0, .int .u32 0, .int .u32 0, .int .u32 0, .int .u32 0] 59) = W
  obtain ⟨ZZ, hZZ⟩ : ∃ ZZ : Array Value, ZZ = #[.int .u32 0, .int .u32 0, .int .u32 0, .int .u32 0, .int .u32 0, .int .u32 0, .int .u32 0, .int .u32 0, .int .u32 0, .int .u32 0, .int .u32 0, .int .u32 0, .int .u32 0, .int .u32 0, .int .u32 0, .int .u32 0] := ⟨_, rfl⟩
  have LZ : Kept (ZZ.size = 16) := ⟨by rw [hZZ]; rfl⟩
  have B0 : Blk W w.heap.size 59 (ints .u32 (mix L a 0)) := by subst hW; rw [mix_zero]; exact ((blk_new w _ _).alloc _).alloc _
  have B1 : Blk W (w.heap.size + 1) 59 (ints .u32 b) := by subst hW; exact (blk_top _ _ _ _ (by simp)).alloc _
  have B2 : Blk W (w.heap.size + 2) 59 ZZ := by subst hW; rw [hZZ]; exact blk_top _ _ _ _ (by simp)
  have QB : Below w.heap.size w W := by subst hW; exact (((Below.refl _ _).alloc (Nat.le_refl _) _).alloc (by simp) _).alloc (by simp; omega) _
  clear hW hZZ
  go_loopg [6] 16 (fun k s6 wr => ∃ i : Nat, i + k = 16 ∧ s6 = .int .i64 (i : Int) ∧ Below w.heap.size w wr ∧ Blk wr w.heap.size 59 (ints .u32 (mix L a i)) ∧ Blk wr (w.heap.size + 1) 59 (ints .u32 b) ∧ Blk wr (w.heap.size + 2) 59 ZZ)
  case atStart => exact ⟨0, by omega, rfl, QB, B0, B1, B2⟩
  case round =>
    obtain ⟨i, hik, rfl, HB, A0, A1, A2⟩ := hrel
    clear QB B0 B1 B2
    by_cases hk0 : gk = 0
    · obtain rfl : i = 16 := by omega
      have e : mix L a 16 = L := by rw [← ha]; exact mix_all L a HL.out
      rw [e] at A0
      clear A1 e
      go_wp2_with (first | (refine wl_load rfl 59 (.tmp 2) rfl _ rfl (ints .u32 L) 16 38 Try.underlying59 (by rw [ints_size, HL.out, ha]; exact ws_inf) A0 ?_) | (refine wl_store rfl 59 (.tmp 4) (.tmp 18) rfl _ (ints .u32 L) rfl rfl _ A2 (by rw [ints_size, HL.out, ha]; exact ws_inf) (by rw [ints_size, HL.out, ha, LZ.out]) (ints_one _ _) ?_))
      intro w3 A3 P3
      go_wp2
      exact bodyPost_ret (v := .agg (ints .u32 L)) (results_cell_row Try.results31 _ _ _ 59 (ints .u32 L) (0, 0) _ rfl A3 Try.underlying59 rfl (by rw [ints_size, HL.out, ha]; exact ws_inf)) rfl ⟨rfl, HB.trans (P3.below (by omega))⟩
    · have hil : i < 16 := by omega
      have hlt : ((i : Int) < 16) := by omega
      obtain ⟨x, hx⟩ : ∃ x, a[i]? = some x := ⟨_, List.getElem?_eq_getElem (by omega)⟩
      obtain ⟨y, hy⟩ : ∃ y, b[i]? = some y := ⟨_, List.getElem?_eq_getElem (by omega)⟩
      have gx : Kept ((ints .u32 (mix L a i))[i]? = some (.int .u32 (x : Int))) := ⟨ints_get (by rw [mix_get L a i HL.out (by omega)]; exact hx)⟩
      have gy : Kept ((ints .u32 b)[i]? = some (.int .u32 (y : Int))) := ⟨ints_get hy⟩
      obtain ⟨z, hz⟩ : ∃ z, z = (x + y) % 4294967296 := ⟨_, rfl⟩
      have gz : Kept (L[i]? = some z) := ⟨by rw [EL.out, hz]; exact plusL_get a b i x y hx hy⟩
      have Ez : Kept _ := ⟨hz⟩
      clear hz hx hy
      go_wp2_with fail
      refine region_ownL wr 8 [(9, .int .i64 (i : Int)), (10, .pointer (some ⟨w.heap.size, i, none⟩)), (11, .int .u32 (x : Int)), (12, .int .i64 (i : Int)), (13, .pointer (some ⟨w.heap.size + 1, i, none⟩)), (14, .int .u32 (y : Int)), (15, .int .u32 (z : Int)), (16, .pointer (some ⟨w.heap.size, i, none⟩))] [] [] [] rfl (by kernel_rfl) (by kernel_rfl) (by kernel_rfl) (by kernel_rfl) (by kernel_rfl) (by kernel_rfl) (by kernel_rfl) (by kernel_rfl) (by kernel_rfl) (by kernel_rfl) (by kernel_rfl) ?hst1 ?hst2 (Below.refl _ _) (fun hA => ⟨ow_val hA (wants_none rfl) 9 (.int .i64 (i : Int)) (by kernel_rfl) rfl rfl rfl rfl (by kernel_rfl) (fun w => by kernel_rfl), ow_val hA (wants_none rfl) 10 (.pointer (some ⟨w.heap.size, i, none⟩)) (by kernel_rfl) rfl rfl rfl rfl (by kernel_rfl) (fun w => run_idx rfl (by kernel_rfl) (by kernel_rfl) Try.underlying59 hil sz_u32 w), ow_elem hA (wants_none rfl) 11 (.int .u32 (x : Int)) (by kernel_rfl) rfl rfl rfl rfl (by kernel_rfl) 38 ag_u32 (.tmp 10) rfl (⟨w.heap.size, i, none⟩) (by kernel_rfl) (fun w1 hb => (A0.under hb).cell gx.out), ow_val hA (wants_none rfl) 12 (.int .i64 (i : Int)) (by kernel_rfl) rfl rfl rfl rfl (by kernel_rfl) (fun w => by kernel_rfl), ow_val hA (wants_none rfl) 13 (.pointer (some ⟨w.heap.size + 1, i, none⟩)) (by kernel_rfl) rfl rfl rfl rfl (by kernel_rfl) (fun w => run_idx rfl (by kernel_rfl) (by kernel_rfl) Try.underlying59 hil sz_u32 w), ow_elem hA (wants_none rfl) 14 (.int .u32 (y : Int)) (by kernel_rfl) rfl rfl rfl rfl (by kernel_rfl) 38 ag_u32 (.tmp 13) rfl (⟨w.heap.size + 1, i, none⟩) (by kernel_rfl) (fun w1 hb => (A1.under hb).cell gy.out), ow_val hA (wants_none rfl) 15 (.int .u32 (z : Int)) (by kernel_rfl) rfl rfl rfl rfl (by kernel_rfl) (fun w => run_add32 rfl (by kernel_rfl) (by kernel_rfl) Ez.out w), ow_val hA (wants_none rfl) 16 (.pointer (some ⟨w.heap.size, i, none⟩)) (by kernel_rfl) rfl rfl rfl rfl (by kernel_rfl) (fun w => run_idx rfl (by kernel_rfl) (by kernel_rfl) Try.underlying59 hil sz_u32 w), trivial⟩) ?_
      case hst1 => intro q hq; cases hq
      case hst2 => intro q hq; cases hq
      intro fv wt hf hD hwt
      simp only [putR, List.foldl_cons, List.foldl_nil, List.map_cons, List.map_nil, Act.put, List.setIfInBounds_toArray, List.set_cons_succ, List.set_cons_zero]
      clear hf hD
      have A0' := A0.under hwt
      have A1' := A1.under hwt
      have A2' := A2.under hwt
      have HB' := HB.trans (hwt.mono HB.size)
      clear A0 A1 A2 HB hwt
      refine wl_setElem rfl 38 sz_u32 (.tmp 16) (.tmp 15) rfl w.heap.size i .u32 (z : Int) (by kernel_rfl) (by kernel_rfl) _ A0' (by rw [ints_size, mix_len L a i HL.out]; omega) ?_
      intro w4 A4 P4
      rw [ints_set, mix_set L a i z HL.out gz.out] at A4
      have A14 := P4.blk A1' (by omega)
      have A24 := P4.blk A2' (by omega)
      have HB4 := HB'.trans (P4.below (Nat.le_refl _))
      clear A0' A1' A2' HB' P4 gx gy gz Ez
      go_wp2_with fail
      go_roundg (gk - 1)
      case measure => omega
      case rel => exact ⟨i + 1, by omega, by simp, HB4, A4, A14, A24⟩
theorem z64_eq : (#[.int .u8 0, .int .u8 0, .int .u8 0, .int .u8 0, .int .u8 0, .int .u8 0, .int .u8 0, .int .u8 0, .int .u8 0, .int .u8 0, .int .u8 0, .int .u8 0, .int .u8 0, .int .u8 0, .int .u8 0, .int .u8 0, .int .u8 0, .int .u8 0, .int .u8 0, .int .u8 0, .int .u8 0, .int .u8 0, .int .u8 0, .int .u8 0, .int .u8 0, .int .u8 0, .int .u8 0, .int .u8 0, .int .u8 0, .int .u8 0, .int .u8 0, .int .u8 0, .int .u8 0, .int .u8 0, .int .u8 0, .int .u8 0, .int .u8 0, .int .u8 0, .int .u8 0, .int .u8 0, .int .u8 0, .int .u8 0, .int .u8 0, .int .u8 0, .int .u8 0, .int .u8 0, .int .u8 0, .int .u8 0, .int .u8 0, .int .u8 0, .int .u8 0, .int .u8 0, .int .u8 0, .int .u8 0, .int .u8 0, .int .u8 0, .int .u8 0, .int .u8 0, .int .u8 0, .int .u8 0, .int .u8 0, .int .u8 0, .int .u8 0, .int .u8 0] : Array Value) = ints .u8 (List.replicate 64 0) := by kernel_rfl
theorem i64_info : (Try.prog.info? 50).map (·.size) = some 64 := by kernel_rfl
set_option maxRecDepth 100000 in
set_option maxHeartbeats 1000000 in
theorem bytes16 (s : List Nat) (w : World) (hs : Ws s) :
    Calls Try.prog 33 #[.agg (ints .u32 s)] w fun e w' => e = .returned (.agg (ints .u8 (leL s))) ∧ Below w.heap.size w w' := by
  obtain ⟨L, hL⟩ : ∃ L, L = leL s := ⟨_, rfl⟩
  rw [← hL]
  have EL : Kept _ := ⟨hL⟩
  have HL : Kept (L.length = 64) := ⟨by rw [hL]; exact leL_len s⟩
  obtain ⟨Z0, hZ⟩ : ∃ Z0, Z0 = List.replicate 64 0 := ⟨_, rfl⟩
  have HL2 : Kept (L.length = Z0.length) := ⟨by rw [HL.out, hZ]; rfl⟩
  have HZ : Kept (Z0.length = 64) := ⟨by rw [hZ]; rfl⟩
  have HX : Kept _ := ⟨hs⟩
  have EI : Kept ((#[.int .u8 0, .int .u8 0, .int .u8 0, .int .u8 0, .int .u8 0, .int .u8 0, .int .u8 0, .int .u8 0, .int .u8 0, .int .u8 0, .int .u8 0, .int .u8 0, .int .u8 0, .int .u8 0, .int .u8 0, .int .u8 0, .int .u8 0, .int .u8 0, .int .u8 0, .int .u8 0, .int .u8 0, .int .u8 0, .int .u8 0, .int .u8 0, .int .u8 0, .int .u8 0, .int .u8 0, .int .u8 0, .int .u8 0, .int .u8 0, .int .u8 0, .int .u8 0, .int .u8 0, .int .u8 0, .int .u8 0, .int .u8 0, .int .u8 0, .int .u8 0, .int .u8 0, .int .u8 0, .int .u8 0, .int .u8 0, .int .u8 0, .int .u8 0, .int .u8 0, .int .u8 0, .int .u8 0, .int .u8 0, .int .u8 0, .int .u8 0, .int .u8 0, .int .u8 0, .int .u8 0, .int .u8 0, .int .u8 0, .int .u8 0, .int .u8 0, .int .u8 0, .int .u8 0, .int .u8 0, .int .u8 0, .int .u8 0, .int .u8 0, .int .u8 0] : Array Value) = ints .u8 Z0) := ⟨by rw [hZ]; exact z64_eq⟩
  clear hZ hL hs
  go_enter Try.func33, Try.ntmps33
  go_wp2_with fail
  generalize hW : ((w.alloc (.cells (ints .u32 s) 59)).alloc (.cells #[.int .u8 0, .int .u8 0, .int .u8 0, .int .u8 0, .int .u8 0, .int .u8 0, .int .u8 0, .int .u8 0, .int .u8 0, .int .u8 0, .int .u8 0, .int .u8 0, .int .u8 0, .int .u8 0, .int .u8 0, .int .u8 0, .int .u8 0, .int .u8 0, .int .u8 0, .int .u8 0, .int .u8 0, .int .u8 0, .int .u8 0, .int .u8 0, .int .u8 0, .int .u8 0, .int .u8 0, .int .u8 0, .int .u8 0, .int .u8 0, .int .u8 0, .int .u8 0, .int .u8 0, .int .u8 0, .int .u8 0, .int .u8 0, .int .u8 0, .int .u8 0, .int .u8 0, .int .u8 0, .int .u8 0, .int .u8 0, .int .u8 0, .int .u8 0, .int .u8 0, .int .u8 0, .int .u8 0, .int .u8 0, .int .u8 0, .int .u8 0, .int .u8 0, .int .u8 0, .int .u8 0, .int .u8 0, .int .u8 0, .int .u8 0, .int .u8 0, .int .u8 0, .int .u8 0, .int .u8 0, .int .u8 0, .int .u8 0, .int .u8 0, .int .u8 0] 50)).alloc (.cells #[.int .u8 0, .int .u8 0, .int .u8 0, .int .u8 0, .int .u8 0, .int .u8 0, .int .u8 0, .int .u8 0, .int .u8 0, .int .u8 0, .int .u8 0, .int .u8 0, .int .u8 0, .int .u8 0, .int .u8 0, .int .u8 0, .int .u8 0, .int .u8 0, .int .u8 0, .int .u8 0, .int .u8 0, .int .u8 0, .int .u8 0, .int .u8 0, .int .u8 0, .int .u8 0, .int .u8 0, .int .u8 0, .int .u8 0, .int .u8 0, .int .u8 0, .int .u8 0, .int .u8 0, .int .u8 0, .int .u8 0, .int .u8 0, .int .u8 0, .int .u8 0, .int .u8 0, .int .u8 0, .int .u8 0, .int .u8 0, .int .u8 0, .int .u8 0, .int .u8 0, .int .u8 0, .int .u8 0, .int .u8 0, .int .u8 0, .int .u8 0, .int .u8 0, .int .u8 0, .int .u8 0, .int .u8 0, .int .u8 0, .int .u8 0, .int .u8 0, .int .u8 0, .int .u8 0, .int .u8 0, .int .u8 0, .int .u8 0, .int .u8 0, .int .u8 0] 50) = W
  have B0 : Blk W w.heap.size 59 (ints .u32 s) := by subst hW; exact ((blk_new w _ _).alloc _).alloc _
  have B1 : Blk W (w.heap.size + 1) 50 (ints .u8 Z0) := by subst hW; rw [← EI.out]; exact (blk_top _ _ _ _ (by simp)).alloc _
  have B2 : Blk W (w.heap.size + 2) 50 (ints .u8 (mix L Z0 0)) := by subst hW; rw [mix_zero, ← EI.out]; exact blk_top _ _ _ _ (by simp)
  have QB : Below w.heap.size w W := by subst hW; exact (((Below.refl _ _).alloc (Nat.le_refl _) _).alloc (by simp) _).alloc (by simp; omega) _
  clear hW EI
  go_loopg [5] 64 (fun k s5 wr => ∃ i : Nat, i + k = 64 ∧ s5 = .int .i64 (i : Int) ∧ Below w.heap.size w wr ∧ Blk wr w.heap.size 59 (ints .u32 s) ∧ Blk wr (w.heap.size + 1) 50 (ints .u8 Z0) ∧ Blk wr (w.heap.size + 2) 50 (ints .u8 (mix L Z0 i)))
  case atStart => exact ⟨0, by omega, rfl, QB, B0, B1, B2⟩
  case round =>
    obtain ⟨i, hik, rfl, HB, A0, A1, A2⟩ := hrel
    clear QB B0 B1 B2
    by_cases hk0 : gk = 0
    · obtain rfl : i = 64 := by omega
      have e : mix L Z0 64 = L := by rw [← HZ.out]; exact mix_all L Z0 HL2.out
      rw [e] at A2
      clear A0 e
      go_wp2_with (first | (refine wl_load rfl 50 (.tmp 3) rfl _ rfl (ints .u8 L) 64 5 Try.underlying50 (by rw [ints_size, HL.out]; exact i64_info) A2 ?_) | (refine wl_store rfl 50 (.tmp 2) (.tmp 20) rfl _ (ints .u8 L) rfl rfl _ A1 (by rw [ints_size, HL.out]; exact i64_info) (by rw [ints_size, ints_size, HL2.out]) (ints_one _ _) ?_))
      intro w3 A3 P3
      go_wp2
      exact bodyPost_ret (v := .agg (ints .u8 L)) (results_cell_row Try.results33 _ _ _ 50 (ints .u8 L) (0, 0) _ rfl A3 Try.underlying50 rfl (by rw [ints_size, HL.out]; exact i64_info)) rfl ⟨rfl, HB.trans (P3.below (by omega))⟩
    · have hil : i < 64 := by omega
      have hlt : ((i : Int) < 64) := by omega
      have hq8 : i / 4 < 16 := by omega
      obtain ⟨x, hx⟩ : ∃ x, s[i / 4]? = some x := ⟨_, HX.out.get _ hq8⟩
      have gx : (ints .u32 s)[i / 4]? = some (.int .u32 (x : Int)) := ints_get hx
      have KX : Kept (x < 4294967296) := ⟨HX.out.lt _ x hx⟩
      have l2 : i < (ints .u8 (mix L Z0 i)).size := by rw [ints_size, mix_len L _ i HL2.out, HZ.out]; exact hil
      go_wp2_with (first | (refine wl_elem rfl 38 ag_u32 (.tmp 11) rfl w.heap.size (i / 4) rfl (ints .u32 s) (.int .u32 (x : Int)) A0 gx ?_) | (refine wl_setElem rfl 5 sz_u8 (.tmp 18) (.tmp 17) rfl (w.heap.size + 1 + 1) i .u8 ((x : Int) / 2 ^ (i % 4 * 8) % 256) rfl rfl _ A2 l2 ?_))
      obtain ⟨z, hz⟩ : ∃ z, z = x / 2 ^ (i % 4 * 8) % 256 := ⟨_, rfl⟩
      have gz : L[i]? = some z := by rw [EL.out, hz]; exact leL_get s i x hil hx
      have ez : (x : Int) / 2 ^ (i % 4 * 8) % 256 = (z : Int) := by rw [hz, Int.natCast_emod, Int.natCast_ediv, Int.natCast_pow]; rfl
      rw [ez]
      intro w4 A4 P4
      rw [ints_set, mix_set L _ i z HL2.out gz] at A4
      have A04 := P4.blk A0 (by omega)
      have A14 := P4.blk A1 (by omega)
      have HB4 := HB.trans (P4.below (by omega))
      clear A0 A1 A2 HB P4 gx hx hz gz l2
      go_wp2_with fail
      go_roundg (gk - 1)
      case measure => omega
      case rel => exact ⟨i + 1, by omega, by simp, HB4, A04, A14, A4⟩
end Go.Proofs.Ytpamcmhfimnfbaa.sh
/-
  Words of bytes, by the program.
-/
namespace Go.Proofs.Ytpamcmhfimnfbaa.sh
open Go Go.RowKit
set_option linter.unusedVariables false
set_option linter.unusedSimpArgs false

/-- The words behind the first i bytes. -/
def rdT (b : List Nat) : Nat → List Nat
  | 0 => List.replicate 16 0
  | i + 1 => (rdT b i).set (i / 4) ((rdT b i).getD (i / 4) 0 ||| b.getD i 0 * 2 ^ (i % 4 * 8))
theorem rdT_len (b : List Nat) : ∀ i, (rdT b i).length = 16
  | 0 => by simp [rdT]
  | i + 1 => by simp [rdT, rdT_len b i]
theorem pow256 (t : Nat) : 2 ^ (t * 8) = 256 ^ t := by rw [Nat.mul_comm, Nat.pow_mul]
theorem rdT_get (b : List Nat) (hb : Bytes b) : ∀ i, i ≤ 64 → ∀ j, j < 16 → (rdT b i).getD j 0 = part b j (min 4 (i - 4 * j))
  | 0, _, j, hj => by
    show (List.replicate 16 0).getD j 0 = part b j (min 4 (0 - 4 * j))
    rw [Nat.zero_sub, Nat.min_zero, List.getD_eq_getElem?_getD, List.getElem?_replicate]
    split <;> rfl
  | i + 1, hi, j, hj => by
    have ih := rdT_get b hb i (by omega)
    show ((rdT b i).set (i / 4) ((rdT b i).getD (i / 4) 0 ||| b.getD i 0 * 2 ^ (i % 4 * 8))).getD j 0 = _
    rw [List.getD_eq_getElem?_getD, List.getElem?_set]
    by_cases h : i / 4 = j
    · rw [if_pos h, if_pos (by rw [rdT_len]; omega)]
      subst h
      have e1 : min 4 (i - 4 * (i / 4)) = i % 4 := by omega
      have e2 : min 4 (i + 1 - 4 * (i / 4)) = i % 4 + 1 := by omega
      rw [Option.getD_some, ih _ hj, e1, e2, pow256]
      show _ = part b (i / 4) (i % 4) + b.getD (4 * (i / 4) + i % 4) 0 * 256 ^ (i % 4)
      have hl := part_lt b hb (i / 4) (i % 4)
      rw [show 4 * (i / 4) + i % 4 = i by omega, ← pow256, Nat.mul_comm _ (2 ^ (i % 4 * 8)), Nat.or_comm]
      rw [← pow256] at hl
      rw [← Nat.two_pow_add_eq_or_of_lt hl, Nat.add_comm]
    · rw [if_neg h, ← List.getD_eq_getElem?_getD, ih j hj]
      congr 1
      omega
theorem rdT_all (b : List Nat) (hb : Bytes b) : rdT b 64 = wsL b 16 := by
  apply List.ext_getElem?
  intro j
  by_cases hj : j < 16
  · have h := rdT_get b hb 64 (Nat.le_refl _) j hj
    rw [show min 4 (64 - 4 * j) = 4 by omega, List.getD_eq_getElem?_getD, List.getElem?_eq_getElem (by rw [rdT_len]; exact hj), Option.getD_some] at h
    rw [List.getElem?_eq_getElem (by rw [rdT_len]; exact hj), h]
    simp [wsL, hj]
  · rw [List.getElem?_eq_none (by rw [rdT_len]; omega), List.getElem?_eq_none (by rw [wsL_len]; omega)]
theorem rdT_lt (b : List Nat) (hb : Bytes b) (i : Nat) (hi : i ≤ 64) (j : Nat) (hj : j < 16) : (rdT b i).getD j 0 < 4294967296 := by
  rw [rdT_get b hb i hi j hj]
  refine Nat.lt_of_lt_of_le (part_lt b hb j _) ?_
  exact Nat.pow_le_pow_right (n := 256) (by decide) (show _ ≤ 4 from Nat.min_le_left _ _)

theorem run_quo4 {o : Oper} {a : Act} {x : Operand} {i z : Nat} (ho : o.op = .binOp .quo 3 x (.const (.int .i64 4)) 3) (hx : a.eval x = .int .i64 (i : Int)) (hz : z = i / 4) (hi : i < 4611686018427387904) (w : World) : (execOp a.eval o).run Try.prog w = .ok (.value (.int .i64 (z : Int))) w := by
  have e3 : a.eval (.const (.int .i64 4)) = .int .i64 4 := rfl
  have h3 : (i : Int).tdiv 4 = (z : Int) := by rw [hz, Int.tdiv_eq_ediv_of_nonneg (by omega)]; omega
  have hz' : z ≤ i := by omega
  unfold execOp
  simp only [ho, hx, e3]
  simp [go_sem, IntKind.wrap_i64, wrap64, h3]
  omega
theorem run_rem4 {o : Oper} {a : Act} {x : Operand} {i z : Nat} (ho : o.op = .binOp .rem 3 x (.const (.int .i64 4)) 3) (hx : a.eval x = .int .i64 (i : Int)) (hz : z = i % 4) (hi : i < 4611686018427387904) (w : World) : (execOp a.eval o).run Try.prog w = .ok (.value (.int .i64 (z : Int))) w := by
  have e3 : a.eval (.const (.int .i64 4)) = .int .i64 4 := rfl
  have h3 : (i : Int).tmod 4 = (z : Int) := by rw [hz, Int.tmod_eq_emod_of_nonneg (by omega)]; omega
  unfold execOp
  simp only [ho, hx, e3]
  simp [go_sem, IntKind.wrap_i64, wrap64, h3]
theorem run_quo64 {o : Oper} {a : Act} {x : Operand} {i z : Nat} (ho : o.op = .binOp .quo 3 x (.const (.int .i64 64)) 3) (hx : a.eval x = .int .i64 (i : Int)) (hz : z = i / 64) (hi : i < 4611686018427387904) (w : World) : (execOp a.eval o).run Try.prog w = .ok (.value (.int .i64 (z : Int))) w := by
  have e3 : a.eval (.const (.int .i64 64)) = .int .i64 64 := rfl
  have h3 : (i : Int).tdiv 64 = (z : Int) := by rw [hz, Int.tdiv_eq_ediv_of_nonneg (by omega)]; omega
  have hz' : z ≤ i := by omega
  unfold execOp
  simp only [ho, hx, e3]
  simp [go_sem, IntKind.wrap_i64, wrap64, h3]
  omega
theorem run_rem64 {o : Oper} {a : Act} {x : Operand} {i z : Nat} (ho : o.op = .binOp .rem 3 x (.const (.int .i64 64)) 3) (hx : a.eval x = .int .i64 (i : Int)) (hz : z = i % 64) (hi : i < 4611686018427387904) (w : World) : (execOp a.eval o).run Try.prog w = .ok (.value (.int .i64 (z : Int))) w := by
  have e3 : a.eval (.const (.int .i64 64)) = .int .i64 64 := rfl
  have h3 : (i : Int).tmod 64 = (z : Int) := by rw [hz, Int.tmod_eq_emod_of_nonneg (by omega)]; omega
  unfold execOp
  simp only [ho, hx, e3]
  simp [go_sem, IntKind.wrap_i64, wrap64, h3]
theorem run_mulK {o : Oper} {a : Act} {x : Operand} {i z : Nat} (c : Nat) (ho : o.op = .binOp .mul 3 x (.const (.int .i64 (c : Int))) 3) (hx : a.eval x = .int .i64 (i : Int)) (hz : z = i * c) (hi : z < 4611686018427387904) (w : World) : (execOp a.eval o).run Try.prog w = .ok (.value (.int .i64 (z : Int))) w := by
  have e3 : a.eval (.const (.int .i64 (c : Int))) = .int .i64 (c : Int) := rfl
  unfold execOp
  simp only [ho, hx, e3]
  rw [hz]
  rw [hz] at hi
  have hi' : ((i : Int) * (c : Int)) < 4611686018427387904 := by rw [← Int.natCast_mul]; omega
  have h0 : 0 ≤ ((i : Int) * (c : Int)) := by rw [← Int.natCast_mul]; omega
  simp [go_sem, IntKind.wrap_i64, wrap64]
  omega
theorem run_c832 {o : Oper} {a : Act} {x : Operand} {z : Nat} (ho : o.op = .convert 5 38 x) (hx : a.eval x = .int .u8 (z : Int)) (hz : z < 256) (w : World) : (execOp a.eval o).run Try.prog w = .ok (.value (.int .u32 (z : Int))) w := by
  unfold execOp
  simp only [ho, hx]
  simp [go_sem, IntKind.wrap_u32']
  omega
theorem run_shl32 {o : Oper} {a : Act} {x y : Operand} {m c z : Nat} (ho : o.op = .binOp .shl 38 x y 3) (hx : a.eval x = .int .u32 (m : Int)) (hy : a.eval y = .int .i64 (c : Int)) (hc : c < 32) (hz : z = m * 2 ^ c % 4294967296) (w : World) : (execOp a.eval o).run Try.prog w = .ok (.value (.int .u32 (z : Int))) w := by
  have e : ((m : Int) * 2 ^ c % 4294967296) = ((m * 2 ^ c % 4294967296 : Nat) : Int) := by rw [Int.natCast_emod, Int.natCast_mul, Int.natCast_pow]; rfl
  have e2 : min c 32 = c := by omega
  unfold execOp
  simp only [ho, hx, hy]
  rw [hz, ← e]
  clear hz e
  simp [go_sem, Op.shift, IntKind.bits, e2, IntKind.wrap_u32']
theorem run_or32 {o : Oper} {a : Act} {x y : Operand} {m n z : Nat} (ho : o.op = .binOp .or 38 x y 38) (hx : a.eval x = .int .u32 (m : Int)) (hy : a.eval y = .int .u32 (n : Int)) (hm : m < 4294967296) (hn : n < 4294967296) (hz : z = m ||| n) (w : World) : (execOp a.eval o).run Try.prog w = .ok (.value (.int .u32 (z : Int))) w := by
  have h := u32_or_nat m n hm hn
  unfold execOp
  simp only [ho, hx, hy]
  simp [go_sem, h, hz]
theorem run_index {o : Oper} {a : Act} {x y : Operand} {i len v : Nat} {k : IntKind} {t e : TypeId} {L : List Nat} (ho : o.op = .index t x y) (hx : a.eval x = .agg (ints k L)) (hy : a.eval y = .int .i64 (i : Int)) (ht : Try.prog.underlying t = some (.array len e)) (hl : L.length = len) (hv : L[i]? = some v) (ag : ∀ w, (isAgg e).run Try.prog w = .ok false w) (sz : ∀ w, (sizeOf e).run Try.prog w = .ok 1 w) (w : World) : (execOp a.eval o).run Try.prog w = .ok (.value (.int k (v : Int))) w := by
  have hi : i < len := by rw [← hl]; exact (List.getElem?_eq_some_iff.1 hv).1
  have h1 : ((i : Int) < (len : Int)) := by omega
  have h2 : (ints k L)[i]? = some (.int k (v : Int)) := ints_get hv
  unfold execOp
  simp only [ho, hx, hy]
  simp [asIntOf, run_underlying ht, h1, sz, ag, go_sem, Instr.index, hi, h2]

theorem z16_eq : (#[.int .u32 0, .int .u32 0, .int .u32 0, .int .u32 0, .int .u32 0, .int .u32 0, .int .u32 0, .int .u32 0, .int .u32 0, .int .u32 0, .int .u32 0, .int .u32 0, .int .u32 0, .int .u32 0, .int .u32 0, .int .u32 0] : Array Value) = ints .u32 (List.replicate 16 0) := by kernel_rfl
theorem ws_inf2 : (Try.prog.info? 59).map (·.size) = some 16 := by kernel_rfl
theorem i64_inf2 : (Try.prog.info? 50).map (·.size) = some 64 := by kernel_rfl
set_option maxRecDepth 100000 in
set_option maxHeartbeats 1000000 in
theorem read_any (b : List Nat) (w : World) (hb : Bytes b) (hl : b.length = 64) :
    Calls Try.prog 47 #[.agg (ints .u8 b)] w fun e w' => e = .returned (.agg (ints .u32 (wsL b 16))) ∧ Below w.heap.size w w' := by
  have KB : Kept _ := ⟨hb⟩
  have KL : Kept _ := ⟨hl⟩
  obtain ⟨L, hL⟩ : ∃ L, L = wsL b 16 := ⟨_, rfl⟩
  rw [← hL]
  have EL : Kept (rdT b 64 = L) := ⟨by rw [hL]; exact rdT_all b hb⟩
  have LL : Kept (L.length = 16) := ⟨by rw [hL]; exact wsL_len b 16⟩
  have EI : Kept ((#[.int .u32 0, .int .u32 0, .int .u32 0, .int .u32 0, .int .u32 0, .int .u32 0, .int .u32 0, .int .u32 0, .int .u32 0, .int .u32 0, .int .u32 0, .int .u32 0, .int .u32 0, .int .u32 0, .int .u32 0, .int .u32 0] : Array Value) = ints .u32 (rdT b 0)) := ⟨z16_eq⟩
  obtain ⟨ZZ, hZZ⟩ : ∃ ZZ : Array Value, ZZ = #[.int .u32 0, .int .u32 0, .int .u32 0, .int .u32 0, .int .u32 0, .int .u32 0, .int .u32 0, .int .u32 0, .int .u32 0, .int .u32 0, .int .u32 0, .int .u32 0, .int .u32 0, .int .u32 0, .int .u32 0, .int .u32 0] := ⟨_, rfl⟩
  have EZ : Kept _ := ⟨hZZ⟩
  have LZ : Kept (ZZ.size = 16) := ⟨by rw [hZZ]; rfl⟩
  have A0 : Blk (((w.alloc (.cells (ints .u8 b) 50)).alloc (.cells #[.int .u32 0, .int .u32 0, .int .u32 0, .int .u32 0, .int .u32 0, .int .u32 0, .int .u32 0, .int .u32 0, .int .u32 0, .int .u32 0, .int .u32 0, .int .u32 0, .int .u32 0, .int .u32 0, .int .u32 0, .int .u32 0] 59)).alloc (.cells #[.int .u32 0, .int .u32 0, .int .u32 0, .int .u32 0, .int .u32 0, .int .u32 0, .int .u32 0, .int .u32 0, .int .u32 0, .int .u32 0, .int .u32 0, .int .u32 0, .int .u32 0, .int .u32 0, .int .u32 0, .int .u32 0] 59)) w.heap.size 50 (ints .u8 b) := ((blk_new w _ _).alloc _).alloc _
  have A1 : Blk (((w.alloc (.cells (ints .u8 b) 50)).alloc (.cells #[.int .u32 0, .int .u32 0, .int .u32 0, .int .u32 0, .int .u32 0, .int .u32 0, .int .u32 0, .int .u32 0, .int .u32 0, .int .u32 0, .int .u32 0, .int .u32 0, .int .u32 0, .int .u32 0, .int .u32 0, .int .u32 0] 59)).alloc (.cells #[.int .u32 0, .int .u32 0, .int .u32 0, .int .u32 0, .int .u32 0, .int .u32 0, .int .u32 0, .int .u32 0, .int .u32 0, .int .u32 0, .int .u32 0, .int .u32 0, .int .u32 0, .int .u32 0, .int .u32 0, .int .u32 0] 59)) (w.heap.size + 1) 59 ZZ := by rw [hZZ]; exact (blk_top _ _ _ _ (by simp)).alloc _
  have A2 : Blk (((w.alloc (.cells (ints .u8 b) 50)).alloc (.cells #[.int .u32 0, .int .u32 0, .int .u32 0, .int .u32 0, .int .u32 0, .int .u32 0, .int .u32 0, .int .u32 0, .int .u32 0, .int .u32 0, .int .u32 0, .int .u32 0, .int .u32 0, .int .u32 0, .int .u32 0, .int .u32 0] 59)).alloc (.cells #[.int .u32 0, .int .u32 0, .int .u32 0, .int .u32 0, .int .u32 0, .int .u32 0, .int .u32 0, .int .u32 0, .int .u32 0, .int .u32 0, .int .u32 0, .int .u32 0, .int .u32 0, .int .u32 0, .int .u32 0, .int .u32 0] 59)) (w.heap.size + 2) 59 (ints .u32 (rdT b 0)) := by rw [← EI.out]; exact blk_top _ _ _ _ (by simp)
  have Q0 : Below w.heap.size w (((w.alloc (.cells (ints .u8 b) 50)).alloc (.cells #[.int .u32 0, .int .u32 0, .int .u32 0, .int .u32 0, .int .u32 0, .int .u32 0, .int .u32 0, .int .u32 0, .int .u32 0, .int .u32 0, .int .u32 0, .int .u32 0, .int .u32 0, .int .u32 0, .int .u32 0, .int .u32 0] 59)).alloc (.cells #[.int .u32 0, .int .u32 0, .int .u32 0, .int .u32 0, .int .u32 0, .int .u32 0, .int .u32 0, .int .u32 0, .int .u32 0, .int .u32 0, .int .u32 0, .int .u32 0, .int .u32 0, .int .u32 0, .int .u32 0, .int .u32 0] 59)) := (((Below.refl _ _).alloc (Nat.le_refl _) _).alloc (by simp) _).alloc (by simp; omega) _
  clear hb hL hl hZZ EI EZ
  go_enter Try.func47, Try.ntmps47
  go_wp2_with (first | (refine wl_load rfl 50 (.tmp 1) rfl _ rfl (ints .u8 b) 64 5 Try.underlying50 (by rw [ints_size, KL.out]; exact i64_inf2) A0 ?_))
  generalize hW : ((w.alloc (.cells (ints .u8 b) 50)).alloc (.cells #[.int .u32 0, .int .u32 0, .int .u32 0, .int .u32 0, .int .u32 0, .int .u32 0, .int .u32 0, .int .u32 0, .int .u32 0, .int .u32 0, .int .u32 0, .int .u32 0, .int .u32 0, .int .u32 0, .int .u32 0, .int .u32 0] 59)).alloc (.cells #[.int .u32 0, .int .u32 0, .int .u32 0, .int .u32 0, .int .u32 0, .int .u32 0, .int .u32 0, .int .u32 0, .int .u32 0, .int .u32 0, .int .u32 0, .int .u32 0, .int .u32 0, .int .u32 0, .int .u32 0, .int .u32 0] 59) = wa at *
  clear hW
  go_loopg [7] 64 (fun k s7 wr => ∃ (i : Nat) (X : List Nat), i + k = 64 ∧ s7 = .int .i64 (i : Int) ∧ Kept (X = rdT b i) ∧ Below w.heap.size w wr ∧ Blk wr (w.heap.size + 1) 59 ZZ ∧ Blk wr (w.heap.size + 2) 59 (ints .u32 X))
  case atStart => exact ⟨0, _, by omega, rfl, ⟨rfl⟩, Q0, A1, A2⟩
  case round =>
    clear A0 A1 A2 Q0
    obtain ⟨i, X, hik, rfl, EX, HB, A1, A2⟩ := hrel
    by_cases hi : i < 64
    case pos =>
      have hi' : (i : Int) < 64 := by omega
      obtain ⟨x, hx⟩ : ∃ x, b[i]? = some x := ⟨_, List.getElem?_eq_getElem (by have := KL.out; omega)⟩
      have KX : Kept _ := ⟨hx⟩
      have hx8 : x < 256 := KB.out i x hx
      obtain ⟨q, hq⟩ : ∃ q, q = i / 4 := ⟨_, rfl⟩
      obtain ⟨r, hr⟩ : ∃ r, r = i % 4 := ⟨_, rfl⟩
      obtain ⟨r8, hr8⟩ : ∃ r8, r8 = r * 8 := ⟨_, rfl⟩
      obtain ⟨sh, hsh⟩ : ∃ s, s = x * 2 ^ r8 % 4294967296 := ⟨_, rfl⟩
      obtain ⟨y, hy⟩ : ∃ y, y = X.getD q 0 := ⟨_, rfl⟩
      obtain ⟨z, hz⟩ : ∃ z, z = y ||| sh := ⟨_, rfl⟩
      have LX : Kept (X.length = 16) := ⟨by rw [EX.out]; exact rdT_len b i⟩
      have q16 : q < 16 := by omega
      have Ly : Kept (y < 4294967296) := ⟨by rw [hy, EX.out]; exact rdT_lt b KB.out i (by omega) q q16⟩
      have Ls : Kept (sh < 4294967296) := ⟨by rw [hsh]; exact Nat.mod_lt _ (by decide)⟩
      have GX : Kept ((ints .u32 X)[q]? = some (.int .u32 (y : Int))) := ⟨ints_get (by rw [hy, List.getD_eq_getElem?_getD, List.getElem?_eq_getElem (by rw [LX.out]; exact q16)]; rfl)⟩
      have e8 : x * 2 ^ r8 % 4294967296 = x * 2 ^ r8 := Nat.mod_eq_of_lt (by
        have h1 : r8 ≤ 24 := by omega
        have h2 : 2 ^ r8 ≤ 2 ^ 24 := Nat.pow_le_pow_right (by decide) h1
        have h3 : x * 2 ^ r8 ≤ 255 * 2 ^ 24 := Nat.mul_le_mul (by omega) h2
        exact Nat.lt_of_le_of_lt h3 (by decide))
      have ES : Kept (X.set q z = rdT b (i + 1)) := ⟨by
        rw [hz, hy, hsh, e8, hr8, hr, hq, EX.out]
        show _ = (rdT b i).set (i / 4) ((rdT b i).getD (i / 4) 0 ||| b.getD i 0 * 2 ^ (i % 4 * 8))
        rw [List.getD_eq_getElem?_getD (l := b), hx]
        rfl⟩
      have Hq : Kept _ := ⟨hq⟩
      have Hr : Kept _ := ⟨hr⟩
      have Hr8 : Kept _ := ⟨hr8⟩
      have Hs : Kept _ := ⟨hsh⟩
      have Hz : Kept _ := ⟨hz⟩
      have r8lt : r8 < 32 := by omega
      clear hq hr hr8 hsh hz hy e8 EX hx
      go_wp2_with (first | ((with_reducible refine wv_val (d := 10) ?hd ?hw (.int .u8 (x : Int)) ?hr ?_); (case hd => rfl); (case hw => kernel_rfl); (case hr => intro w; exact run_index (len := 64) rfl (by kernel_rfl) (by kernel_rfl) Try.underlying50 KL.out KX.out ag_u8 sz_u8 w); simp only [Act.put, List.setIfInBounds_toArray, List.set_cons_succ, List.set_cons_zero]))
      refine region_ownL wr 12 [(11, .int .i64 (i : Int)), (12, .int .i64 (q : Int)), (13, .pointer (some ⟨w.heap.size + 2, q, none⟩)), (14, .int .u32 (y : Int)), (15, .int .u8 (x : Int)), (16, .int .u32 (x : Int)), (17, .int .i64 (i : Int)), (18, .int .i64 (r : Int)), (19, .int .i64 (r8 : Int)), (20, .int .u32 (sh : Int)), (21, .int .u32 (z : Int)), (22, .pointer (some ⟨w.heap.size + 2, q, none⟩))] [] [] [] rfl (by kernel_rfl) (by kernel_rfl) (by kernel_rfl) (by kernel_rfl) (by kernel_rfl) (by kernel_rfl) (by kernel_rfl) (by kernel_rfl) (by kernel_rfl) (by kernel_rfl) (by kernel_rfl) ?hst1 ?hst2 (Below.refl _ _) (fun hA => ⟨ow_val hA (wants_none rfl) 11 (.int .i64 (i : Int)) (by kernel_rfl) rfl rfl rfl rfl (by kernel_rfl) (fun w => by kernel_rfl), ow_val hA (wants_none rfl) 12 (.int .i64 (q : Int)) (by kernel_rfl) rfl rfl rfl rfl (by kernel_rfl) (fun w => run_quo4 rfl (by kernel_rfl) Hq.out (by omega) w), ow_val hA (wants_none rfl) 13 (.pointer (some ⟨w.heap.size + 2, q, none⟩)) (by kernel_rfl) rfl rfl rfl rfl (by kernel_rfl) (fun w => run_idx rfl (by kernel_rfl) (by kernel_rfl) Try.underlying59 q16 sz_u32 w), ow_elem hA (wants_none rfl) 14 (.int .u32 (y : Int)) (by kernel_rfl) rfl rfl rfl rfl (by kernel_rfl) 38 ag_u32 (.tmp 13) rfl (⟨w.heap.size + 2, q, none⟩) (by kernel_rfl) (fun w1 hb => (A2.under hb).cell GX.out), ow_val hA (wants_none rfl) 15 (.int .u8 (x : Int)) (by kernel_rfl) rfl rfl rfl rfl (by kernel_rfl) (fun w => by kernel_rfl), ow_val hA (wants_none rfl) 16 (.int .u32 (x : Int)) (by kernel_rfl) rfl rfl rfl rfl (by kernel_rfl) (fun w => run_c832 rfl (by kernel_rfl) hx8 w), ow_val hA (wants_none rfl) 17 (.int .i64 (i : Int)) (by kernel_rfl) rfl rfl rfl rfl (by kernel_rfl) (fun w => by kernel_rfl), ow_val hA (wants_none rfl) 18 (.int .i64 (r : Int)) (by kernel_rfl) rfl rfl rfl rfl (by kernel_rfl) (fun w => run_rem4 rfl (by kernel_rfl) Hr.out (by omega) w), ow_val hA (wants_none rfl) 19 (.int .i64 (r8 : Int)) (by kernel_rfl) rfl rfl rfl rfl (by kernel_rfl) (fun w => run_mulK 8 rfl (by kernel_rfl) Hr8.out (by omega) w), ow_val hA (wants_none rfl) 20 (.int .u32 (sh : Int)) (by kernel_rfl) rfl rfl rfl rfl (by kernel_rfl) (fun w => run_shl32 rfl (by kernel_rfl) (by kernel_rfl) r8lt Hs.out w), ow_val hA (wants_none rfl) 21 (.int .u32 (z : Int)) (by kernel_rfl) rfl rfl rfl rfl (by kernel_rfl) (fun w => run_or32 rfl (by kernel_rfl) (by kernel_rfl) Ly.out Ls.out Hz.out w), ow_val hA (wants_none rfl) 22 (.pointer (some ⟨w.heap.size + 2, q, none⟩)) (by kernel_rfl) rfl rfl rfl rfl (by kernel_rfl) (fun w => run_idx rfl (by kernel_rfl) (by kernel_rfl) Try.underlying59 q16 sz_u32 w), trivial⟩) ?_
      case hst1 => intro q hq; cases hq
      case hst2 => intro q hq; cases hq
      intro fv wt hf hD hwt
      simp only [putR, List.foldl_cons, List.foldl_nil, List.map_cons, List.map_nil, Act.put, List.setIfInBounds_toArray, List.set_cons_succ, List.set_cons_zero]
      clear hf hD
      have A1' := A1.under hwt
      have A2' := A2.under hwt
      have HB' := HB.trans (hwt.mono HB.size)
      clear A1 A2 HB hwt
      refine wl_setElem rfl 38 sz_u32 (.tmp 22) (.tmp 21) rfl (w.heap.size + 2) q .u32 (z : Int) (by kernel_rfl) (by kernel_rfl) _ A2' (by rw [ints_size, LX.out]; exact q16) ?_
      intro w4 A4 P4
      rw [ints_set, ES.out] at A4
      have A14 := P4.blk A1' (by omega)
      have HB4 := HB'.trans (P4.below (by omega))
      clear A1' A2' HB' P4 GX Hq Hr Hr8 Hs Hz Ly Ls ES
      go_wp2_with fail
      go_roundg (gk - 1)
      case measure => omega
      case rel => exact ⟨i + 1, _, by omega, by simp, ⟨rfl⟩, HB4, A14, A4⟩
    case neg =>
      have hi' : ¬ (i : Int) < 64 := by omega
      obtain rfl : X = L := by rw [EX.out, ← EL.out, show i = 64 by omega]
      clear EX
      go_wp2_with (first | (refine wl_load rfl 59 (.tmp 3) rfl (w.heap.size + 2) rfl (ints .u32 X) 16 38 Try.underlying59 (by rw [ints_size, LL.out]; exact ws_inf2) A2 ?_) | (refine wl_store rfl 59 (.tmp 2) (.tmp 24) rfl _ (ints .u32 X) rfl rfl _ A1 (by rw [ints_size, LL.out]; exact ws_inf2) (by rw [ints_size, LL.out, LZ.out]) (ints_one _ _) ?_))
      intro w6 A6 P6
      go_wp2
      exact bodyPost_ret (v := .agg (ints .u32 X)) (results_cell_row Try.results47 _ _ _ 59 (ints .u32 X) (0, 0) _ rfl A6 Try.underlying59 rfl (by rw [ints_size, LL.out]; exact ws_inf2)) rfl ⟨rfl, HB.trans (P6.below (by omega))⟩
end Go.Proofs.Ytpamcmhfimnfbaa.sh
/-
  The words of a block at first, by the program.
-/
namespace Go.Proofs.Ytpamcmhfimnfbaa.sh
open Go Go.RowKit
set_option linter.unusedVariables false
set_option linter.unusedSimpArgs false

theorem part_congr (b b' : List Nat) (j j' : Nat) : ∀ n, (∀ m, m < n → b.getD (4 * j + m) 0 = b'.getD (4 * j' + m) 0) → part b j n = part b' j' n
  | 0, _ => rfl
  | n + 1, h => by
    show part b j n + b.getD (4 * j + n) 0 * 256 ^ n = part b' j' n + b'.getD (4 * j' + n) 0 * 256 ^ n
    rw [part_congr b b' j j' n (fun m hm => h m (by omega)), h n (by omega)]
theorem getD_left (l m : List Nat) (i : Nat) (h : i < l.length) : (l ++ m).getD i 0 = l.getD i 0 := by
  rw [List.getD_eq_getElem?_getD, List.getD_eq_getElem?_getD, List.getElem?_append_left h]
theorem getD_right (l m : List Nat) (i : Nat) (h : l.length ≤ i) : (l ++ m).getD i 0 = m.getD (i - l.length) 0 := by
  rw [List.getD_eq_getElem?_getD, List.getD_eq_getElem?_getD, List.getElem?_append_right h]
theorem frst_eq (key nonce : List Nat) (count : Nat) (hk : key.length = 32) (hn : nonce.length = 12) : (wsL (nameL ++ key ++ (List.replicate 4 0 ++ nonce)) 16).set 12 count = frstL key nonce count := by
  have hl : (nameL ++ key).length = 48 := by rw [List.length_append, hk]; rfl
  apply List.ext_getElem?
  intro j
  unfold frstL
  rw [List.getElem?_set, wsL_len]
  by_cases h1 : j < 12
  · rw [if_neg (by omega), List.getElem?_append_left (by simp [wsL_len]; omega), List.getElem?_append_left (by rw [wsL_len]; exact h1)]
    simp only [wsL, List.getElem?_map, List.getElem?_range (show j < 16 by omega), List.getElem?_range h1, Option.map_some]
    congr 1
    exact part_congr _ _ _ _ 4 (fun m hm => getD_left _ _ _ (by rw [hl]; omega))
  · by_cases h2 : j = 12
    · subst h2
      rw [if_pos rfl, if_pos (by decide), List.getElem?_append_left (by simp [wsL_len]), List.getElem?_append_right (by rw [wsL_len]; exact Nat.le_refl _), wsL_len]
      rfl
    · rw [if_neg (by omega), List.getElem?_append_right (by simp [wsL_len]; omega)]
      by_cases h3 : j < 16
      · simp only [wsL, List.getElem?_map, List.getElem?_range h3, List.length_append, List.length_map, List.length_range, List.length_singleton, List.getElem?_range (show j - (12 + 1) < 3 by omega), Option.map_some]
        congr 1
        refine part_congr _ _ _ _ 4 (fun m hm => ?_)
        rw [getD_right _ _ _ (by rw [hl]; omega), hl, getD_right _ _ _ (by simp; omega)]
        congr 1
        simp
        omega
      · rw [List.getElem?_eq_none (by rw [wsL_len]; omega), List.getElem?_eq_none (by simp [wsL_len]; omega)]
theorem splice_parts (key nonce : List Nat) (hk : key.length = 32) (hn : nonce.length = 12) : splice (splice (splice (List.replicate 64 0) 0 nameL) 16 key) 52 nonce = nameL ++ key ++ (List.replicate 4 0 ++ nonce) := by
  have e1 : splice (List.replicate 64 0) 0 nameL = nameL ++ List.replicate 48 0 := by
    unfold splice
    rw [List.take_zero, List.nil_append, List.drop_replicate]
    rfl
  have e2 : splice (nameL ++ List.replicate 48 0) 16 key = nameL ++ key ++ List.replicate 16 0 := by
    unfold splice
    rw [List.take_left' (by rfl), hk, List.drop_append]
    have : List.drop (16 + 32) nameL = [] := by rfl
    rw [this, List.nil_append, List.drop_replicate, List.append_assoc]
    rfl
  have hl : (nameL ++ key).length = 48 := by rw [List.length_append, hk]; rfl
  have e3 : splice (nameL ++ key ++ List.replicate 16 0) 52 nonce = nameL ++ key ++ (List.replicate 4 0 ++ nonce) := by
    unfold splice
    rw [List.take_append, hl, List.take_of_length_le (by rw [hl]; decide), List.take_replicate, hn, List.drop_of_length_le (by rw [List.length_append, hl, List.length_replicate]; decide), List.append_nil, List.append_assoc]
    rfl
  rw [e1, e2, e3]
theorem arr_to_run {o : Oper} {a : Act} {x : Operand} {g n : Nat} (m : Nat) {t e : TypeId} (ho : o.op = .slice t x none (some (.const (.int .i64 (m : Int)))) none) (hx : a.eval x = .pointer (some ⟨g, 0, none⟩)) (ht : Try.prog.underlying t = some (.array n e)) (sz : ∀ w, (sizeOf e).run Try.prog w = .ok 1 w) (hm : m ≤ n) (hn : 0 < n) (w : World) :
    (execOp a.eval o).run Try.prog w = .ok (.value (.slice (some ⟨g, 0, none⟩) m n)) w := by
  have e3 : a.eval (.const (.int .i64 (m : Int))) = .int .i64 (m : Int) := rfl
  have h2 : ((m : Int) ≤ (n : Int)) := by omega
  unfold execOp
  simp only [ho, hx, e3, Option.map_none, Option.map_some, Instr.sliceAt, Instr.slice, Instr.sliceBounds, Sem.run_bind, run_underlying ht, Result.andThen_ok]
  simp [Instr.sliceBound, asIntOf, sz, go_sem, h2]
  try omega
theorem arr_ft_run {o : Oper} {a : Act} {x : Operand} {g n : Nat} (k m : Nat) {t e : TypeId} (ho : o.op = .slice t x (some (.const (.int .i64 (k : Int)))) (some (.const (.int .i64 (m : Int)))) none) (hx : a.eval x = .pointer (some ⟨g, 0, none⟩)) (ht : Try.prog.underlying t = some (.array n e)) (sz : ∀ w, (sizeOf e).run Try.prog w = .ok 1 w) (hk : k ≤ m) (hm : m ≤ n) (hn : k < n) (w : World) :
    (execOp a.eval o).run Try.prog w = .ok (.value (.slice (some ⟨g, k, none⟩) (m - k) (n - k))) w := by
  have e3 : a.eval (.const (.int .i64 (m : Int))) = .int .i64 (m : Int) := rfl
  have e4 : a.eval (.const (.int .i64 (k : Int))) = .int .i64 (k : Int) := rfl
  have h2 : ((m : Int) ≤ (n : Int)) := by omega
  have h1 : ((k : Int) ≤ (m : Int)) := by omega
  unfold execOp
  simp only [ho, hx, e3, e4, Option.map_none, Option.map_some, Instr.sliceAt, Instr.slice, Instr.sliceBounds, Sem.run_bind, run_underlying ht, Result.andThen_ok]
  simp [Instr.sliceBound, asIntOf, sz, go_sem, h1, h2, Addr.add]
  rw [if_pos hm, if_pos hk]
  simp [show ¬ n = k by omega]
  exact fun h => h.symm
theorem arr_from_run {o : Oper} {a : Act} {x : Operand} {g n : Nat} (k : Nat) {t e : TypeId} (ho : o.op = .slice t x (some (.const (.int .i64 (k : Int)))) none none) (hx : a.eval x = .pointer (some ⟨g, 0, none⟩)) (ht : Try.prog.underlying t = some (.array n e)) (sz : ∀ w, (sizeOf e).run Try.prog w = .ok 1 w) (hn : k < n) (w : World) :
    (execOp a.eval o).run Try.prog w = .ok (.value (.slice (some ⟨g, k, none⟩) (n - k) (n - k))) w := by
  have e4 : a.eval (.const (.int .i64 (k : Int))) = .int .i64 (k : Int) := rfl
  have h1 : ((k : Int) ≤ (n : Int)) := by omega
  unfold execOp
  simp only [ho, hx, e4, Option.map_none, Option.map_some, Instr.sliceAt, Instr.slice, Instr.sliceBounds, Sem.run_bind, run_underlying ht, Result.andThen_ok]
  simp [Instr.sliceBound, asIntOf, sz, go_sem, h1, Addr.add]
  rw [if_pos (by omega)]
  simp [show ¬ n = k by omega]
  exact fun h => h.symm
/-- A constant text is copied. -/
theorem wl_copyS {ops : Array Oper} {rest : List Oper} {o : Oper} {a : Act} {w : World} {Q : Exit → Act → World → Prop} (hgd : o.guard = none) (d s : Operand) (dT sT : TypeId) (ho : o.op = .call { callee := .builtin .copy, args := #[d, s], argTypes := #[dT, sT] }) (hu : Try.prog.underlying dT = some (.slice 5))
    (g off dLen dCap : Nat) (hd : a.eval d = .slice (some ⟨g, off, none⟩) dLen dCap) (t8 : ByteArray) (hs : a.eval s = .string t8) (l : List Nat) (hl : Lib.byteCells t8.data.toList = (ints .u8 l).toList) {t : TypeId} (cur : Array Value) (hg : Blk w g t cur) (hn : l.length = t8.size) (hle : t8.size ≤ dLen) (hfit : off + l.length ≤ cur.size)
    (h : ∀ w', Blk w' g t (splice cur.toList off (ints .u8 l).toList).toArray → Put w w' g → wpList Try.prog ops Q rest (a.put o.dst (goInt t8.size)) w') : wpList Try.prog ops Q (o :: rest) a w := by
  refine wpList_plain hgd fun K hK => ?_
  have hrun := Lib.run_copy_row_string (P := Try.prog) w dT sT o.type 5 g off dLen dCap t8 cur t hu (by kernel_rfl) hg hle (by rw [← hn]; exact hfit)
  have e : cur.toList.take off ++ Lib.byteCells t8.data.toList ++ cur.toList.drop (off + t8.size) = splice cur.toList off (ints .u8 l).toList := by
    unfold splice
    rw [hl, List.append_assoc, ← hn]
    simp [ints]
  rw [e] at hrun
  unfold Oper.wp
  simp [execOp, ho, resolve, invoke, builtin, hd, hs, hrun, Result.andThen]
  exact hK _ _ (h _ (setRow_heap _ _ _ _ _ _ hg) ⟨⟨rfl, rfl, rfl, by simp, fun k _ hk => setRow_other _ _ _ _ (fun e => hk (by rw [e]))⟩, by simp⟩)
theorem z64_eq2 : (#[.int .u8 0, .int .u8 0, .int .u8 0, .int .u8 0, .int .u8 0, .int .u8 0, .int .u8 0, .int .u8 0, .int .u8 0, .int .u8 0, .int .u8 0, .int .u8 0, .int .u8 0, .int .u8 0, .int .u8 0, .int .u8 0, .int .u8 0, .int .u8 0, .int .u8 0, .int .u8 0, .int .u8 0, .int .u8 0, .int .u8 0, .int .u8 0, .int .u8 0, .int .u8 0, .int .u8 0, .int .u8 0, .int .u8 0, .int .u8 0, .int .u8 0, .int .u8 0, .int .u8 0, .int .u8 0, .int .u8 0, .int .u8 0, .int .u8 0, .int .u8 0, .int .u8 0, .int .u8 0, .int .u8 0, .int .u8 0, .int .u8 0, .int .u8 0, .int .u8 0, .int .u8 0, .int .u8 0, .int .u8 0, .int .u8 0, .int .u8 0, .int .u8 0, .int .u8 0, .int .u8 0, .int .u8 0, .int .u8 0, .int .u8 0, .int .u8 0, .int .u8 0, .int .u8 0, .int .u8 0, .int .u8 0, .int .u8 0, .int .u8 0, .int .u8 0] : Array Value) = ints .u8 (List.replicate 64 0) := by kernel_rfl
theorem wsz16 (b : List Nat) : (Try.prog.info? 59).map (·.size) = some (ints .u32 (wsL b 16)).size := by rw [ints_size, wsL_len]; exact ws_inf2

set_option maxRecDepth 100000 in
set_option maxHeartbeats 1000000 in
theorem laid_any (key nonce : List Nat) (count : Nat) (w : World) (hk : key.length = 32) (hy : Bytes key) (hn : nonce.length = 12) (hyn : Bytes nonce) :
    Calls Try.prog 30 #[.agg (ints .u8 key), .agg (ints .u8 nonce), .int .u32 (count : Int)] w fun e w' => e = .returned (.agg (ints .u32 (frstL key nonce count))) ∧ Below w.heap.size w w' := by
  have LK : Kept _ := ⟨hk⟩
  have LN : Kept _ := ⟨hn⟩
  obtain ⟨L, hL⟩ : ∃ L, L = frstL key nonce count := ⟨_, rfl⟩
  rw [← hL]
  obtain ⟨B3, hB3⟩ : ∃ B, B = nameL ++ key ++ (List.replicate 4 0 ++ nonce) := ⟨_, rfl⟩
  have KB : Kept (Bytes B3) := ⟨by rw [hB3]; exact (nameL_bytes.append hy).append ((bytes_zero 4).append hyn)⟩
  have LB : Kept (B3.length = 64) := ⟨by rw [hB3]; simp only [List.length_append, hk, hn, List.length_replicate]; rfl⟩
  have EF : Kept ((wsL B3 16).set 12 count = L) := ⟨by rw [hB3, hL]; exact frst_eq key nonce count hk hn⟩
  have LL : Kept (L.length = 16) := ⟨by rw [← EF.out, List.length_set, wsL_len]⟩
  obtain ⟨Z0, hZ0⟩ : ∃ Z, Z = List.replicate 64 0 := ⟨_, rfl⟩
  obtain ⟨B1, hB1⟩ : ∃ B, B = splice Z0 0 nameL := ⟨_, rfl⟩
  obtain ⟨B2, hB2⟩ : ∃ B, B = splice B1 16 key := ⟨_, rfl⟩
  have EB1 : Kept _ := ⟨hB1⟩
  have EB2 : Kept _ := ⟨hB2⟩
  have EB3 : Kept (splice B2 52 nonce = B3) := ⟨by rw [hB2, hB1, hZ0, hB3]; exact splice_parts key nonce hk hn⟩
  have LZ : Kept (Z0.length = 64) := ⟨by rw [hZ0]; rfl⟩
  have LB1 : Kept (B1.length = 64) := ⟨by rw [hB1, splice_len (by rw [LZ.out]; decide)]; exact LZ.out⟩
  have LB2 : Kept (B2.length = 64) := ⟨by rw [hB2, splice_len (by rw [LB1.out, hk]; decide)]; exact LB1.out⟩
  have EI : Kept ((#[.int .u8 0, .int .u8 0, .int .u8 0, .int .u8 0, .int .u8 0, .int .u8 0, .int .u8 0, .int .u8 0, .int .u8 0, .int .u8 0, .int .u8 0, .int .u8 0, .int .u8 0, .int .u8 0, .int .u8 0, .int .u8 0, .int .u8 0, .int .u8 0, .int .u8 0, .int .u8 0, .int .u8 0, .int .u8 0, .int .u8 0, .int .u8 0, .int .u8 0, .int .u8 0, .int .u8 0, .int .u8 0, .int .u8 0, .int .u8 0, .int .u8 0, .int .u8 0, .int .u8 0, .int .u8 0, .int .u8 0, .int .u8 0, .int .u8 0, .int .u8 0, .int .u8 0, .int .u8 0, .int .u8 0, .int .u8 0, .int .u8 0, .int .u8 0, .int .u8 0, .int .u8 0, .int .u8 0, .int .u8 0, .int .u8 0, .int .u8 0, .int .u8 0, .int .u8 0, .int .u8 0, .int .u8 0, .int .u8 0, .int .u8 0, .int .u8 0, .int .u8 0, .int .u8 0, .int .u8 0, .int .u8 0, .int .u8 0, .int .u8 0, .int .u8 0] : Array Value) = ints .u8 Z0) := ⟨by rw [hZ0]; exact z64_eq2⟩
  obtain ⟨ZW, hZW⟩ : ∃ ZZ : Array Value, ZZ = #[.int .u32 0, .int .u32 0, .int .u32 0, .int .u32 0, .int .u32 0, .int .u32 0, .int .u32 0, .int .u32 0, .int .u32 0, .int .u32 0, .int .u32 0, .int .u32 0, .int .u32 0, .int .u32 0, .int .u32 0, .int .u32 0] := ⟨_, rfl⟩
  have LW : Kept (ZW.size = 16) := ⟨by rw [hZW]; rfl⟩
  have A0 : Blk ((((w.alloc (.cells (ints .u8 key) 22)).alloc (.cells (ints .u8 nonce) 36)).alloc (.cells #[.int .u32 0, .int .u32 0, .int .u32 0, .int .u32 0, .int .u32 0, .int .u32 0, .int .u32 0, .int .u32 0, .int .u32 0, .int .u32 0, .int .u32 0, .int .u32 0, .int .u32 0, .int .u32 0, .int .u32 0, .int .u32 0] 59)).alloc (.cells #[.int .u8 0, .int .u8 0, .int .u8 0, .int .u8 0, .int .u8 0, .int .u8 0, .int .u8 0, .int .u8 0, .int .u8 0, .int .u8 0, .int .u8 0, .int .u8 0, .int .u8 0, .int .u8 0, .int .u8 0, .int .u8 0, .int .u8 0, .int .u8 0, .int .u8 0, .int .u8 0, .int .u8 0, .int .u8 0, .int .u8 0, .int .u8 0, .int .u8 0, .int .u8 0, .int .u8 0, .int .u8 0, .int .u8 0, .int .u8 0, .int .u8 0, .int .u8 0, .int .u8 0, .int .u8 0, .int .u8 0, .int .u8 0, .int .u8 0, .int .u8 0, .int .u8 0, .int .u8 0, .int .u8 0, .int .u8 0, .int .u8 0, .int .u8 0, .int .u8 0, .int .u8 0, .int .u8 0, .int .u8 0, .int .u8 0, .int .u8 0, .int .u8 0, .int .u8 0, .int .u8 0, .int .u8 0, .int .u8 0, .int .u8 0, .int .u8 0, .int .u8 0, .int .u8 0, .int .u8 0, .int .u8 0, .int .u8 0, .int .u8 0, .int .u8 0] 50)) w.heap.size 22 (ints .u8 key) := (((blk_new w _ _).alloc _).alloc _).alloc _
  have A1 : Blk ((((w.alloc (.cells (ints .u8 key) 22)).alloc (.cells (ints .u8 nonce) 36)).alloc (.cells #[.int .u32 0, .int .u32 0, .int .u32 0, .int .u32 0, .int .u32 0, .int .u32 0, .int .u32 0, .int .u32 0, .int .u32 0, .int .u32 0, .int .u32 0, .int .u32 0, .int .u32 0, .int .u32 0, .int .u32 0, .int .u32 0] 59)).alloc (.cells #[.int .u8 0, .int .u8 0, .int .u8 0, .int .u8 0, .int .u8 0, .int .u8 0, .int .u8 0, .int .u8 0, .int .u8 0, .int .u8 0, .int .u8 0, .int .u8 0, .int .u8 0, .int .u8 0, .int .u8 0, .int .u8 0, .int .u8 0, .int .u8 0, .int .u8 0, .int .u8 0, .int .u8 0, .int .u8 0, .int .u8 0, .int .u8 0, .int .u8 0, .int .u8 0, .int .u8 0, .int .u8 0, .int .u8 0, .int .u8 0, .int .u8 0, .int .u8 0, .int .u8 0, .int .u8 0, .int .u8 0, .int .u8 0, .int .u8 0, .int .u8 0, .int .u8 0, .int .u8 0, .int .u8 0, .int .u8 0, .int .u8 0, .int .u8 0, .int .u8 0, .int .u8 0, .int .u8 0, .int .u8 0, .int .u8 0, .int .u8 0, .int .u8 0, .int .u8 0, .int .u8 0, .int .u8 0, .int .u8 0, .int .u8 0, .int .u8 0, .int .u8 0, .int .u8 0, .int .u8 0, .int .u8 0, .int .u8 0, .int .u8 0, .int .u8 0] 50)) (w.heap.size + 1) 36 (ints .u8 nonce) := ((blk_top _ _ _ _ (by simp)).alloc _).alloc _
  have A2 : Blk ((((w.alloc (.cells (ints .u8 key) 22)).alloc (.cells (ints .u8 nonce) 36)).alloc (.cells #[.int .u32 0, .int .u32 0, .int .u32 0, .int .u32 0, .int .u32 0, .int .u32 0, .int .u32 0, .int .u32 0, .int .u32 0, .int .u32 0, .int .u32 0, .int .u32 0, .int .u32 0, .int .u32 0, .int .u32 0, .int .u32 0] 59)).alloc (.cells #[.int .u8 0, .int .u8 0, .int .u8 0, .int .u8 0, .int .u8 0, .int .u8 0, .int .u8 0, .int .u8 0, .int .u8 0, .int .u8 0, .int .u8 0, .int .u8 0, .int .u8 0, .int .u8 0, .int .u8 0, .int .u8 0, .int .u8 0, .int .u8 0, .int .u8 0, .int .u8 0, .int .u8 0, .int .u8 0, .int .u8 0, .int .u8 0, .int .u8 0, .int .u8 0, .int .u8 0, .int .u8 0, .int .u8 0, .int .u8 0, .int .u8 0, .int .u8 0, .int .u8 0, .int .u8 0, .int .u8 0, .int .u8 0, .int .u8 0, .int .u8 0, .int .u8 0, .int .u8 0, .int .u8 0, .int .u8 0, .int .u8 0, .int .u8 0, .int .u8 0, .int .u8 0, .int .u8 0, .int .u8 0, .int .u8 0, .int .u8 0, .int .u8 0, .int .u8 0, .int .u8 0, .int .u8 0, .int .u8 0, .int .u8 0, .int .u8 0, .int .u8 0, .int .u8 0, .int .u8 0, .int .u8 0, .int .u8 0, .int .u8 0, .int .u8 0] 50)) (w.heap.size + 2) 59 ZW := by rw [hZW]; exact (blk_top _ _ _ _ (by simp)).alloc _
  have A3 : Blk ((((w.alloc (.cells (ints .u8 key) 22)).alloc (.cells (ints .u8 nonce) 36)).alloc (.cells #[.int .u32 0, .int .u32 0, .int .u32 0, .int .u32 0, .int .u32 0, .int .u32 0, .int .u32 0, .int .u32 0, .int .u32 0, .int .u32 0, .int .u32 0, .int .u32 0, .int .u32 0, .int .u32 0, .int .u32 0, .int .u32 0] 59)).alloc (.cells #[.int .u8 0, .int .u8 0, .int .u8 0, .int .u8 0, .int .u8 0, .int .u8 0, .int .u8 0, .int .u8 0, .int .u8 0, .int .u8 0, .int .u8 0, .int .u8 0, .int .u8 0, .int .u8 0, .int .u8 0, .int .u8 0, .int .u8 0, .int .u8 0, .int .u8 0, .int .u8 0, .int .u8 0, .int .u8 0, .int .u8 0, .int .u8 0, .int .u8 0, .int .u8 0, .int .u8 0, .int .u8 0, .int .u8 0, .int .u8 0, .int .u8 0, .int .u8 0, .int .u8 0, .int .u8 0, .int .u8 0, .int .u8 0, .int .u8 0, .int .u8 0, .int .u8 0, .int .u8 0, .int .u8 0, .int .u8 0, .int .u8 0, .int .u8 0, .int .u8 0, .int .u8 0, .int .u8 0, .int .u8 0, .int .u8 0, .int .u8 0, .int .u8 0, .int .u8 0, .int .u8 0, .int .u8 0, .int .u8 0, .int .u8 0, .int .u8 0, .int .u8 0, .int .u8 0, .int .u8 0, .int .u8 0, .int .u8 0, .int .u8 0, .int .u8 0] 50)) (w.heap.size + 3) 50 (ints .u8 Z0) := by rw [← EI.out]; exact blk_top _ _ _ _ (by simp)
  have Q0 : Below w.heap.size w ((((w.alloc (.cells (ints .u8 key) 22)).alloc (.cells (ints .u8 nonce) 36)).alloc (.cells #[.int .u32 0, .int .u32 0, .int .u32 0, .int .u32 0, .int .u32 0, .int .u32 0, .int .u32 0, .int .u32 0, .int .u32 0, .int .u32 0, .int .u32 0, .int .u32 0, .int .u32 0, .int .u32 0, .int .u32 0, .int .u32 0] 59)).alloc (.cells #[.int .u8 0, .int .u8 0, .int .u8 0, .int .u8 0, .int .u8 0, .int .u8 0, .int .u8 0, .int .u8 0, .int .u8 0, .int .u8 0, .int .u8 0, .int .u8 0, .int .u8 0, .int .u8 0, .int .u8 0, .int .u8 0, .int .u8 0, .int .u8 0, .int .u8 0, .int .u8 0, .int .u8 0, .int .u8 0, .int .u8 0, .int .u8 0, .int .u8 0, .int .u8 0, .int .u8 0, .int .u8 0, .int .u8 0, .int .u8 0, .int .u8 0, .int .u8 0, .int .u8 0, .int .u8 0, .int .u8 0, .int .u8 0, .int .u8 0, .int .u8 0, .int .u8 0, .int .u8 0, .int .u8 0, .int .u8 0, .int .u8 0, .int .u8 0, .int .u8 0, .int .u8 0, .int .u8 0, .int .u8 0, .int .u8 0, .int .u8 0, .int .u8 0, .int .u8 0, .int .u8 0, .int .u8 0, .int .u8 0, .int .u8 0, .int .u8 0, .int .u8 0, .int .u8 0, .int .u8 0, .int .u8 0, .int .u8 0, .int .u8 0, .int .u8 0] 50)) := ((((Below.refl _ _).alloc (Nat.le_refl _) _).alloc (by simp) _).alloc (by simp; omega) _).alloc (by simp; omega) _
  have HB1 : Kept ((splice (ints .u8 Z0).toList 0 (ints .u8 nameL).toList).toArray = ints .u8 B1) := ⟨by rw [splice_ints, EB1.out]⟩
  have HB2 : Kept ((splice (ints .u8 B1).toList 16 (ints .u8 (key.take 32)).toList).toArray = ints .u8 B2) := ⟨by rw [splice_ints, List.take_of_length_le (by rw [hk]; exact Nat.le_refl _), EB2.out]⟩
  have HB3 : Kept ((splice (ints .u8 B2).toList 52 (ints .u8 (nonce.take 12)).toList).toArray = ints .u8 B3) := ⟨by rw [splice_ints, List.take_of_length_le (by rw [hn]; exact Nat.le_refl _), EB3.out]⟩
  have hname : Kept (Lib.byteCells ({ data := #[101, 120, 112, 97, 110, 100, 32, 51, 50, 45, 98, 121, 116, 101, 32, 107] } : ByteArray).data.toList = (ints .u8 nameL).toList) := ⟨by kernel_rfl⟩
  have hZl : 0 + nameL.length ≤ (ints .u8 Z0).size := by rw [ints_size, LZ.out]; decide
  clear hk hy hn hyn hL hB3 hZ0 hB1 hB2 hZW EI EB1 EB2 EB3
  go_enter Try.func30, Try.ntmps30
  go_wp2_with (first | ((with_reducible refine wv_val (d := 9) ?hd ?hw (.slice (some ⟨w.heap.size + 3, 0, none⟩) 16 64) ?hr ?_); (case hd => rfl); (case hw => kernel_rfl); (case hr => intro w; exact arr_to_run 16 rfl (by kernel_rfl) Try.underlying50 sz_u8 (by decide) (by decide) w); simp only [Act.put, List.setIfInBounds_toArray, List.set_cons_succ, List.set_cons_zero]) | (refine wl_copyS rfl (.tmp 9) _ 24 9 rfl Try.underlying24 (w.heap.size + 3) 0 16 64 rfl _ rfl nameL hname.out _ A3 rfl (by decide) hZl ?_))
  intro w1 C3 P1
  rw [HB1.out] at C3
  have C0 := P1.blk A0 (by omega)
  have C1 := P1.blk A1 (by omega)
  have C2 := P1.blk A2 (by omega)
  have Q1 := Q0.trans (P1.below (by omega))
  clear A0 A1 A2 A3 Q0 P1 HB1 hname hZl
  have VK : Kept (BytesV (.slice (some ⟨w.heap.size, 0, none⟩) 32 32) w1 key) := ⟨arr_bytes C0 LK.out⟩
  have VN : Kept (BytesV (.slice (some ⟨w.heap.size + 1, 0, none⟩) 12 12) w1 nonce) := ⟨arr_bytes C1 LN.out⟩
  go_wp2_with fail
  refine region_ownL w1 2 [(11, .slice (some ⟨w.heap.size + 3, 16, none⟩) 32 48), (12, .slice (some ⟨w.heap.size, 0, none⟩) 32 32)] [] [] [] rfl (by kernel_rfl) (by kernel_rfl) (by kernel_rfl) (by kernel_rfl) (by kernel_rfl) (by kernel_rfl) (by kernel_rfl) (by kernel_rfl) (by kernel_rfl) (by kernel_rfl) (by kernel_rfl) ?hst1 ?hst2 (Below.refl _ _) (fun hA => ⟨ow_val hA (wants_none rfl) 11 (.slice (some ⟨w.heap.size + 3, 16, none⟩) 32 48) (by kernel_rfl) rfl rfl rfl rfl (by kernel_rfl) (fun w => arr_ft_run 16 48 rfl (by kernel_rfl) Try.underlying50 sz_u8 (by decide) (by decide) (by decide) w), ow_val hA (wants_none rfl) 12 (.slice (some ⟨w.heap.size, 0, none⟩) 32 32) (by kernel_rfl) rfl rfl rfl rfl (by kernel_rfl) (fun w => arr_all_run rfl (by kernel_rfl) Try.underlying22 sz_u8 (by decide) w), trivial⟩) ?_
  case hst1 => intro q hq; cases hq
  case hst2 => intro q hq; cases hq
  intro fv w2 hf hD hb2
  simp only [putR, List.foldl_cons, List.foldl_nil, List.map_cons, List.map_nil, Act.put, List.setIfInBounds_toArray, List.set_cons_succ, List.set_cons_zero]
  clear hf hD
  refine wl_copyV rfl (.tmp 11) (.tmp 12) 24 24 rfl Try.underlying24 (w.heap.size + 3) 16 32 48 (by kernel_rfl) (some ⟨w.heap.size, 0, none⟩) 32 32 (by kernel_rfl) _ (C3.under hb2) key (VK.out.under hb2) 32 rfl (by rw [ints_size, LB1.out]; decide) ?_
  intro w3 D3 P3
  rw [HB2.out] at D3
  have D0 := P3.blk (C0.under hb2) (by omega)
  have D1 := P3.blk (C1.under hb2) (by omega)
  have D2 := P3.blk (C2.under hb2) (by omega)
  have Q3 := (Q1.trans (hb2.mono Q1.size)).trans (P3.below (by omega))
  clear C0 C1 C2 C3 Q1 P3 HB2 VK VN hb2
  have VN : Kept (BytesV (.slice (some ⟨w.heap.size + 1, 0, none⟩) 12 12) w3 nonce) := ⟨arr_bytes D1 LN.out⟩
  go_wp2_with fail
  refine region_ownL w3 2 [(14, .slice (some ⟨w.heap.size + 3, 52, none⟩) 12 12), (15, .slice (some ⟨w.heap.size + 1, 0, none⟩) 12 12)] [] [] [] rfl (by kernel_rfl) (by kernel_rfl) (by kernel_rfl) (by kernel_rfl) (by kernel_rfl) (by kernel_rfl) (by kernel_rfl) (by kernel_rfl) (by kernel_rfl) (by kernel_rfl) (by kernel_rfl) ?hst1 ?hst2 (Below.refl _ _) (fun hA => ⟨ow_val hA (wants_none rfl) 14 (.slice (some ⟨w.heap.size + 3, 52, none⟩) 12 12) (by kernel_rfl) rfl rfl rfl rfl (by kernel_rfl) (fun w => arr_from_run 52 rfl (by kernel_rfl) Try.underlying50 sz_u8 (by decide) w), ow_val hA (wants_none rfl) 15 (.slice (some ⟨w.heap.size + 1, 0, none⟩) 12 12) (by kernel_rfl) rfl rfl rfl rfl (by kernel_rfl) (fun w => arr_all_run rfl (by kernel_rfl) Try.underlying36 sz_u8 (by decide) w), trivial⟩) ?_
  case hst1 => intro q hq; cases hq
  case hst2 => intro q hq; cases hq
  intro fv w4 hf hD hb4
  simp only [putR, List.foldl_cons, List.foldl_nil, List.map_cons, List.map_nil, Act.put, List.setIfInBounds_toArray, List.set_cons_succ, List.set_cons_zero]
  clear hf hD
  refine wl_copyV rfl (.tmp 14) (.tmp 15) 24 24 rfl Try.underlying24 (w.heap.size + 3) 52 12 12 (by kernel_rfl) (some ⟨w.heap.size + 1, 0, none⟩) 12 12 (by kernel_rfl) _ (D3.under hb4) nonce (VN.out.under hb4) 12 rfl (by rw [ints_size, LB2.out]; decide) ?_
  intro w5 E3 P5
  rw [HB3.out] at E3
  have E2 := P5.blk (D2.under hb4) (by omega)
  have Q5 := (Q3.trans (hb4.mono Q3.size)).trans (P5.below (by omega))
  clear D0 D1 D2 D3 Q3 P5 HB3 VN hb4
  go_wp2_with (first | (refine wl_load rfl 50 (.tmp 7) rfl (w.heap.size + 3) rfl (ints .u8 B3) 64 5 Try.underlying50 (by rw [ints_size, LB.out]; exact i64_inf2) E3 ?_))
  refine (read_any B3 w5 KB.out LB.out).mono ?_
  rintro e w6 ⟨rfl, hb6⟩
  have F2 := E2.under hb6
  have Q6 := Q5.trans (hb6.mono Q5.size)
  obtain ⟨S, hS⟩ : ∃ S, S = wsL B3 16 := ⟨_, rfl⟩
  rw [← hS]
  rw [← hS] at EF
  have LS : Kept (S.length = 16) := ⟨by rw [hS]; exact wsL_len _ _⟩
  have hl6 : w.heap.size + 3 < w6.heap.size := (E3.under hb6).lt
  clear E2 E3 Q5 hb6 hS
  go_wp2_with (first | (refine wl_store rfl 59 (.tmp 8) (.tmp 18) rfl w6.heap.size (ints .u32 S) rfl rfl _ (blk_new w6 _ _) (by rw [ints_size, LS.out]; exact ws_inf2) (by rw [ints_size, LS.out]; rfl) (ints_one _ _) ?_))
  intro w7 G8 P7
  have G2 := P7.blk (F2.alloc _) (by omega)
  have Q7 := (Q6.alloc Q6.size _).trans (P7.below (by omega))
  generalize hg8 : w6.heap.size = g8 at *
  clear F2 Q6 P7
  go_wp2_with (first | (refine wl_setElem rfl 38 sz_u32 (.tmp 20) (.tmp 19) rfl g8 12 .u32 (count : Int) rfl rfl _ G8 (by rw [ints_size, LS.out]; decide) ?_))
  intro w8 H8 P8
  rw [ints_set, EF.out] at H8
  have H2 := P8.blk G2 (by omega)
  have Q8 := Q7.trans (P8.below (by omega))
  clear G8 G2 Q7 P8
  go_wp2_with (first | (refine wl_load rfl 59 (.tmp 8) rfl g8 rfl (ints .u32 L) 16 38 Try.underlying59 (by rw [ints_size, LL.out]; exact ws_inf2) H8 ?_) | (refine wl_store rfl 59 (.tmp 6) (.tmp 21) rfl (w.heap.size + 2) (ints .u32 L) rfl rfl _ H2 (by rw [ints_size, LL.out]; exact ws_inf2) (by rw [ints_size, LL.out, LW.out]) (ints_one _ _) ?_))
  intro w9 A9 P9
  go_wp2
  exact bodyPost_ret (v := .agg (ints .u32 L)) (results_cell_row Try.results30 _ _ _ 59 (ints .u32 L) (0, 0) _ rfl A9 Try.underlying59 rfl (by rw [ints_size, LL.out]; exact ws_inf2)) rfl ⟨rfl, Q8.trans (P9.below (by omega))⟩
end Go.Proofs.Ytpamcmhfimnfbaa.sh
/-
  A block, by the program.
-/
namespace Go.Proofs.Ytpamcmhfimnfbaa.sh
open Go Go.RowKit
set_option linter.unusedVariables false
set_option linter.unusedSimpArgs false

theorem i12_info : (Try.prog.info? 36).map (·.size) = some 12 := by kernel_rfl
set_option maxRecDepth 100000 in
set_option maxHeartbeats 1000000 in
theorem Block_any (key nonce : List Nat) (count : Nat) (w : World) (hk : key.length = 32) (hy : Bytes key) (hn : nonce.length = 12) (hyn : Bytes nonce) (hc : count < 4294967296) :
    Calls Try.prog 22 #[.agg (ints .u8 key), .agg (ints .u8 nonce), .int .u32 (count : Int)] w fun e w' => e = .returned (.agg (ints .u8 (blockL key nonce count))) ∧ Below w.heap.size w w' := by
  have LK : Kept _ := ⟨hk⟩
  have LN : Kept _ := ⟨hn⟩
  have CL : Kept (∀ w', Calls Try.prog 30 #[.agg (ints .u8 key), .agg (ints .u8 nonce), .int .u32 (count : Int)] w' fun e w2 => e = .returned (.agg (ints .u32 (frstL key nonce count))) ∧ Below w'.heap.size w' w2) := ⟨fun w' => laid_any key nonce count w' hk hy hn hyn⟩
  obtain ⟨S, hS⟩ : ∃ S, S = frstL key nonce count := ⟨_, rfl⟩
  have WS : Kept (Ws S) := ⟨by rw [hS]; exact Ws.frst hy hyn hc⟩
  obtain ⟨M, hM⟩ : ∃ M, M = mixT S 10 := ⟨_, rfl⟩
  have WM : Kept (Ws M) := ⟨by rw [hM]; exact WS.out.mix 10⟩
  obtain ⟨P, hP⟩ : ∃ P, P = plusL S M := ⟨_, rfl⟩
  have WP : Kept (Ws P) := ⟨by rw [hP]; exact WS.out.plus WM.out⟩
  obtain ⟨L, hL⟩ : ∃ L, L = blockL key nonce count := ⟨_, rfl⟩
  have EL : Kept (L = leL P) := ⟨by rw [hL, hP, hM, hS]; rfl⟩
  have LL : Kept (L.length = 64) := ⟨by rw [hL]; exact blockL_len _ _ _⟩
  have LS : Kept (S.length = 16) := ⟨WS.out.len⟩
  have EM : Kept _ := ⟨hM⟩
  have EP : Kept _ := ⟨hP⟩
  rw [← hS] at CL
  rw [← hL]
  obtain ⟨Z0, hZ0⟩ : ∃ Z, Z = List.replicate 64 0 := ⟨_, rfl⟩
  have LZ : Kept (Z0.length = 64) := ⟨by rw [hZ0]; rfl⟩
  have EI : Kept ((#[.int .u8 0, .int .u8 0, .int .u8 0, .int .u8 0, .int .u8 0, .int .u8 0, .int .u8 0, .int .u8 0, .int .u8 0, .int .u8 0, .int .u8 0, .int .u8 0, .int .u8 0, .int .u8 0, .int .u8 0, .int .u8 0, .int .u8 0, .int .u8 0, .int .u8 0, .int .u8 0, .int .u8 0, .int .u8 0, .int .u8 0, .int .u8 0, .int .u8 0, .int .u8 0, .int .u8 0, .int .u8 0, .int .u8 0, .int .u8 0, .int .u8 0, .int .u8 0, .int .u8 0, .int .u8 0, .int .u8 0, .int .u8 0, .int .u8 0, .int .u8 0, .int .u8 0, .int .u8 0, .int .u8 0, .int .u8 0, .int .u8 0, .int .u8 0, .int .u8 0, .int .u8 0, .int .u8 0, .int .u8 0, .int .u8 0, .int .u8 0, .int .u8 0, .int .u8 0, .int .u8 0, .int .u8 0, .int .u8 0, .int .u8 0, .int .u8 0, .int .u8 0, .int .u8 0, .int .u8 0, .int .u8 0, .int .u8 0, .int .u8 0, .int .u8 0] : Array Value) = ints .u8 Z0) := ⟨by rw [hZ0]; exact z64_eq2⟩
  have A0 : Blk (((w.alloc (.cells (ints .u8 key) 22)).alloc (.cells (ints .u8 nonce) 36)).alloc (.cells #[.int .u8 0, .int .u8 0, .int .u8 0, .int .u8 0, .int .u8 0, .int .u8 0, .int .u8 0, .int .u8 0, .int .u8 0, .int .u8 0, .int .u8 0, .int .u8 0, .int .u8 0, .int .u8 0, .int .u8 0, .int .u8 0, .int .u8 0, .int .u8 0, .int .u8 0, .int .u8 0, .int .u8 0, .int .u8 0, .int .u8 0, .int .u8 0, .int .u8 0, .int .u8 0, .int .u8 0, .int .u8 0, .int .u8 0, .int .u8 0, .int .u8 0, .int .u8 0, .int .u8 0, .int .u8 0, .int .u8 0, .int .u8 0, .int .u8 0, .int .u8 0, .int .u8 0, .int .u8 0, .int .u8 0, .int .u8 0, .int .u8 0, .int .u8 0, .int .u8 0, .int .u8 0, .int .u8 0, .int .u8 0, .int .u8 0, .int .u8 0, .int .u8 0, .int .u8 0, .int .u8 0, .int .u8 0, .int .u8 0, .int .u8 0, .int .u8 0, .int .u8 0, .int .u8 0, .int .u8 0, .int .u8 0, .int .u8 0, .int .u8 0, .int .u8 0] 50)) w.heap.size 22 (ints .u8 key) := ((blk_new w _ _).alloc _).alloc _
  have A1 : Blk (((w.alloc (.cells (ints .u8 key) 22)).alloc (.cells (ints .u8 nonce) 36)).alloc (.cells #[.int .u8 0, .int .u8 0, .int .u8 0, .int .u8 0, .int .u8 0, .int .u8 0, .int .u8 0, .int .u8 0, .int .u8 0, .int .u8 0, .int .u8 0, .int .u8 0, .int .u8 0, .int .u8 0, .int .u8 0, .int .u8 0, .int .u8 0, .int .u8 0, .int .u8 0, .int .u8 0, .int .u8 0, .int .u8 0, .int .u8 0, .int .u8 0, .int .u8 0, .int .u8 0, .int .u8 0, .int .u8 0, .int .u8 0, .int .u8 0, .int .u8 0, .int .u8 0, .int .u8 0, .int .u8 0, .int .u8 0, .int .u8 0, .int .u8 0, .int .u8 0, .int .u8 0, .int .u8 0, .int .u8 0, .int .u8 0, .int .u8 0, .int .u8 0, .int .u8 0, .int .u8 0, .int .u8 0, .int .u8 0, .int .u8 0, .int .u8 0, .int .u8 0, .int .u8 0, .int .u8 0, .int .u8 0, .int .u8 0, .int .u8 0, .int .u8 0, .int .u8 0, .int .u8 0, .int .u8 0, .int .u8 0, .int .u8 0, .int .u8 0, .int .u8 0] 50)) (w.heap.size + 1) 36 (ints .u8 nonce) := (blk_top _ _ _ _ (by simp)).alloc _
  have A2 : Blk (((w.alloc (.cells (ints .u8 key) 22)).alloc (.cells (ints .u8 nonce) 36)).alloc (.cells #[.int .u8 0, .int .u8 0, .int .u8 0, .int .u8 0, .int .u8 0, .int .u8 0, .int .u8 0, .int .u8 0, .int .u8 0, .int .u8 0, .int .u8 0, .int .u8 0, .int .u8 0, .int .u8 0, .int .u8 0, .int .u8 0, .int .u8 0, .int .u8 0, .int .u8 0, .int .u8 0, .int .u8 0, .int .u8 0, .int .u8 0, .int .u8 0, .int .u8 0, .int .u8 0, .int .u8 0, .int .u8 0, .int .u8 0, .int .u8 0, .int .u8 0, .int .u8 0, .int .u8 0, .int .u8 0, .int .u8 0, .int .u8 0, .int .u8 0, .int .u8 0, .int .u8 0, .int .u8 0, .int .u8 0, .int .u8 0, .int .u8 0, .int .u8 0, .int .u8 0, .int .u8 0, .int .u8 0, .int .u8 0, .int .u8 0, .int .u8 0, .int .u8 0, .int .u8 0, .int .u8 0, .int .u8 0, .int .u8 0, .int .u8 0, .int .u8 0, .int .u8 0, .int .u8 0, .int .u8 0, .int .u8 0, .int .u8 0, .int .u8 0, .int .u8 0] 50)) (w.heap.size + 2) 50 (ints .u8 Z0) := by rw [← EI.out]; exact blk_top _ _ _ _ (by simp)
  have Q0 : Below w.heap.size w (((w.alloc (.cells (ints .u8 key) 22)).alloc (.cells (ints .u8 nonce) 36)).alloc (.cells #[.int .u8 0, .int .u8 0, .int .u8 0, .int .u8 0, .int .u8 0, .int .u8 0, .int .u8 0, .int .u8 0, .int .u8 0, .int .u8 0, .int .u8 0, .int .u8 0, .int .u8 0, .int .u8 0, .int .u8 0, .int .u8 0, .int .u8 0, .int .u8 0, .int .u8 0, .int .u8 0, .int .u8 0, .int .u8 0, .int .u8 0, .int .u8 0, .int .u8 0, .int .u8 0, .int .u8 0, .int .u8 0, .int .u8 0, .int .u8 0, .int .u8 0, .int .u8 0, .int .u8 0, .int .u8 0, .int .u8 0, .int .u8 0, .int .u8 0, .int .u8 0, .int .u8 0, .int .u8 0, .int .u8 0, .int .u8 0, .int .u8 0, .int .u8 0, .int .u8 0, .int .u8 0, .int .u8 0, .int .u8 0, .int .u8 0, .int .u8 0, .int .u8 0, .int .u8 0, .int .u8 0, .int .u8 0, .int .u8 0, .int .u8 0, .int .u8 0, .int .u8 0, .int .u8 0, .int .u8 0, .int .u8 0, .int .u8 0, .int .u8 0, .int .u8 0] 50)) := (((Below.refl _ _).alloc (Nat.le_refl _) _).alloc (by simp) _).alloc (by simp; omega) _
  clear hk hy hn hyn hS hM hP hL hZ0 EI
  go_enter Try.func22, Try.ntmps22
  go_wp2_with (first | ((with_reducible refine wv_row (d := 8) ?hd ?hw 22 (.tmp 3) ?ho (w.heap.size) ?hx (t' := 22) (ints .u8 key) _ _ Try.underlying22 ?hs ?hg ?_); (case hd => rfl); (case hw => kernel_rfl); (case ho => rfl); (case hx => kernel_rfl); (case hs => rw [ints_size, LK.out]; exact t32_info); (case hg => exact A0); simp only [Act.put, List.setIfInBounds_toArray, List.set_cons_succ, List.set_cons_zero]) | ((with_reducible refine wv_row (d := 9) ?hd ?hw 36 (.tmp 4) ?ho (w.heap.size + 1) ?hx (t' := 36) (ints .u8 nonce) _ _ Try.underlying36 ?hs ?hg ?_); (case hd => rfl); (case hw => kernel_rfl); (case ho => rfl); (case hx => kernel_rfl); (case hs => rw [ints_size, LN.out]; exact i12_info); (case hg => exact A1); simp only [Act.put, List.setIfInBounds_toArray, List.set_cons_succ, List.set_cons_zero]))
  refine (CL.out _).mono ?_
  rintro e w1 ⟨rfl, hb1⟩
  have B2 := A2.under hb1
  have Q1 := Q0.trans (hb1.mono Q0.size)
  have hl1 : w.heap.size + 2 < w1.heap.size := B2.lt
  clear A0 A1 A2 Q0 hb1 CL
  go_wp2_with (first | (refine wl_store rfl 59 (.tmp 7) (.tmp 11) rfl w1.heap.size (ints .u32 S) rfl rfl _ (blk_new w1 _ _) (by rw [ints_size, LS.out]; exact ws_inf2) (by rw [ints_size, LS.out]; rfl) (ints_one _ _) ?_))
  intro w3 A7 P3
  have C2' := P3.blk (B2.alloc _) (by omega)
  have Q3 := (Q1.alloc Q1.size _).trans (P3.below (by omega))
  generalize hg7 : w1.heap.size = g7 at *
  clear B2 Q1 P3
  have C1 : Kept (∀ w', Below w3.heap.size w3 w' → Calls Try.prog 32 [.agg (ints .u32 S)].toArray w' fun e w2 => e = .returned (.agg (ints .u32 M)) ∧ Below w'.heap.size w' w2) := ⟨fun w' hb => by rw [EM.out]; exact mixed_any S w' WS.out⟩
  have C2 : Kept (∀ w', Below w3.heap.size w3 w' → Calls Try.prog 31 [.agg (ints .u32 S), .agg (ints .u32 M)].toArray w' fun e w2 => e = .returned (.agg (ints .u32 P)) ∧ Below w'.heap.size w' w2) := ⟨fun w' hb => by rw [EP.out]; exact plus16 S M w' WS.out.len WM.out.len⟩
  have C3 : Kept (∀ w', Below w3.heap.size w3 w' → Calls Try.prog 33 [.agg (ints .u32 P)].toArray w' fun e w2 => e = .returned (.agg (ints .u8 L)) ∧ Below w'.heap.size w' w2) := ⟨fun w' hb => by rw [EL.out]; exact bytes16 P w' WP.out⟩
  go_wp2_with fail
  refine region_ownL w3 5 [(12, .agg (ints .u32 S)), (13, .agg (ints .u32 S)), (14, .agg (ints .u32 M)), (15, .agg (ints .u32 P)), (16, .agg (ints .u8 L))] [] [] [] rfl (by kernel_rfl) (by kernel_rfl) (by kernel_rfl) (by kernel_rfl) (by kernel_rfl) (by kernel_rfl) (by kernel_rfl) (by kernel_rfl) (by kernel_rfl) (by kernel_rfl) (by kernel_rfl) ?hst1 ?hst2 (Below.refl _ _) (fun hA => ⟨ow_row hA (wants_none rfl) 12 (.agg (ints .u32 S)) (by kernel_rfl) rfl rfl rfl rfl (by kernel_rfl) 59 (.tmp 7) rfl (g7) (by kernel_rfl) 59 (ints .u32 S) 16 38 Try.underlying59 ((by rw [ints_size, LS.out]; exact ws_inf2)) (fun w1 hb => A7.under hb) rfl, ow_row hA (wants_none rfl) 13 (.agg (ints .u32 S)) (by kernel_rfl) rfl rfl rfl rfl (by kernel_rfl) 59 (.tmp 7) rfl (g7) (by kernel_rfl) 59 (ints .u32 S) 16 38 Try.underlying59 ((by rw [ints_size, LS.out]; exact ws_inf2)) (fun w1 hb => A7.under hb) rfl, ow_calld hA (wants_none rfl) 14 (.agg (ints .u32 M)) (by kernel_rfl) rfl rfl rfl rfl (by kernel_rfl) 32 Try.f32 _ [.tmp 13] _ [.agg (ints .u32 S)] rfl (by kernel_rfl) Try.func32 (by kernel_rfl) rfl (C1.out), ow_calld hA (wants_none rfl) 15 (.agg (ints .u32 P)) (by kernel_rfl) rfl rfl rfl rfl (by kernel_rfl) 31 Try.f31 _ [.tmp 12, .tmp 14] _ [.agg (ints .u32 S), .agg (ints .u32 M)] rfl (by kernel_rfl) Try.func31 (by kernel_rfl) rfl (C2.out), ow_calld hA (wants_none rfl) 16 (.agg (ints .u8 L)) (by kernel_rfl) rfl rfl rfl rfl (by kernel_rfl) 33 Try.f33 _ [.tmp 15] _ [.agg (ints .u32 P)] rfl (by kernel_rfl) Try.func33 (by kernel_rfl) rfl (C3.out), trivial⟩) ?_
  case hst1 => intro q hq; cases hq
  case hst2 => intro q hq; cases hq
  intro fv w4 hf hD hb4
  simp only [putR, List.foldl_cons, List.foldl_nil, List.map_cons, List.map_nil, Act.put, List.setIfInBounds_toArray, List.set_cons_succ, List.set_cons_zero]
  have D2 := C2'.under hb4
  have Q4 := Q3.trans (hb4.mono Q3.size)
  clear hf hD C1 C2 C3 A7 C2' Q3 hb4
  refine wl_store rfl 50 (.tmp 6) (.tmp 16) rfl (w.heap.size + 2) (ints .u8 L) (by kernel_rfl) (by kernel_rfl) _ D2 (by rw [ints_size, LL.out]; exact i64_inf2) (by rw [ints_size, ints_size, LL.out, LZ.out]) (ints_one _ _) ?_
  intro w5 A5 P5
  go_wp2
  exact bodyPost_ret (v := .agg (ints .u8 L)) (results_cell_row Try.results22 _ _ _ 50 (ints .u8 L) (0, 0) _ rfl A5 Try.underlying50 rfl (by rw [ints_size, LL.out]; exact i64_inf2)) rfl ⟨rfl, Q4.trans (P5.below (by omega))⟩
end Go.Proofs.Ytpamcmhfimnfbaa.sh
/-
  Bytes turned by one block, by the program.
-/
namespace Go.Proofs.Ytpamcmhfimnfbaa.sh
open Go Go.RowKit
set_option linter.unusedVariables false
set_option linter.unusedSimpArgs false

def xorZ (b k : List Nat) : List Nat := List.zipWith (· ^^^ ·) b k
theorem xorZ_len (b k : List Nat) (h : b.length ≤ k.length) : (xorZ b k).length = b.length := by simp [xorZ]; omega
theorem xorZ_get (b k : List Nat) (i x y : Nat) (hx : b[i]? = some x) (hy : k[i]? = some y) : (xorZ b k)[i]? = some (x ^^^ y) := by simp [xorZ, List.getElem?_zipWith, hx, hy]
theorem splice_snoc (L X : List Nat) (o i z : Nat) (h : X[i]? = some z) (hL : o + X.length ≤ L.length) : (splice L o (X.take i)).set (o + i) z = splice L o (X.take (i + 1)) := by
  have hi : i < X.length := (List.getElem?_eq_some_iff.1 h).1
  have e0 : (L.take o).length = o := by rw [List.length_take]; omega
  have e1 : (X.take i).length = i := by rw [List.length_take]; omega
  have e2 : (X.take (i + 1)).length = i + 1 := by rw [List.length_take]; omega
  have ed : L.drop (o + i) = L[o + i]'(by omega) :: L.drop (o + i + 1) := List.drop_eq_getElem_cons (by omega)
  unfold splice
  rw [e1, e2, List.set_append_right _ _ (by omega), e0, show o + i - o = i by omega, List.set_append_right _ _ (by omega), e1, Nat.sub_self, ed, List.set_cons_zero, List.take_add_one, h, show o + (i + 1) = o + i + 1 by omega]
  simp
theorem grown_put {w w1 w2 : World} {g : Nat} (h : w.grownBy w1 (some g)) (p : Put w1 w2 g) : w.grownBy w2 (some g) :=
  ⟨p.grown.os.trans h.os, p.grown.tape.trans h.tape, p.grown.output.trans h.output, by rw [p.size]; exact h.size, fun k hk hne => (p.grown.block k (by have := h.size; omega) hne).trans (h.block k hk hne)⟩
set_option maxRecDepth 100000 in
set_option maxHeartbeats 1000000 in
theorem turn_any (g off m co : Nat) (t : TypeId) (L bs K : List Nat) (vb : Value) (w : World) (hb : BytesV vb w bs) (hne : blkOf vb ≠ some g) (hy : Bytes bs) (hm : bs.length = m) (hm0 : 0 < m) (hm64 : m ≤ 64) (hK : K.length = 64) (hyK : Bytes K) (hg : Blk w g t (ints .u8 L)) (hoff : off + m ≤ L.length) :
    Calls Try.prog 21 #[.slice (some ⟨g, off, none⟩) m co, vb, .agg (ints .u8 K)] w fun e w' => e = .returned (.tuple #[]) ∧ w.grownBy w' (some g) ∧ Blk w' g t (ints .u8 (splice L off (xorZ bs K))) := by
  have KY : Kept _ := ⟨hy⟩
  have KYK : Kept _ := ⟨hyK⟩
  have LK : Kept _ := ⟨hK⟩
  have LB : Kept _ := ⟨hm⟩
  have LO : Kept _ := ⟨hoff⟩
  obtain ⟨X, hX⟩ : ∃ X, X = xorZ bs K := ⟨_, rfl⟩
  have EX : Kept _ := ⟨hX⟩
  have LX : Kept (X.length = m) := ⟨by rw [hX, xorZ_len _ _ (by omega), hm]⟩
  rw [← hX]
  have hV0 := hb.under ((Below.refl w.heap.size w).alloc (Nat.le_refl _) (.cells (ints .u8 K) 50))
  obtain ⟨p, c, rfl, hlc, hcell⟩ := hb
  obtain ⟨A, rfl, hA, hcs⟩ := hcell (by intro e; rw [e] at hm; simp at hm; omega)
  clear hcs hA
  rw [hm] at hV0 hlc ⊢
  have hne' : Kept (A.block ≠ g) := ⟨fun e => hne (by rw [← e]; rw [hm]; rfl)⟩
  clear hne
  have V0 : Kept _ := ⟨hV0⟩
  have B0 : Blk (w.alloc (.cells (ints .u8 K) 50)) w.heap.size 50 (ints .u8 K) := blk_new _ _ _
  have A0 : Blk (w.alloc (.cells (ints .u8 K) 50)) g t (ints .u8 (splice L off (X.take 0))) := by
    rw [List.take_zero, splice_nil]
    exact hg.alloc _
  have G0 : w.grownBy (w.alloc (.cells (ints .u8 K) 50)) (some g) := grown_under ((Below.refl w.heap.size w).alloc (Nat.le_refl _) _)
  have gl : g < w.heap.size := hg.lt
  clear hX hy hyK hK hm hoff hV0 hg
  go_enter Try.func21, Try.ntmps21
  go_wp2_with fail
  generalize hW : w.alloc (.cells (ints .u8 K) 50) = wa at *
  clear hW
  go_loopg [10] m (fun k s10 wr => ∃ i : Nat, i + k = m ∧ s10 = .int .i64 (i : Int) ∧ w.grownBy wr (some g) ∧ Kept (BytesV (.slice (some A) m c) wr bs) ∧ Blk wr w.heap.size 50 (ints .u8 K) ∧ Blk wr g t (ints .u8 (splice L off (X.take i))))
  case atStart => exact ⟨0, by omega, rfl, G0, V0, B0, A0⟩
  case round =>
    clear A0 B0 V0 G0
    obtain ⟨i, hik, rfl, HG, VB, B0, A0⟩ := hrel
    by_cases hi : i < m
    case pos =>
      have hi' : (i : Int) < (m : Int) := by omega
      have hi64 : i < 64 := by omega
      obtain ⟨x, hx⟩ : ∃ x, bs[i]? = some x := ⟨_, List.getElem?_eq_getElem (by have := LB.out; omega)⟩
      obtain ⟨y, hy⟩ : ∃ y, K[i]? = some y := ⟨_, List.getElem?_eq_getElem (by have := LK.out; omega)⟩
      obtain ⟨z, hz⟩ : ∃ z, z = x ^^^ y := ⟨_, rfl⟩
      have hx8 : x < 256 := KY.out i x hx
      have hy8 : y < 256 := KYK.out i y hy
      have GZ : Kept (X[i]? = some z) := ⟨by rw [EX.out, hz]; exact xorZ_get _ _ _ _ _ hx hy⟩
      have GY : Kept ((ints .u8 K)[i]? = some (.int .u8 (y : Int))) := ⟨ints_get hy⟩
      have CX : Kept (wr.cell? (A.add i) = some (.int .u8 (x : Int))) := ⟨by
        obtain ⟨p', c', e1, _, e3⟩ := VB.out
        cases e1
        obtain ⟨A', e4, _, e5⟩ := e3 (by intro e; rw [e] at hx; cases hx)
        cases e4
        exact e5 i x hx⟩
      have Ez : Kept _ := ⟨hz⟩
      obtain ⟨Y, hY⟩ : ∃ Y, Y = splice L off (X.take i) := ⟨_, rfl⟩
      have ES : Kept (Y.set (off + i) z = splice L off (X.take (i + 1))) := ⟨by rw [hY]; exact splice_snoc L X off i z GZ.out (by rw [LX.out]; exact LO.out)⟩
      have LY : Kept (off + i < (ints .u8 Y).size) := ⟨by rw [ints_size, hY, splice_len (by rw [List.length_take, LX.out]; have := LO.out; omega)]; have := LO.out; omega⟩
      rw [← hY] at A0
      clear hz hx hy hY
      go_wp2_with (first | ((with_reducible refine wv_val (d := 13) ?hd ?hw (.pointer (some (A.add i))) ?hr ?_); (case hd => rfl); (case hw => kernel_rfl); (case hr => intro w; exact run_idxS rfl (by kernel_rfl) (by kernel_rfl) Try.underlying24 hi sz_u8 w); simp only [Act.put, List.setIfInBounds_toArray, List.set_cons_succ, List.set_cons_zero]) | ((with_reducible refine wv_elem (d := 14) ?hd ?hw 5 ag_u8 (.tmp 13) ?ho (A.add i) ?hx (.int .u8 (x : Int)) ?hc ?_); (case hd => rfl); (case hw => kernel_rfl); (case ho => rfl); (case hx => kernel_rfl); (case hc => exact CX.out); simp only [Act.put, List.setIfInBounds_toArray, List.set_cons_succ, List.set_cons_zero]) | ((with_reducible refine wv_val (d := 19) ?hd ?hw (.pointer (some ⟨w.heap.size, i, none⟩)) ?hr ?_); (case hd => rfl); (case hw => kernel_rfl); (case hr => intro w; exact run_idx rfl (by kernel_rfl) (by kernel_rfl) Try.underlying50 hi64 sz_u8 w); simp only [Act.put, List.setIfInBounds_toArray, List.set_cons_succ, List.set_cons_zero]) | (refine wl_elem rfl 5 ag_u8 (.tmp 19) rfl w.heap.size i rfl _ (.int .u8 (y : Int)) B0 GY.out ?_) | ((with_reducible refine wv_val (d := 21) ?hd ?hw (.int .u8 (z : Int)) ?hr ?_); (case hd => rfl); (case hw => kernel_rfl); (case hr => intro w; exact run_xorV rfl (by kernel_rfl) (by kernel_rfl) hx8 hy8 Ez.out w); simp only [Act.put, List.setIfInBounds_toArray, List.set_cons_succ, List.set_cons_zero]) | ((with_reducible refine wv_val (d := 22) ?hd ?hw (.pointer (some ⟨g, off + i, none⟩)) ?hr ?_); (case hd => rfl); (case hw => kernel_rfl); (case hr => intro w; rw [← addr_add]; exact run_idxS rfl (by kernel_rfl) (by kernel_rfl) Try.underlying24 hi sz_u8 w); simp only [Act.put, List.setIfInBounds_toArray, List.set_cons_succ, List.set_cons_zero]) | (refine wl_setElem rfl 5 sz_u8 (.tmp 22) (.tmp 21) rfl g (off + i) .u8 (z : Int) rfl rfl _ A0 LY.out ?_))
      intro w4 A4 P4
      rw [ints_set, ES.out] at A4
      have B4 := P4.blk B0 (by omega)
      have V4 : Kept (BytesV (.slice (some A) m c) w4 bs) := ⟨IntsV.keeps VB.out P4.grown (.inr (fun e => hne'.out (by cases e; rfl)))⟩
      have HG4 := grown_put HG P4
      clear A0 B0 HG VB P4 GZ GY CX ES LY Ez
      go_wp2_with fail
      go_roundg (gk - 1)
      case measure => omega
      case rel => exact ⟨i + 1, by omega, by simp, HG4, V4, B4, A4⟩
    case neg =>
      have hi' : ¬ (i : Int) < (m : Int) := by omega
      rw [List.take_of_length_le (by rw [LX.out]; omega)] at A0
      clear B0 VB
      go_wp2_with fail
      go_end0
      exact ⟨rfl, HG, A0⟩
end Go.Proofs.Ytpamcmhfimnfbaa.sh
/-
  Bytes turned by blocks, by the program.
-/
namespace Go.Proofs.Ytpamcmhfimnfbaa.sh
open Go Go.RowKit
set_option linter.unusedVariables false
set_option linter.unusedSimpArgs false

theorem run_c3264 {o : Oper} {a : Act} {x : Operand} {z : Nat} (ho : o.op = .convert 38 23 x) (hx : a.eval x = .int .u32 (z : Int)) (hz : z < 4294967296) (w : World) : (execOp a.eval o).run Try.prog w = .ok (.value (.int .u64 (z : Int))) w := by
  unfold execOp
  simp only [ho, hx]
  simp [go_sem, IntKind.wrap_u64]
  omega
theorem run_c364 {o : Oper} {a : Act} {x : Operand} {z : Nat} (ho : o.op = .convert 3 23 x) (hx : a.eval x = .int .i64 (z : Int)) (hz : z < 4611686018427387904) (w : World) : (execOp a.eval o).run Try.prog w = .ok (.value (.int .u64 (z : Int))) w := by
  unfold execOp
  simp only [ho, hx]
  simp [go_sem, IntKind.wrap_u64]
  omega
theorem run_add64 {o : Oper} {a : Act} {x y : Operand} {m n z : Nat} (ho : o.op = .binOp .add 23 x y 23) (hx : a.eval x = .int .u64 (m : Int)) (hy : a.eval y = .int .u64 (n : Int)) (hz : z = m + n) (h62 : z < 4611686018427387904) (w : World) : (execOp a.eval o).run Try.prog w = .ok (.value (.int .u64 (z : Int))) w := by
  unfold execOp
  simp only [ho, hx, hy]
  simp [go_sem, IntKind.wrap_u64]
  omega
theorem run_gtr64c {o : Oper} {a : Act} {x : Operand} {m : Nat} {b : Bool} (ho : o.op = .binOp .gtr 23 x (.const (.int .u64 4294967296)) 23) (hx : a.eval x = .int .u64 (m : Int)) (hb : b = decide (4294967296 < m)) (w : World) : (execOp a.eval o).run Try.prog w = .ok (.value (.bool b)) w := by
  have e3 : a.eval (.const (.int .u64 4294967296)) = .int .u64 4294967296 := rfl
  unfold execOp
  simp only [ho, hx, e3]
  simp [go_sem, hb]
  omega
theorem run_gtrI {o : Oper} {a : Act} {x : Operand} {m : Nat} {b : Bool} (c : Nat) (ho : o.op = .binOp .gtr 3 x (.const (.int .i64 (c : Int))) 3) (hx : a.eval x = .int .i64 (m : Int)) (hb : b = decide (c < m)) (w : World) : (execOp a.eval o).run Try.prog w = .ok (.value (.bool b)) w := by
  have e3 : a.eval (.const (.int .i64 (c : Int))) = .int .i64 (c : Int) := rfl
  unfold execOp
  simp only [ho, hx, e3]
  simp [go_sem, hb]
theorem run_c332 {o : Oper} {a : Act} {x : Operand} {z : Nat} (ho : o.op = .convert 3 38 x) (hx : a.eval x = .int .i64 (z : Int)) (hz : z < 4294967296) (w : World) : (execOp a.eval o).run Try.prog w = .ok (.value (.int .u32 (z : Int))) w := by
  unfold execOp
  simp only [ho, hx]
  simp [go_sem, IntKind.wrap_u32']
  omega
theorem run_min2' {o : Oper} {a : Act} {x y : Operand} {m n z : Nat} {ts : Array TypeId} (ho : o.op = .call { callee := .builtin .min, args := #[x, y], argTypes := ts }) (hx : a.eval x = .int .i64 (m : Int)) (hy : a.eval y = .int .i64 (n : Int)) (hz : z = min m n) (w : World) : (execOp a.eval o).run Try.prog w = .ok (.value (.int .i64 (z : Int))) w := by exact run_min2 ho hx hy hz w
theorem run_addZ {o : Oper} {a : Act} {x : Operand} {i z : Nat} (c : Nat) (ho : o.op = .binOp .add 3 x (.const (.int .i64 (c : Int))) 3) (hx : a.eval x = .int .i64 (i : Int)) (hz : z = i + c) (hi : z < 4611686018427387904) (w : World) : (execOp a.eval o).run Try.prog w = .ok (.value (.int .i64 (z : Int))) w := by
  subst hz
  exact run_addI c ho hx hi w
theorem run_subZ {o : Oper} {a : Act} {x : Operand} {i z : Nat} (c : Nat) (ho : o.op = .binOp .sub 3 x (.const (.int .i64 (c : Int))) 3) (hx : a.eval x = .int .i64 (i : Int)) (hz : i = z + c) (hi : i < 4611686018427387904) (w : World) : (execOp a.eval o).run Try.prog w = .ok (.value (.int .i64 (z : Int))) w := by
  have h := run_subI c ho hx (by omega) hi w
  rw [show i - c = z by omega] at h
  exact h
set_option maxHeartbeats 400000 in
theorem blocks_any (n B : Nat) (w : World) (hn : n < 1000000000000) (hB : B = (n + 63) / 64) :
    Calls Try.prog 20 #[.int .i64 (n : Int)] w fun e w' => e = .returned (.int .i64 (B : Int)) ∧ w' = w := by
  obtain ⟨n4, h4⟩ : ∃ m, m = n + 64 := ⟨_, rfl⟩
  obtain ⟨n3, h3⟩ : ∃ m, m = n + 63 := ⟨_, rfl⟩
  have E4 : Kept _ := ⟨h4⟩
  have E3 : Kept (n4 = n3 + 1) := ⟨by omega⟩
  have EB : Kept (B = n3 / 64) := ⟨by rw [hB, h3]⟩
  have L4 : n4 < 4611686018427387904 := by omega
  have L3 : n3 < 4611686018427387904 := by omega
  clear hB h3 h4
  go_enter Try.func20, Try.ntmps20
  go_wp2_with (first | ((with_reducible refine wv_val (d := 4) ?hd ?hw (.int .i64 (n4 : Int)) ?hr ?_); (case hd => rfl); (case hw => kernel_rfl); (case hr => intro w; exact run_addZ 64 rfl (by kernel_rfl) E4.out L4 w); simp only [Act.put, List.setIfInBounds_toArray, List.set_cons_succ, List.set_cons_zero]) | ((with_reducible refine wv_val (d := 5) ?hd ?hw (.int .i64 (n3 : Int)) ?hr ?_); (case hd => rfl); (case hw => kernel_rfl); (case hr => intro w; exact run_subZ 1 rfl (by kernel_rfl) E3.out L4 w); simp only [Act.put, List.setIfInBounds_toArray, List.set_cons_succ, List.set_cons_zero]) | ((with_reducible refine wv_val (d := 6) ?hd ?hw (.int .i64 (B : Int)) ?hr ?_); (case hd => rfl); (case hw => kernel_rfl); (case hr => intro w; exact run_quo64 rfl (by kernel_rfl) EB.out L3 w); simp only [Act.put, List.setIfInBounds_toArray, List.set_cons_succ, List.set_cons_zero]))
  go_ret
  exact ⟨rfl, rfl⟩
theorem W2_below (w : World) (k n : Array Value) : Below w.heap.size w ((w.alloc (.cells k 22)).alloc (.cells n 36)) := ((Below.refl _ _).alloc (Nat.le_refl _) _).alloc (by simp) _

set_option maxRecDepth 100000 in
set_option maxHeartbeats 1000000 in
theorem Xor_big (key nonce b : List Nat) (count : Nat) (vb : Value) (w : World) (hvb : BytesV vb w b) (h : 65536 < b.length) :
    Calls Try.prog 13 #[.agg (ints .u8 key), .agg (ints .u8 nonce), .int .u32 (count : Int), vb] w fun e w' => e = .returned (.tuple #[.slice none 0 0, .int .i64 3]) ∧ Below w.heap.size w w' := by
  obtain ⟨p, c, rfl, _, _⟩ := hvb
  obtain ⟨n, hn⟩ : ∃ n, n = b.length := ⟨_, rfl⟩
  rw [← hn] at h ⊢
  have Q0 := W2_below w (ints .u8 key) (ints .u8 nonce)
  have h' : (65536 : Int) < (n : Int) := by omega
  clear hn
  go_enter Try.func13, Try.ntmps13
  go_wp2_with fail
  go_ret2
  exact ⟨rfl, Q0⟩
set_option maxRecDepth 100000 in
set_option maxHeartbeats 1000000 in
theorem Xor_end (key nonce b : List Nat) (count : Nat) (vb : Value) (w : World) (hvb : BytesV vb w b) (hc : count < 4294967296) (h : b.length ≤ 65536) (he : 4294967296 < count + (b.length + 63) / 64) :
    Calls Try.prog 13 #[.agg (ints .u8 key), .agg (ints .u8 nonce), .int .u32 (count : Int), vb] w fun e w' => e = .returned (.tuple #[.slice none 0 0, .int .i64 12]) ∧ Below w.heap.size w w' := by
  obtain ⟨p, c, rfl, _, _⟩ := hvb
  obtain ⟨n, hn⟩ : ∃ n, n = b.length := ⟨_, rfl⟩
  rw [← hn] at h he ⊢
  obtain ⟨B, hB⟩ : ∃ B, B = (n + 63) / 64 := ⟨_, rfl⟩
  obtain ⟨S, hS⟩ : ∃ S, S = count + B := ⟨_, rfl⟩
  have hBB : Kept (true = decide (4294967296 < S)) := ⟨(decide_eq_true (by omega)).symm⟩
  have HS : Kept _ := ⟨hS⟩
  have HB : Kept _ := ⟨hB⟩
  have hB62 : B < 4611686018427387904 := by omega
  have hS62 : S < 4611686018427387904 := by omega
  have Q0 := W2_below w (ints .u8 key) (ints .u8 nonce)
  have h' : ¬ (65536 : Int) < (n : Int) := by omega
  clear hn hB hS he
  go_enter Try.func13, Try.ntmps13
  go_wp2_with fail
  refine (blocks_any n B _ (by omega) HB.out).mono ?_
  rintro e w' ⟨rfl, hw'⟩
  obtain rfl := hw'.symm
  go_wp2_with (first | ((with_reducible refine wv_val (d := 24) ?hd ?hw (.bool true) ?hr ?_); (case hd => rfl); (case hw => kernel_rfl); (case hr => intro w; exact run_gtr64c rfl (by kernel_rfl) hBB.out w); simp only [Act.put, List.setIfInBounds_toArray, List.set_cons_succ, List.set_cons_zero]) | ((with_reducible refine wv_val (d := 18) ?hd ?hw (.int .u64 (count : Int)) ?hr ?_); (case hd => rfl); (case hw => kernel_rfl); (case hr => intro w; exact run_c3264 rfl (by kernel_rfl) hc w); simp only [Act.put, List.setIfInBounds_toArray, List.set_cons_succ, List.set_cons_zero]) | ((with_reducible refine wv_val (d := 22) ?hd ?hw (.int .u64 (B : Int)) ?hr ?_); (case hd => rfl); (case hw => kernel_rfl); (case hr => intro w; exact run_c364 rfl (by kernel_rfl) hB62 w); simp only [Act.put, List.setIfInBounds_toArray, List.set_cons_succ, List.set_cons_zero]) | ((with_reducible refine wv_val (d := 23) ?hd ?hw (.int .u64 (S : Int)) ?hr ?_); (case hd => rfl); (case hw => kernel_rfl); (case hr => intro w; exact run_add64 rfl (by kernel_rfl) (by kernel_rfl) HS.out hS62 w); simp only [Act.put, List.setIfInBounds_toArray, List.set_cons_succ, List.set_cons_zero]))
  go_ret2
  exact ⟨rfl, Q0⟩
end Go.Proofs.Ytpamcmhfimnfbaa.sh
/-
  Bytes turned by blocks, by the program: where nothing is refused.
-/
namespace Go.Proofs.Ytpamcmhfimnfbaa.sh
open Go Go.RowKit
set_option linter.unusedVariables false
set_option linter.unusedSimpArgs false

theorem mix_piece (L Z : List Nat) (f m : Nat) (hl : L.length = Z.length) (hm : f + m ≤ L.length) : splice (mix L Z f) f ((L.drop f).take m) = mix L Z (f + m) := by
  have e0 : (L.take f).length = f := by rw [List.length_take]; omega
  have e1 : ((L.drop f).take m).length = m := by rw [List.length_take, List.length_drop]; omega
  have e2 : (L.take f ++ Z.drop f).drop (f + m) = Z.drop (f + m) := by
    rw [List.drop_append, List.drop_of_length_le (by rw [e0]; omega), List.nil_append, e0, List.drop_drop]
    congr 1
    omega
  have e3 : L.take (f + m) = L.take f ++ (L.drop f).take m := List.take_add
  unfold splice mix
  rw [e1, List.take_left' e0, e2, e3, List.append_assoc]
theorem enc_piece (key nonce b : List Nat) (count i m : Nat) (hm : m ≤ 64) (hl : 64 * i + m ≤ b.length) : xorZ ((b.drop (64 * i)).take m) (blockL key nonce (count + i)) = ((encL key nonce count b).drop (64 * i)).take m := by
  apply List.ext_getElem?
  intro j
  by_cases hj : j < m
  · have eb : ((b.drop (64 * i)).take m)[j]? = some (b[64 * i + j]'(by omega)) := by rw [List.getElem?_take_of_lt hj, List.getElem?_drop]; exact List.getElem?_eq_getElem _
    have eb2 : b[64 * i + j]? = some (b[64 * i + j]'(by omega)) := List.getElem?_eq_getElem _
    have ek : (blockL key nonce (count + i))[j]? = some ((blockL key nonce (count + i)).getD j 0) := by rw [List.getD_eq_getElem?_getD, List.getElem?_eq_getElem (by rw [blockL_len]; omega)]; rfl
    rw [xorZ_get _ _ _ _ _ eb ek, List.getElem?_take_of_lt hj, List.getElem?_drop, encL_get _ _ _ _ _ _ eb2]
    unfold padB
    rw [show (64 * i + j) % 64 = j by omega, show (64 * i + j) / 64 = i by omega]
  · rw [List.getElem?_eq_none, List.getElem?_eq_none]
    · rw [List.length_take]; omega
    · rw [xorZ_len _ _ (by rw [blockL_len, List.length_take]; omega), List.length_take]; omega
section
variable {o : Oper} {a : Act} {x y z : Operand}
theorem cut_in {p pf : Option Addr} {l c k m mm cc : Nat} {t e : TypeId} (ho : o.op = .slice t x (some y) (some z) none) (hx : a.eval x = .slice p l c) (hy : a.eval y = .int .i64 (k : Int)) (hz : a.eval z = .int .i64 (m : Int)) (ht : Try.prog.underlying t = some (.slice e)) (sz : ∀ w, (sizeOf e).run Try.prog w = .ok 1 w) (hk : k ≤ m) (hm : m ≤ c) (hpf : pf = if c = k then p else p.map (·.add k)) (hmm : mm = m - k) (hcc : cc = c - k) (w : World) :
    (execOp a.eval o).run Try.prog w = .ok (.value (.slice pf mm cc)) w := by
  rw [hpf, hmm, hcc]
  exact cuts_run ho hx hy hz ht sz hk hm w
theorem cut_own {g l c k m mm cc : Nat} {t e : TypeId} (ho : o.op = .slice t x (some y) (some z) none) (hx : a.eval x = .slice (some ⟨g, 0, none⟩) l c) (hy : a.eval y = .int .i64 (k : Int)) (hz : a.eval z = .int .i64 (m : Int)) (ht : Try.prog.underlying t = some (.slice e)) (sz : ∀ w, (sizeOf e).run Try.prog w = .ok 1 w) (hk : k ≤ m) (hm : m ≤ c) (hkc : k < c) (hmm : mm = m - k) (hcc : cc = c - k) (w : World) :
    (execOp a.eval o).run Try.prog w = .ok (.value (.slice (some ⟨g, k, none⟩) mm cc)) w :=
  cut_in ho hx hy hz ht sz hk hm (by rw [if_neg (by omega), Option.map_some, addr_add, Nat.zero_add]) hmm hcc w
end
theorem blk_row {w : World} {base g n : Nat} {e : TypeId} {k : IntKind} {l : List Nat} (h : Blk w g e (ints k l)) (hn : l.length = n) (hb : base ≤ g) (hm : n ≤ maxLen) : Row base e k l (.slice (some ⟨g, 0, none⟩) n n) w := by
  subst hn
  unfold Row
  exact ⟨by simp [ints], .inr ⟨g, l.length, _, rfl, hb, h, Nat.le_refl _, hm, by rw [ints_size, Nat.mul_one], by rw [Nat.mul_one, List.take_of_length_le (by simp [ints])]⟩⟩

set_option maxRecDepth 100000 in
set_option maxHeartbeats 2000000 in
theorem Xor_ok (key nonce b : List Nat) (count : Nat) (vb : Value) (w : World) (hk : key.length = 32) (hy : Bytes key) (hnl : nonce.length = 12) (hyn : Bytes nonce) (hyb : Bytes b) (hvb : BytesV vb w b) (hc : count < 4294967296) (h : b.length ≤ 65536) (he : count + (b.length + 63) / 64 ≤ 4294967296) :
    Calls Try.prog 13 #[.agg (ints .u8 key), .agg (ints .u8 nonce), .int .u32 (count : Int), vb] w fun e w' => ∃ v, e = .returned (.tuple #[v, .int .i64 0]) ∧ Row w.heap.size 5 .u8 (encL key nonce count b) v w' ∧ Below w.heap.size w w' := by
  have KV : Kept _ := ⟨hvb⟩
  have hvb2 := hvb
  obtain ⟨p, c, rfl, hlc, hp⟩ := hvb
  obtain ⟨n, hn⟩ : ∃ n, n = b.length := ⟨_, rfl⟩
  rw [← hn] at h he hlc KV ⊢
  have EN : Kept _ := ⟨hn⟩
  obtain ⟨B, hB⟩ : ∃ B, B = (n + 63) / 64 := ⟨_, rfl⟩
  obtain ⟨S, hS⟩ : ∃ S, S = count + B := ⟨_, rfl⟩
  have hBB : Kept (false = decide (4294967296 < S)) := ⟨(decide_eq_false (by omega)).symm⟩
  have HS : Kept _ := ⟨hS⟩
  have HB : Kept _ := ⟨hB⟩
  have hB62 : B < 4611686018427387904 := by omega
  have hS62 : S < 4611686018427387904 := by omega
  have hcB : count + B ≤ 4294967296 := by omega
  have hBn : B ≤ n := by omega
  obtain ⟨L, hL⟩ : ∃ L, L = encL key nonce count b := ⟨_, rfl⟩
  rw [← hL]
  have EL : Kept _ := ⟨hL⟩
  have LL : Kept (L.length = n) := ⟨by rw [hL, encL_len, ← hn]⟩
  have CBk : Kept (∀ (ct : Nat) (w' : World), ct < 4294967296 → Calls Try.prog 22 #[.agg (ints .u8 key), .agg (ints .u8 nonce), .int .u32 (ct : Int)] w' fun e w2 => e = .returned (.agg (ints .u8 (blockL key nonce ct))) ∧ Below w'.heap.size w' w2) := ⟨fun ct w' h => Block_any key nonce ct w' hk hy hnl hyn h⟩
  have LK : Kept _ := ⟨hk⟩
  have LN : Kept _ := ⟨hnl⟩
  have KYB : Kept _ := ⟨hyb⟩
  have hpb : Kept (∀ A, p = some A → b ≠ [] → A.block < w.heap.size) := ⟨fun A hA hb => by obtain ⟨A', e1, e2, _⟩ := hp hb; rw [hA] at e1; cases e1; exact e2⟩
  obtain ⟨Z, hZ⟩ : ∃ Z, Z = List.replicate n 0 := ⟨_, rfl⟩
  have LZ : Kept (Z.length = n) := ⟨by rw [hZ]; simp⟩
  have Q0 := W2_below w (ints .u8 key) (ints .u8 nonce)
  have A0 : Blk (((w.alloc (.cells (ints .u8 key) 22)).alloc (.cells (ints .u8 nonce) 36)).alloc (.cells (ints .u8 (List.replicate n 0)) 5)) w.heap.size 22 (ints .u8 key) := ((blk_new w _ _).alloc _).alloc _
  have A1 : Blk (((w.alloc (.cells (ints .u8 key) 22)).alloc (.cells (ints .u8 nonce) 36)).alloc (.cells (ints .u8 (List.replicate n 0)) 5)) (w.heap.size + 1) 36 (ints .u8 nonce) := (blk_top _ _ _ _ (by simp)).alloc _
  have A2 : Blk (((w.alloc (.cells (ints .u8 key) 22)).alloc (.cells (ints .u8 nonce) 36)).alloc (.cells (ints .u8 (List.replicate n 0)) 5)) (w.heap.size + 2) 5 (ints .u8 (mix L Z (min (64 * 0) n))) := by rw [Nat.mul_zero, Nat.zero_min, mix_zero, hZ]; exact blk_top _ _ _ _ (by simp)
  have Q1 : Below w.heap.size w (((w.alloc (.cells (ints .u8 key) 22)).alloc (.cells (ints .u8 nonce) 36)).alloc (.cells (ints .u8 (List.replicate n 0)) 5)) := Q0.alloc (by simp; omega) _
  have h' : ¬ (65536 : Int) < (n : Int) := by omega
  clear hn hB hS he hL hk hy hnl hyn hyb hZ hp Q0 hvb2
  go_enter Try.func13, Try.ntmps13
  go_wp2_with fail
  refine (blocks_any n B _ (by omega) HB.out).mono ?_
  rintro e w' ⟨rfl, hw'⟩
  obtain rfl := hw'.symm
  clear hw'
  go_wp2_with (first | ((with_reducible refine wv_val (d := 24) ?hd ?hw (.bool false) ?hr ?_); (case hd => rfl); (case hw => kernel_rfl); (case hr => intro w; exact run_gtr64c rfl (by kernel_rfl) hBB.out w); simp only [Act.put, List.setIfInBounds_toArray, List.set_cons_succ, List.set_cons_zero]) | ((with_reducible refine wv_val (d := 18) ?hd ?hw (.int .u64 (count : Int)) ?hr ?_); (case hd => rfl); (case hw => kernel_rfl); (case hr => intro w; exact run_c3264 rfl (by kernel_rfl) hc w); simp only [Act.put, List.setIfInBounds_toArray, List.set_cons_succ, List.set_cons_zero]) | ((with_reducible refine wv_val (d := 22) ?hd ?hw (.int .u64 (B : Int)) ?hr ?_); (case hd => rfl); (case hw => kernel_rfl); (case hr => intro w; exact run_c364 rfl (by kernel_rfl) hB62 w); simp only [Act.put, List.setIfInBounds_toArray, List.set_cons_succ, List.set_cons_zero]) | ((with_reducible refine wv_val (d := 23) ?hd ?hw (.int .u64 (S : Int)) ?hr ?_); (case hd => rfl); (case hw => kernel_rfl); (case hr => intro w; exact run_add64 rfl (by kernel_rfl) (by kernel_rfl) HS.out hS62 w); simp only [Act.put, List.setIfInBounds_toArray, List.set_cons_succ, List.set_cons_zero]) | (refine wl_make rfl (.tmp 26) rfl .i64 n rfl (by omega) ?_))
  generalize hW : ((w.alloc (.cells (ints .u8 key) 22)).alloc (.cells (ints .u8 nonce) 36)).alloc (.cells (ints .u8 (List.replicate n 0)) 5) = wa at *
  clear hW
  refine (blocks_any n B wa (by omega) HB.out).mono ?_
  rintro e w' ⟨rfl, hw'⟩
  obtain rfl := hw'.symm
  clear hw'
  go_wp2_with fail
  go_loopg [31] B (fun k s31 wr => ∃ i : Nat, i + k = B ∧ s31 = .int .i64 (i : Int) ∧ Below w.heap.size w wr ∧ Blk wr w.heap.size 22 (ints .u8 key) ∧ Blk wr (w.heap.size + 1) 36 (ints .u8 nonce) ∧ Blk wr (w.heap.size + 2) 5 (ints .u8 (mix L Z (min (64 * i) n))))
  case atStart => exact ⟨0, by omega, rfl, Q1, A0, A1, A2⟩
  case round =>
    clear A0 A1 A2 Q1
    obtain ⟨i, hik, rfl, HW, A0, A1, A2⟩ := hrel
    by_cases hi : i < B
    case pos =>
      have hi' : (i : Int) < (B : Int) := by omega
      obtain ⟨f, hf⟩ : ∃ f, f = i * 64 := ⟨_, rfl⟩
      obtain ⟨f4, hf4⟩ : ∃ f4, f4 = f + 64 := ⟨_, rfl⟩
      obtain ⟨tt, ht⟩ : ∃ t, t = min f4 n := ⟨_, rfl⟩
      obtain ⟨m, hm⟩ : ∃ m, m = tt - f := ⟨_, rfl⟩
      obtain ⟨co, hco⟩ : ∃ m, m = n - f := ⟨_, rfl⟩
      obtain ⟨cf, hcf⟩ : ∃ m, m = c - f := ⟨_, rfl⟩
      obtain ⟨pf, hpf⟩ : ∃ q, q = if c = f then p else p.map (·.add f) := ⟨_, rfl⟩
      obtain ⟨ci, hci⟩ : ∃ q, q = (count + i) % 4294967296 := ⟨_, rfl⟩
      obtain ⟨KB, hKB⟩ : ∃ q, q = blockL key nonce ci := ⟨_, rfl⟩
      have hfn : f < n := by have := HB.out; omega
      have hft : f ≤ tt := by omega
      have htn : tt ≤ n := by omega
      have htc : tt ≤ c := by omega
      have hi32 : i < 4294967296 := by omega
      have hci2 : ci = count + i := by rw [hci]; exact Nat.mod_eq_of_lt (by omega)
      have hci4 : ci < 4294967296 := by omega
      have CB : Kept (∀ w', Below wr.heap.size wr w' → Calls Try.prog 22 [.agg (ints .u8 key), .agg (ints .u8 nonce), .int .u32 (ci : Int)].toArray w' fun e w2 => e = .returned (.agg (ints .u8 KB)) ∧ Below w'.heap.size w' w2) := ⟨fun w' _ => by rw [hKB]; exact CBk.out ci w' hci4⟩
      have m0 : 0 < m := by omega
      have m64 : m ≤ 64 := by omega
      have hfm : f + m = tt := by omega
      have hmin : min (64 * i) n = f := by omega
      have hmin2 : min (64 * (i + 1)) n = tt := by omega
      rw [hmin] at A2
      have VP : Kept (BytesV (.slice pf m cf) w ((b.drop f).take m)) := ⟨by
        rw [hpf, hcf]
        exact KV.out.piece (by have := EN.out; omega)⟩
      have HBF : Kept (blkOf (.slice pf m cf) ≠ some (w.heap.size + 2)) := ⟨fun e => by
        rw [hpf] at e
        obtain ⟨A, hA⟩ : ∃ A, p = some A := by
          cases hp : p with
          | none => rw [hp] at e; split at e <;> cases e
          | some A => exact ⟨A, rfl⟩
        have hlt := hpb.out A hA (by intro e0; have := EN.out; rw [e0] at this; simp at this; omega)
        rw [hA] at e
        have hbl : (A.add f).block = A.block := by simp [Addr.add]; try (split <;> rfl)
        split at e
        · have : A.block = w.heap.size + 2 := by simpa [blkOf] using e
          omega
        · have : (A.add f).block = w.heap.size + 2 := by simpa [blkOf] using e
          omega⟩
      have EX : Kept (splice (mix L Z f) f (xorZ ((b.drop f).take m) KB) = mix L Z (min (64 * (i + 1)) n)) := ⟨by
        have e64 : f = 64 * i := by omega
        rw [hmin2, hKB, hci2, e64, enc_piece key nonce b count i m m64 (by have := EN.out; omega), ← EL.out, ← e64, mix_piece L Z f m (by rw [LL.out, LZ.out]) (by rw [LL.out]; omega), hfm]⟩
      have LKB : Kept (KB.length = 64) := ⟨by rw [hKB]; exact blockL_len _ _ _⟩
      have YKB : Kept (Bytes KB) := ⟨by rw [hKB]; exact blockL_bytes _ _ _⟩
      have LPC : Kept (((b.drop f).take m).length = m) := ⟨by rw [List.length_take, List.length_drop, ← EN.out]; omega⟩
      have YPC : Kept (Bytes ((b.drop f).take m)) := ⟨(KYB.out.drop f).take m⟩
      have LM : Kept (f + m ≤ (mix L Z f).length) := ⟨by rw [mix_len _ _ _ (by rw [LL.out, LZ.out]), LZ.out]; omega⟩
      have Ef : Kept _ := ⟨hf⟩
      have Ef4 : Kept _ := ⟨hf4⟩
      have Et : Kept _ := ⟨ht⟩
      have Em : Kept _ := ⟨hm⟩
      have Eco : Kept _ := ⟨hco⟩
      have Ecf : Kept _ := ⟨hcf⟩
      have Epf : Kept _ := ⟨hpf⟩
      have Eci : Kept _ := ⟨hci⟩
      have f62 : f < 4611686018427387904 := by omega
      have f462 : f4 < 4611686018427387904 := by omega
      clear hf hf4 ht hm hco hcf hpf hci hKB hci2 hfm hmin hmin2
      go_wp2_with (first | ((with_reducible refine wv_val (d := 35) ?hd ?hw (.int .i64 (f : Int)) ?hr ?_); (case hd => rfl); (case hw => kernel_rfl); (case hr => intro w; exact run_mulK 64 rfl (by kernel_rfl) Ef.out f62 w); simp only [Act.put, List.setIfInBounds_toArray, List.set_cons_succ, List.set_cons_zero]) | ((with_reducible refine wv_val (d := 37) ?hd ?hw (.int .i64 (f4 : Int)) ?hr ?_); (case hd => rfl); (case hw => kernel_rfl); (case hr => intro w; exact run_addZ 64 rfl (by kernel_rfl) Ef4.out f462 w); simp only [Act.put, List.setIfInBounds_toArray, List.set_cons_succ, List.set_cons_zero]) | ((with_reducible refine wv_val (d := 40) ?hd ?hw (.int .i64 (tt : Int)) ?hr ?_); (case hd => rfl); (case hw => kernel_rfl); (case hr => intro w; exact run_min2 rfl (by kernel_rfl) (by kernel_rfl) Et.out w); simp only [Act.put, List.setIfInBounds_toArray, List.set_cons_succ, List.set_cons_zero]))
      refine region_ownL wr 15 [(41, .slice (some ⟨w.heap.size + 2, 0, none⟩) n n), (42, .int .i64 (f : Int)), (43, .int .i64 (tt : Int)), (44, .slice (some ⟨w.heap.size + 2, f, none⟩) m co), (45, .slice p n c), (46, .int .i64 (f : Int)), (47, .int .i64 (tt : Int)), (48, .slice pf m cf), (49, .agg (ints .u8 key)), (50, .agg (ints .u8 nonce)), (51, .int .u32 (count : Int)), (52, .int .i64 (i : Int)), (53, .int .u32 (i : Int)), (54, .int .u32 (ci : Int)), (55, .agg (ints .u8 KB))] [] [] [] rfl (by kernel_rfl) (by kernel_rfl) (by kernel_rfl) (by kernel_rfl) (by kernel_rfl) (by kernel_rfl) (by kernel_rfl) (by kernel_rfl) (by kernel_rfl) (by kernel_rfl) (by kernel_rfl) ?hst1 ?hst2 (Below.refl _ _) (fun hA => ⟨ow_val hA (wants_none rfl) 41 (.slice (some ⟨w.heap.size + 2, 0, none⟩) n n) (by kernel_rfl) rfl rfl rfl rfl (by kernel_rfl) (fun w => by kernel_rfl), ow_val hA (wants_none rfl) 42 (.int .i64 (f : Int)) (by kernel_rfl) rfl rfl rfl rfl (by kernel_rfl) (fun w => by kernel_rfl), ow_val hA (wants_none rfl) 43 (.int .i64 (tt : Int)) (by kernel_rfl) rfl rfl rfl rfl (by kernel_rfl) (fun w => by kernel_rfl), ow_val hA (wants_none rfl) 44 (.slice (some ⟨w.heap.size + 2, f, none⟩) m co) (by kernel_rfl) rfl rfl rfl rfl (by kernel_rfl) (fun w => cut_own (l := n) (c := n) (k := f) (m := tt) rfl (by kernel_rfl) (by kernel_rfl) (by kernel_rfl) Try.underlying24 sz_u8 hft htn hfn Em.out Eco.out w), ow_val hA (wants_none rfl) 45 (.slice p n c) (by kernel_rfl) rfl rfl rfl rfl (by kernel_rfl) (fun w => by kernel_rfl), ow_val hA (wants_none rfl) 46 (.int .i64 (f : Int)) (by kernel_rfl) rfl rfl rfl rfl (by kernel_rfl) (fun w => by kernel_rfl), ow_val hA (wants_none rfl) 47 (.int .i64 (tt : Int)) (by kernel_rfl) rfl rfl rfl rfl (by kernel_rfl) (fun w => by kernel_rfl), ow_val hA (wants_none rfl) 48 (.slice pf m cf) (by kernel_rfl) rfl rfl rfl rfl (by kernel_rfl) (fun w => cut_in (p := p) (l := n) (c := c) (k := f) (m := tt) rfl (by kernel_rfl) (by kernel_rfl) (by kernel_rfl) Try.underlying24 sz_u8 hft htc Epf.out Em.out Ecf.out w), ow_row hA (wants_none rfl) 49 (.agg (ints .u8 key)) (by kernel_rfl) rfl rfl rfl rfl (by kernel_rfl) 22 (.tmp 4) rfl (w.heap.size) (by kernel_rfl) 22 (ints .u8 key) 32 5 Try.underlying22 ((by rw [ints_size, LK.out]; exact t32_info)) (fun w1 hb => A0.under hb) rfl, ow_row hA (wants_none rfl) 50 (.agg (ints .u8 nonce)) (by kernel_rfl) rfl rfl rfl rfl (by kernel_rfl) 36 (.tmp 5) rfl (w.heap.size + 1) (by kernel_rfl) 36 (ints .u8 nonce) 12 5 Try.underlying36 ((by rw [ints_size, LN.out]; exact i12_info)) (fun w1 hb => A1.under hb) rfl, ow_val hA (wants_none rfl) 51 (.int .u32 (count : Int)) (by kernel_rfl) rfl rfl rfl rfl (by kernel_rfl) (fun w => by kernel_rfl), ow_val hA (wants_none rfl) 52 (.int .i64 (i : Int)) (by kernel_rfl) rfl rfl rfl rfl (by kernel_rfl) (fun w => by kernel_rfl), ow_val hA (wants_none rfl) 53 (.int .u32 (i : Int)) (by kernel_rfl) rfl rfl rfl rfl (by kernel_rfl) (fun w => run_c332 rfl (by kernel_rfl) hi32 w), ow_val hA (wants_none rfl) 54 (.int .u32 (ci : Int)) (by kernel_rfl) rfl rfl rfl rfl (by kernel_rfl) (fun w => run_add32 rfl (by kernel_rfl) (by kernel_rfl) Eci.out w), ow_calld hA (wants_none rfl) 55 (.agg (ints .u8 KB)) (by kernel_rfl) rfl rfl rfl rfl (by kernel_rfl) 22 Try.f22 _ [.tmp 49, .tmp 50, .tmp 54] _ [.agg (ints .u8 key), .agg (ints .u8 nonce), .int .u32 (ci : Int)] rfl (by kernel_rfl) Try.func22 (by kernel_rfl) rfl (CB.out), trivial⟩) ?_
      case hst1 => intro q hq; cases hq
      case hst2 => intro q hq; cases hq
      intro fv wt hf hD hwt
      simp only [putR, List.foldl_cons, List.foldl_nil, List.map_cons, List.map_nil, Act.put, List.setIfInBounds_toArray, List.set_cons_succ, List.set_cons_zero]
      clear hf hD CB
      have B0 := A0.under hwt
      have B1 := A1.under hwt
      have B2 := A2.under hwt
      have HW2 := HW.trans (hwt.mono HW.size)
      have VP2 : Kept _ := ⟨VP.out.under HW2⟩
      clear A0 A1 A2 HW hwt VP
      go_wp2_with fail
      refine (turn_any (w.heap.size + 2) f m co 5 (mix L Z f) _ KB _ wt VP2.out HBF.out YPC.out LPC.out m0 m64 LKB.out YKB.out B2 LM.out).mono ?_
      rintro e w5 ⟨rfl, hg5, C2⟩
      rw [EX.out] at C2
      have C0 : Blk w5 w.heap.size 22 (ints .u8 key) := (hg5.block _ B0.lt (fun e => by have := Option.some.inj e; omega)).trans B0
      have C1 : Blk w5 (w.heap.size + 1) 36 (ints .u8 nonce) := (hg5.block _ B1.lt (fun e => by have := Option.some.inj e; omega)).trans B1
      have HW5 := HW2.trans (grown_mono hg5 HW2.size (fun b hb => by cases hb; omega))
      clear B0 B1 B2 HW2 hg5 VP2 HBF EX LKB YKB LPC YPC LM Ef Ef4 Et Em Eco Ecf Epf Eci
      go_wp2_with fail
      go_roundg (gk - 1)
      case measure => omega
      case rel => exact ⟨i + 1, by omega, by simp, HW5, C0, C1, C2⟩
    case neg =>
      have hi' : ¬ (i : Int) < (B : Int) := by omega
      have hmin : min (64 * i) n = n := by have := HB.out; omega
      rw [hmin, show mix L Z n = L by rw [← LZ.out]; exact mix_all L Z (by rw [LL.out, LZ.out])] at A2
      have RR : Kept (Row w.heap.size 5 .u8 L (.slice (some ⟨w.heap.size + 2, 0, none⟩) n n) wr) := ⟨blk_row A2 LL.out (by omega) (by unfold maxLen; omega)⟩
      clear A0 A1 A2
      go_wp2_with fail
      go_ret2
      exact ⟨_, rfl, RR.out, HW⟩
end Go.Proofs.Ytpamcmhfimnfbaa.sh
/-
  The answers that the document fixes.
-/
namespace Go.Proofs.Ytpamcmhfimnfbaa.sh
open Go Go.RowKit
set_option linter.unusedVariables false
set_option linter.unusedSimpArgs false

def keyF : List Nat := List.range 32
def nonF : List Nat := [0, 0, 0, 9, 0, 0, 0, 74, 0, 0, 0, 0]
theorem keyF_len : keyF.length = 32 := rfl
theorem keyF_bytes : Bytes keyF := fun i x hx => by
  unfold keyF at hx
  have := List.mem_of_getElem? hx
  simp at this
  omega
theorem nonF_bytes : Bytes nonF := fun i x hx => by
  have h : ∀ y ∈ nonF, y < 256 := by decide
  exact h x (List.mem_of_getElem? hx)
theorem fixed_block : (blockL keyF nonF 1).take 4 = [16, 241, 231, 228] := by kernel_rfl
theorem fixed_enc : encL keyF nonF 1 [0, 0] = [16, 241] := by kernel_rfl
theorem nonF_val (w : World) : (Instr.build 36 #[(3, .int .u8 9), (7, .int .u8 74)]).run Try.prog w = .ok (.agg (ints .u8 nonF)) w := by kernel_rfl
theorem z32_eq : (#[.int .u8 0, .int .u8 0, .int .u8 0, .int .u8 0, .int .u8 0, .int .u8 0, .int .u8 0, .int .u8 0, .int .u8 0, .int .u8 0, .int .u8 0, .int .u8 0, .int .u8 0, .int .u8 0, .int .u8 0, .int .u8 0, .int .u8 0, .int .u8 0, .int .u8 0, .int .u8 0, .int .u8 0, .int .u8 0, .int .u8 0, .int .u8 0, .int .u8 0, .int .u8 0, .int .u8 0, .int .u8 0, .int .u8 0, .int .u8 0, .int .u8 0, .int .u8 0] : Array Value) = ints .u8 (List.replicate 32 0) := by kernel_rfl
theorem run_c38 {o : Oper} {a : Act} {x : Operand} {z : Nat} (ho : o.op = .convert 3 5 x) (hx : a.eval x = .int .i64 (z : Int)) (hz : z < 256) (w : World) : (execOp a.eval o).run Try.prog w = .ok (.value (.int .u8 (z : Int))) w := run_conv38 ho hx (by omega) w
theorem run_eqC {o : Oper} {a : Act} {x : Operand} {k : IntKind} {t u : TypeId} {z : Nat} (ho : o.op = .binOp .eql t x (.const (.int k (z : Int))) u) (hx : a.eval x = .int k (z : Int)) (ht : Try.prog.underlying t = some (.int k)) (w : World) : (execOp a.eval o).run Try.prog w = .ok (.value (.bool true)) w := by
  have e3 : a.eval (.const (.int k (z : Int))) = .int k (z : Int) := rfl
  unfold execOp
  simp only [ho, hx, e3]
  simp [go_sem]

end Go.Proofs.Ytpamcmhfimnfbaa.sh
/-
  An argument that is a key, a nonce and a count.
-/
namespace Go.Proofs.Ytpamcmhfimnfbaa.sh
open Go Go.ChangeShapes Go.WideShapes Go.ChangeAt Go.RowKit
set_option linter.unusedVariables false
set_option linter.unusedSimpArgs false

def placeA (k n : List Nat) (c : Nat) : Array Value := ints .u8 k ++ (ints .u8 n ++ #[.int .u32 (c : Int)])
theorem place_size (k n : List Nat) (c : Nat) (hk : k.length = 32) (hn : n.length = 12) : (placeA k n c).size = 45 := by simp [placeA, ints_size, hk, hn]
theorem place_key (k n : List Nat) (c : Nat) : ∀ (j : Nat) (v : Value), (ints .u8 k)[j]? = some v → (placeA k n c)[0 + j]? = some v := part_first _ _
theorem place_non (k n : List Nat) (c : Nat) (hk : k.length = 32) : ∀ (j : Nat) (v : Value), (ints .u8 n)[j]? = some v → (placeA k n c)[32 + j]? = some v := fun j v h => by
  have h2 := part_first (ints .u8 n) #[.int .u32 (c : Int)] j v h
  rw [Nat.zero_add] at h2
  exact part_second (ints .u8 k) _ 32 (by rw [ints_size, hk]) j v h2
theorem place_cnt (k n : List Nat) (c : Nat) (hk : k.length = 32) (hn : n.length = 12) : (placeA k n c)[44]? = some (.int .u32 (c : Int)) := by
  have h2 := part_second (ints .u8 n) #[.int .u32 (c : Int)] 12 (by rw [ints_size, hn]) 0 _ rfl
  exact part_second (ints .u8 k) _ 32 (by rw [ints_size, hk]) 12 _ h2
theorem arr_cells {H : Type} {enc : TypeId × Value → H} {W : World} {base : Nat} {sp : Nat → Bool} {held : Bool} {fuel : Nat} {cs : List Value} {x : DataW H × List MemPlace} {t e : TypeId} {n B : Nat} {kd : IntKind} (ht : Try.prog.underlying t = some (.array n e)) (he : Try.prog.underlying e = some (.int kd)) (ct : Try.prog.cellsOf t = n) (ce : Try.prog.cellsOf e = 1) (hB : ∀ k : Int, (Lit.int kd k).wf = true → 0 ≤ k ∧ k < B)
    (hf : DataW.trod enc Try.prog W base sp held fuel t cs = some x) : ∃ l : List Nat, cs = (ints kd l).toList ∧ l.length = n ∧ ∀ (i x : Nat), l[i]? = some x → x < B := by
  obtain ⟨xs, m, rfl, hx, hlen, hn, hel⟩ := DataW.trod_array ht hf
  rw [ct] at hlen
  have hb : ∀ i, ∃ k : Nat, i < n → cs[i]? = some (.int kd (k : Int)) ∧ k < B := by
    intro i
    by_cases hi : i < n
    · have h1 := hel i hi
      rw [ce, Nat.mul_one] at h1
      have hxi : xs[i]? = some (xs[i]'(by omega)) := List.getElem?_eq_getElem _
      rw [hxi] at h1
      obtain ⟨k, e1, e2, hwf⟩ := DataW.trod_int he h1
      have hi' : i < cs.length := by omega
      have e3 : (cs.drop i).take 1 = [cs[i]] := by
        rw [List.drop_eq_getElem_cons hi']
        rfl
      rw [e3] at e1
      obtain ⟨h2, h3⟩ := hB k hwf
      refine ⟨k.toNat, fun _ => ⟨?_, by omega⟩⟩
      rw [Int.toNat_of_nonneg h2, List.getElem?_eq_getElem hi']
      simpa using e1
    · exact ⟨0, fun h' => absurd h' hi⟩
  let b : Nat → Nat := fun i => Classical.choose (hb i)
  have b1 : ∀ i, i < n → cs[i]? = some (.int kd (b i : Int)) ∧ b i < B := fun i => Classical.choose_spec (hb i)
  refine ⟨(List.range n).map b, ?_, by simp, fun i x hx => ?_⟩
  · apply List.ext_getElem?
    intro j
    by_cases hj : j < n
    · rw [(b1 j hj).1]
      have h9 : (ints kd ((List.range n).map b))[j]? = some (.int kd (b j : Int)) := ints_get (by simp [hj])
      rw [← Array.getElem?_toList] at h9
      exact h9.symm
    · have h9 : (ints kd ((List.range n).map b)).toList.length = n := by simp [ints]
      rw [List.getElem?_eq_none (by omega), List.getElem?_eq_none (by omega)]
  · rw [List.getElem?_map] at hx
    obtain ⟨y, hy, rfl⟩ := Option.map_eq_some_iff.1 hx
    obtain ⟨h1, h2⟩ := List.getElem?_eq_some_iff.1 hy
    simp at h1 h2
    rw [← h2]
    exact (b1 _ h1).2
theorem c_12 : Try.prog.cellsOf 36 = 12 := by kernel_rfl
theorem c_u32 : Try.prog.cellsOf 38 = 1 := by kernel_rfl
section
variable {ops : Array Oper} {rest : List Oper} {o : Oper} {a : Act} {w : World} {Q : Exit → Act → World → Prop} {d : Nat}
/-- An array in the midst of a block is read. -/
theorem wv_partA (hd : o.dst = some d) (hw : Region.wanted o (yielded ops a.tmps) = true) (t : TypeId) (x : Operand) (ho : o.op = .load t x) (g off : Nat) (hx : a.eval x = .pointer (some ⟨g, off, none⟩)) {t' : TypeId} (cs es : Array Value) (len : Nat) (e : TypeId) (hu : Try.prog.underlying t = some (.array len e)) (hs : (Try.prog.info? t).map (·.size) = some es.size)
    (hg : Blk w g t' cs) (hp : ∀ j v, es[j]? = some v → cs[off + j]? = some v) (h : wpList Try.prog ops Q rest (a.put o.dst (.agg es)) w) : wpList Try.prog ops Q (o :: rest) a w :=
  BigFrame.wpList_want hw fun K hK => by
    unfold Oper.wp execOp
    simp only [ho, hx, Instr.loadAt, Instr.sureAddr, Sem.run_bind, Sem.run_pure, Result.andThen_ok, run_loadVar_at w g off t' t cs es (0, 0) _ hg hp hu rfl hs]
    exact hK _ _ h
end
section
variable {P : Program} {h : List Oper} {A0 A : Act} {W0 : World} {S : Nat → Option (Value → World → Prop)} {sp O : List Nat} {E : List (Nat × Nat)} {i : Nat} {o : Oper}
theorem ow_partA (hA : Full h A0 A S sp) (hw : Wants h A0 A S O E W0.heap.size i o) (d : Nat) (v : Value) (hdet : detE h sp E i o = true) (hsel : notSel o = true) (hd : o.dst = some d) (hds : sp.contains d = false) (hO : O.contains d = false) (hv : A.tmps[d]? = some v) (ty : TypeId) (x : Operand) (ho : o.op = .load ty x) (g off : Nat) (hx : A.eval x = .pointer (some ⟨g, off, none⟩)) (t : TypeId) (cs es : Array Value) (len : Nat) (e : TypeId) (hu : P.underlying ty = some (.array len e)) (hi : (P.info? ty).map (·.size) = some es.size)
    (hb : ∀ w, Below W0.heap.size W0 w → Blk w g t cs) (hp : ∀ j v, es[j]? = some v → cs[off + j]? = some v) (hvB : v = .agg es) : OwnOk P h A0 W0 (relR A S) O E i o :=
  ow_q hA hdet hsel hw d v hd hds hO hv fun w hw => by
    unfold Oper.quietAt execOp
    simp only [ho, hx, Instr.loadAt, Instr.sureAddr, Sem.run_bind, Sem.run_pure, Result.andThen_ok, run_loadVar_at w g off t ty cs es (0, 0) _ (hb w hw) hp hu rfl hi]
    exact ⟨rfl, hvB.symm⟩
end
end Go.Proofs.Ytpamcmhfimnfbaa.sh
/-
  Regions that draw their order, where no operation takes a block over: what a slot holds may be a pair whose slice is new.
-/
namespace Go.Proofs.Ytpamcmhfimnfbaa.sh
open Go Go.RowKit
set_option linter.unusedVariables false
set_option linter.unusedSimpArgs false

theorem grown_empty {w w' : World} {row : Option Nat} (h : w.grownBy w' row) (hr : ∀ b, row = some b → False) : Below w.heap.size w w' := ⟨h.os, h.tape, h.output, h.size, fun k hk => h.block k hk (fun e => hr k e.symm)⟩
/-- A region that draws its order: each of the first n operations makes a value of which R holds; owners' blocks are apart; the last operations wait for all of those. -/
theorem region_ownN {P : Program} {Q : Exit → Act → World → Prop} {id : Nat} {a : Act} {w : World} (W0 : World) (n : Nat) {l : List Oper} (R : Nat → Value → World → Prop) (O : List Nat) (E : List (Nat × Nat)) (ds : List Nat) (hm : P.follows .mixedOrders = true)
    (hE : edgesIn (l.take n) = true) (hG : guardsIn (l.take n) = true) (hA : dstsApart (l.take n) 0 = true) (hI : dstsIn (l.take n) a.tmps.size = true) (hT : tailUnder (l.take n) (l.drop n) = true)
    (hS : Region.seqB .any l.toArray (l.drop n).length (l.take n).length (Array.replicate (l.take n).length true ++ Array.replicate (l.drop n).length false) = true)
    (hEw : (E.all fun q => O.contains q.2 && match (l.take n)[q.1]? with | some o => waitsFor (l.take n) o q.2 | none => false) = true) (hEn : apartB (E.map (·.2)) = true)
    (hds : dstsOf (l.take n) = ds)
    (hst1 : ∀ d v w w', O.contains d = false → R d v w → Below W0.heap.size W0 w → Below W0.heap.size w w' → (E = [] → Below w.heap.size w w') → R d v w')
    (hst2 : ∀ d v w w' row, O.contains d = true → R d v w → w.grownBy w' row → (blkOf v = none ∨ blkOf v ≠ row) → (∀ b, blkOf v = some b → b < w.heap.size) → R d v w') (hw : Below W0.heap.size W0 w)
    (hok : OwnAll P (l.take n) a W0 R O E 0 (l.take n))
    (hfin : ∀ (f : Nat → Value) w', (∀ d ∈ ds, d ∉ E.map (·.2) → R d (f d) w' ∧ (O.contains d = true → ∀ b, blkOf (f d) = some b → W0.heap.size ≤ b ∧ b < w'.heap.size)) →
      (∀ d ∈ ds, ∀ d' ∈ ds, d ∉ E.map (·.2) → d' ∉ E.map (·.2) → O.contains d = true → O.contains d' = true → d ≠ d' → ∀ b, blkOf (f d) = some b → blkOf (f d') ≠ some b) → Below W0.heap.size W0 w' →
      wpList P l.toArray Q (l.drop n) (putR a (ds.map fun d => (d, f d))) w') : (Code.region id l.toArray true).wp P Q a w := by
  have e : l.take n ++ l.drop n = l := List.take_append_drop n l
  refine wp_region_any hm ?_
  generalize hh : l.take n = h at *
  have hEw' : ∀ q ∈ E, O.contains q.2 = true ∧ ∃ o, h[q.1]? = some o ∧ waitsFor h o q.2 = true := fun q hq => by
    have := List.all_eq_true.1 hEw q hq
    simp only [Bool.and_eq_true] at this
    refine ⟨this.1, ?_⟩
    cases ho : h[q.1]? with
    | none => simp [ho] at this
    | some o => exact ⟨o, rfl, by simpa [ho] using this.2⟩
  have main := wpAny_inv (P := P) (l := h) (Q := headPost P (h ++ l.drop n).toArray Q (l.drop n))
    (fun listed a' w' => Fr h a a' ∧ Below W0.heap.size W0 w' ∧ (∀ d, Liv h E listed d → ∃ v, a'.tmps[d]? = some v ∧ R d v w' ∧ (O.contains d = true → ∀ b, blkOf v = some b → W0.heap.size ≤ b ∧ b < w'.heap.size)) ∧
      ∀ d d', Liv h E listed d → Liv h E listed d' → O.contains d = true → O.contains d' = true → d ≠ d' → ∀ b, (a'.tmps[d]?).bind blkOf = some b → (a'.tmps[d']?).bind blkOf ≠ some b) hE
    (by
      intro listed a' w' i o hls hI' ho hun hall
      obtain ⟨hF, hB, hV, hD⟩ := hI'
      have hil : i < listed.size := by rw [hls]; exact (List.getElem?_eq_some_iff.1 ho).1
      have hun' : listed.getD i false = false := by simpa [hil] using hun
      obtain ⟨d, hd, hrun⟩ := by have := ownAll_get h 0 hok i o ho; rwa [Nat.zero_add] at this
      have hson : ∀ k, (listed.setIfInBounds i true).getD k false = if k = i then true else listed.getD k false := fun k => by
        by_cases hk : k = i
        · subst hk; simp [hil]
        · rw [if_neg hk, getD_set_ne false (Ne.symm hk)]
      have hlist : ∀ s, waitsFor h o s = true → ∃ (j : Nat) (o' : Oper), h[j]? = some o' ∧ listed.getD j false = true ∧ o'.dst = some s := fun s hs => by
        obtain ⟨x, hx, h1⟩ := Array.any_eq_true'.1 hs
        simp only [Bool.and_eq_true] at h1
        cases ho' : h[x.on]? with
        | none => simp [ho'] at h1
        | some o' => exact ⟨x.on, o', ho', hall x hx h1.1, by simpa [ho'] using h1.2⟩
      have hgot : GotE h E R O W0.heap.size i a' w' o := fun s hs hq => hV s ⟨hlist s hs, fun q hq' he => by
        have := List.all_eq_true.1 hq q hq'
        simp only [he, bne_self_eq_false, Bool.false_or, beq_iff_eq] at this
        rw [this]
        exact hun'⟩
      have hSe : ∀ s, (i, s) ∈ E → Liv h E listed s ∧ O.contains s = true := fun s hs => by
        obtain ⟨h1, o', h2, h3⟩ := hEw' _ hs
        rw [ho] at h2
        cases h2
        refine ⟨⟨hlist s h3, fun q hq he => ?_⟩, h1⟩
        have := apart_eq E hEn q hq (i, s) hs he
        rw [this]
        exact hun'
      obtain ⟨hwant, hwp⟩ := hrun a' w' hF hB hgot
      refine ⟨hwant, wp_false ?_ hwp⟩
      rintro a2 w2 ⟨v, row, rfl, hR, hg, hrow, hblk⟩
      have hdl : d < a'.tmps.size := by
        have := List.all_eq_true.1 hI o (List.mem_of_getElem? ho)
        rw [hd] at this
        rw [hF.size]
        simpa using this
      have hother : ∀ d', d' ≠ d → (a'.put (some d) v).tmps[d']? = a'.tmps[d']? := fun d' hne => by simp [Act.put, Array.getElem?_setIfInBounds_ne (Ne.symm hne)]
      have hself : (a'.put (some d) v).tmps[d]? = some v := by simp [Act.put, hdl]
      have hrange : ∀ s, (i, s) ∈ E → ∀ b, (a'.tmps[s]?).bind blkOf = some b → W0.heap.size ≤ b ∧ b < w'.heap.size := fun s hs b hb => by
        obtain ⟨h1, h2⟩ := hSe s hs
        obtain ⟨u, e1, _, e3⟩ := hV s h1
        rw [e1] at hb
        exact e3 h2 b hb
      have hBw : Below W0.heap.size w' w2 := grown_mono hg hB.size (fun b hb => by
        obtain ⟨s, hs, hb'⟩ := hrow b hb
        exact (hrange s hs b hb').1)
      have hold : ∀ d', Liv h E (listed.setIfInBounds i true) d' → d' ≠ d → Liv h E listed d' := fun d' hL hne => by
        obtain ⟨⟨j, o', h1, h2, h3⟩, h4⟩ := hL
        refine ⟨⟨j, o', h1, ?_, h3⟩, fun q hq he => ?_⟩
        · rw [hson j] at h2
          split at h2
          · next hji => subst hji; rw [ho] at h1; cases h1; rw [hd] at h3; exact absurd (Option.some.inj h3).symm hne
          · exact h2
        · have := h4 q hq he
          rw [hson q.1] at this
          split at this
          · cases this
          · exact this
      have hne_s : ∀ s d', (i, s) ∈ E → Liv h E (listed.setIfInBounds i true) d' → s ≠ d' := fun s d' hs hL he => by
        have := hL.2 (i, s) hs he
        rw [hson i, if_pos rfl] at this
        cases this
      refine ⟨⟨by rw [size_put]; exact hF.size, hF.defers, fun d' h' => ?_⟩, hB.trans hBw, fun d' hL => ?_, fun d1 d2 hL1 hL2 hO1 hO2 hne b hb1 hb2 => ?_⟩
      · rw [hother d' (fun e2 => h' i o ho (by rw [hd, e2]))]
        exact hF.out d' h'
      · by_cases hdd : d' = d
        · subst hdd
          refine ⟨v, hself, hR, fun hO b hb => ?_⟩
          rcases hblk hO b hb with ⟨h1, h2⟩ | ⟨s, hs, hb'⟩
          · exact ⟨Nat.le_trans hB.size h1, h2⟩
          · have := hrange s hs b hb'
            exact ⟨this.1, Nat.lt_of_lt_of_le this.2 hg.size⟩
        · have hL' := hold d' hL hdd
          obtain ⟨u, e1, e2, e3⟩ := hV d' hL'
          refine ⟨u, by rw [hother d' hdd]; exact e1, ?_, fun hO b hb => ⟨(e3 hO b hb).1, Nat.lt_of_lt_of_le (e3 hO b hb).2 hg.size⟩⟩
          cases hO : O.contains d' with
          | false => exact hst1 d' u w' w2 hO e2 hB hBw (fun hE0 => grown_empty hg (fun b hb => by obtain ⟨s, hs, _⟩ := hrow b hb; rw [hE0] at hs; cases hs))
          | true =>
            refine hst2 d' u w' w2 row hO e2 hg ?_ (fun b hb => (e3 hO b hb).2)
            cases hb : blkOf u with
            | none => exact .inl rfl
            | some b =>
              refine .inr fun hr => ?_
              obtain ⟨s, hs, hb'⟩ := hrow b hr.symm
              obtain ⟨h1, h2⟩ := hSe s hs
              exact hD s d' h1 hL' h2 hO (hne_s s d' hs hL) b hb' (by rw [e1]; exact hb)
      · by_cases h1 : d1 = d
        · subst h1
          have h2 : d2 ≠ d1 := Ne.symm hne
          have hL2' := hold d2 hL2 h2
          rw [hother d2 h2] at hb2
          rw [hself] at hb1
          rcases hblk hO1 b hb1 with ⟨h3, _⟩ | ⟨s, hs, hb'⟩
          · obtain ⟨u, e1, _, e3⟩ := hV d2 hL2'
            rw [e1] at hb2
            have := (e3 hO2 b hb2).2
            omega
          · obtain ⟨h4, h5⟩ := hSe s hs
            exact hD s d2 h4 hL2' h5 hO2 (hne_s s d2 hs hL2) b hb' hb2
        · have hL1' := hold d1 hL1 h1
          rw [hother d1 h1] at hb1
          by_cases h2 : d2 = d
          · subst h2
            rw [hself] at hb2
            rcases hblk hO2 b hb2 with ⟨h3, _⟩ | ⟨s, hs, hb'⟩
            · obtain ⟨u, e1, _, e3⟩ := hV d1 hL1'
              rw [e1] at hb1
              have := (e3 hO1 b hb1).2
              omega
            · obtain ⟨h4, h5⟩ := hSe s hs
              exact hD s d1 h4 hL1' h5 hO1 (hne_s s d1 hs hL1) b hb' hb1
          · rw [hother d2 h2] at hb2
            exact hD d1 d2 hL1' (hold d2 hL2 h2) hO1 hO2 hne b hb1 hb2)
    (by
      intro a' w' hI'
      obtain ⟨hF, hB, hV, hD⟩ := hI'
      have hliv : ∀ d ∈ ds, d ∉ E.map (·.2) → Liv h E (Array.replicate h.length true) d := fun d hd hn => by
        rw [← hds] at hd
        obtain ⟨o, ho, hd'⟩ := List.mem_filterMap.1 hd
        obtain ⟨i, hi, he⟩ := List.getElem_of_mem ho
        exact ⟨⟨i, o, by rw [List.getElem?_eq_getElem hi, he], by simp [hi], hd'⟩, fun q hq he => absurd (List.mem_map.2 ⟨q, hq, he⟩) hn⟩
      have hsome : ∀ d ∈ ds, ∃ v, a'.tmps[d]? = some v := fun d hd => by
        rw [← hds] at hd
        obtain ⟨o, ho, hd'⟩ := List.mem_filterMap.1 hd
        have := List.all_eq_true.1 hI o ho
        rw [hd'] at this
        exact ⟨_, Array.getElem?_eq_getElem (by rw [hF.size]; simpa using this)⟩
      have hfr := hfin (fun d => (a'.tmps[d]?).getD undef) w' (fun d hd hn => by obtain ⟨v, h1, h2⟩ := hV d (hliv d hd hn); simp only [h1, Option.getD_some]; exact h2)
        (fun d hd d' hd' hn hn' hO hO' hne b hb hb' => by
          obtain ⟨v, h1, _⟩ := hV d (hliv d hd hn)
          obtain ⟨v', h1', _⟩ := hV d' (hliv d' hd' hn')
          simp only [h1, h1', Option.getD_some] at hb hb'
          exact hD d d' (hliv d hd hn) (hliv d' hd' hn') hO hO' hne b (by rw [h1]; exact hb) (by rw [h1']; exact hb')) hB
      have ea : a' = putR a (ds.map fun d => (d, (a'.tmps[d]?).getD undef)) := by
        refine act_eq (Array.ext_getElem? fun d => ?_) (by rw [putR_defers]; exact hF.defers)
        by_cases hdl : d < a.tmps.size
        · rw [putR_get (fun d => (a'.tmps[d]?).getD undef) d ds a hdl]
          by_cases hd : d ∈ ds
          · rw [if_pos hd]
            obtain ⟨v, h1⟩ := hsome d hd
            simp [h1]
          · rw [if_neg hd]
            refine hF.out d fun i o ho hd' => hd ?_
            rw [← hds]
            exact List.mem_filterMap.2 ⟨o, List.mem_of_getElem? ho, hd'⟩
        · rw [Array.getElem?_eq_none (by rw [hF.size]; omega), Array.getElem?_eq_none (by rw [putR_size]; omega)]
      rw [← ea] at hfr
      show wpList P (h ++ l.drop n).toArray Q (l.drop n) a' w'
      rw [e]
      exact hfr)
    h.length (Array.replicate h.length false) a { w with drawn := w.drawn + 1 } (by simp) (by simp [open_])
    ⟨⟨rfl, rfl, fun _ _ => rfl⟩, hw.drew, fun d hL => by
      exfalso
      obtain ⟨⟨i, o, _, hon, _⟩, _⟩ := hL
      rw [Array.getD_eq_getD_getElem?, Array.getElem?_replicate] at hon
      split at hon <;> simp at hon, fun d d' hL => by
      exfalso
      obtain ⟨⟨i, o, _, hon, _⟩, _⟩ := hL
      rw [Array.getD_eq_getD_getElem?, Array.getElem?_replicate] at hon
      split at hon <;> simp at hon⟩
  have h3 := lift_under (Q := Q) hE hG hT (by rw [e]; exact hS) h.length (Array.replicate h.length false) a _ (by simp) (by simp [open_]) (closed_none _) main
  rw [e] at h3
  have e1 : l.toArray.size = h.length + (l.drop n).length := by rw [← List.length_append, e]; simp
  rw [e1, show Array.replicate (h.length + (l.drop n).length) false = Array.replicate h.length false ++ Array.replicate (l.drop n).length false by simp]
  exact h3
theorem region_ownNL {P : Program} {Q : Exit → Act → World → Prop} {id : Nat} {a : Act} {w : World} (W0 : World) (n : Nat) {l : List Oper} (vals : List (Nat × Value)) (L : List (Nat × (Value → World → Prop))) (O : List Nat) (E : List (Nat × Nat)) (hm : P.follows .mixedOrders = true)
    (hE : edgesIn (l.take n) = true) (hG : guardsIn (l.take n) = true) (hA : dstsApart (l.take n) 0 = true) (hI : dstsIn (l.take n) a.tmps.size = true) (hT : tailUnder (l.take n) (l.drop n) = true)
    (hS : Region.seqB .any l.toArray (l.drop n).length (l.take n).length (Array.replicate (l.take n).length true ++ Array.replicate (l.drop n).length false) = true)
    (hv : (vals.all fun p => (dstsOf (l.take n)).contains p.1) = true) (hsp : ((L.map (·.1)).all fun d => (dstsOf (l.take n)).contains d) = true) (hO : (O.all fun d => (L.map (·.1)).contains d) = true)
    (hEw : (E.all fun q => O.contains q.2 && match (l.take n)[q.1]? with | some o => waitsFor (l.take n) o q.2 | none => false) = true) (hEn : apartB (E.map (·.2)) = true)
    (hst1 : ∀ q ∈ L, O.contains q.1 = false → ∀ (v : Value) (w w' : World), q.2 v w → Below W0.heap.size W0 w → Below W0.heap.size w w' → (E = [] → Below w.heap.size w w') → q.2 v w')
    (hst2 : ∀ q ∈ L, O.contains q.1 = true → ∀ (v : Value) (w w' : World) (row : Option Nat), q.2 v w → w.grownBy w' row → (blkOf v = none ∨ blkOf v ≠ row) → (∀ b, blkOf v = some b → b < w.heap.size) → q.2 v w') (hw : Below W0.heap.size W0 w)
    (hok : Full (l.take n) a (putR a vals) (specOf L) (L.map (·.1)) → OwnAll P (l.take n) a W0 (relR (putR a vals) (specOf L)) O E 0 (l.take n))
    (hfin : ∀ (f : Nat → Value) w', (∀ d p, specOf L d = some p → (E.map (·.2)).contains d = false → p (f d) w' ∧ (O.contains d = true → ∀ b, blkOf (f d) = some b → W0.heap.size ≤ b ∧ b < w'.heap.size)) →
      (∀ d d', O.contains d = true → O.contains d' = true → (E.map (·.2)).contains d = false → (E.map (·.2)).contains d' = false → d ≠ d' → ∀ b, blkOf (f d) = some b → blkOf (f d') ≠ some b) → Below W0.heap.size W0 w' →
      wpList P l.toArray Q (l.drop n) (putR (putR a vals) ((L.map (·.1)).map fun d => (d, f d))) w') : (Code.region id l.toArray true).wp P Q a w := by
  have hfull : Full (l.take n) a (putR a vals) (specOf L) (L.map (·.1)) := full_put vals hv (specOf_none L)
  have hOL : ∀ d, O.contains d = true → d ∈ L.map (·.1) := fun d hd => List.contains_iff_mem.1 (List.all_eq_true.1 hO d (List.contains_iff_mem.1 hd))
  have hEO : ∀ d, d ∈ E.map (·.2) → d ∈ L.map (·.1) := fun d hd => by
    obtain ⟨q, hq, rfl⟩ := List.mem_map.1 hd
    have := List.all_eq_true.1 hEw q hq
    simp only [Bool.and_eq_true] at this
    exact hOL _ this.1
  have hin : ∀ d, d ∈ L.map (·.1) → d ∈ dstsOf (l.take n) := fun d hd => List.contains_iff_mem.1 (List.all_eq_true.1 hsp d hd)
  have hnc : ∀ d, (E.map (·.2)).contains d = false → d ∉ E.map (·.2) := fun d h hm => by rw [List.contains_iff_mem.2 hm] at h; cases h
  refine region_ownN W0 n (relR (putR a vals) (specOf L)) O E _ hm hE hG hA hI hT hS hEw hEn rfl ?_ ?_ hw (hok hfull) ?_
  · intro d v w w' hd h1 h2 h3 h9
    unfold relR at *
    cases hs : specOf L d with
    | none => rw [hs] at h1; exact h1
    | some p =>
      rw [hs] at h1
      obtain ⟨q, hq, rfl, rfl⟩ := specOf_mem' L d p hs
      exact hst1 q hq hd v w w' h1 h2 h3 h9
  · intro d v w w' row hd h1 h2 h3 h4
    unfold relR at *
    cases hs : specOf L d with
    | none => rw [hs] at h1; exact h1
    | some p =>
      rw [hs] at h1
      obtain ⟨q, hq, rfl, rfl⟩ := specOf_mem' L d p hs
      exact hst2 q hq hd v w w' row h1 h2 h3 h4
  · intro f w' hf hD hb
    have e : putR a ((dstsOf (l.take n)).map fun d => (d, f d)) = putR (putR a vals) ((L.map (·.1)).map fun d => (d, f d)) := by
      refine act_eq (Array.ext_getElem? fun d => ?_) (by rw [putR_defers, putR_defers, putR_defers])
      rw [putR_get', putR_get', putR_size]
      by_cases hd : d < a.tmps.size
      · rw [if_pos hd, if_pos hd]
        by_cases h1 : d ∈ dstsOf (l.take n)
        · rw [if_pos h1]
          by_cases h2 : d ∈ L.map (·.1)
          · rw [if_pos h2]
          · rw [if_neg h2]
            have := (hf d h1 (fun h3 => h2 (hEO d h3))).1
            unfold relR at this
            rw [hfull.spec d h2] at this
            exact this.symm
        · rw [if_neg h1, if_neg (fun h2 => h1 (hin d h2))]
          refine (hfull.out d fun i o ho hdo => h1 ?_).symm
          exact List.mem_filterMap.2 ⟨o, List.mem_of_getElem? ho, hdo⟩
      · rw [if_neg hd, if_neg hd]
    rw [e]
    refine hfin f w' (fun d p hp hn => ?_) (fun d d' h1 h2 h3 h4 h5 => hD d (hin d (hOL d h1)) d' (hin d' (hOL d' h2)) (hnc d h3) (hnc d' h4) h1 h2 h5) hb
    by_cases hd : d ∈ L.map (·.1)
    · have := hf d (hin d hd) (hnc d hn)
      unfold relR at this
      rw [hp] at this
      exact this
    · rw [specOf_none L d hd] at hp
      cases hp

section
variable {P : Program} {h : List Oper} {A0 A : Act} {W0 : World} {S : Nat → Option (Value → World → Prop)} {sp O : List Nat} {E : List (Nat × Nat)} {i : Nat} {o : Oper}
/-- What is made of one slot alone. -/
theorem ow_pure (hw : Wants h A0 A S O E W0.heap.size i o) (d s : Nat) (hd : o.dst = some d) (p q : Value → World → Prop) (hps : S s = some p) (hpd : S d = some q) (hws : waitsFor h o s = true) (hE : (E.all fun q => q.2 != s || q.1 == i) = true) (hO : O.contains d = false)
    (hrun : ∀ (a : Act) (w : World), p (a.eval (.tmp s)) w → ∃ v, (execOp a.eval o).run P w = .ok (.value v) w ∧ q v w) : OwnOk P h A0 W0 (relR A S) O E i o :=
  ow_run hw d hd fun a w hF hB hgot => by
    obtain ⟨v, h1, h2⟩ := hrun a w (gotE_spec hgot p hws hE hps).1
    exact ⟨v, w, none, h1, rel_spec q hpd h2, grown_none (Below.refl _ _), fun b hb => (by cases hb), fun h3 => by rw [hO] at h3; cases h3⟩
/-- A known value made of one slot alone. -/
theorem ow_pureD (hA : Full h A0 A S sp) (hw : Wants h A0 A S O E W0.heap.size i o) (d s : Nat) (hd : o.dst = some d) (p : Value → World → Prop) (v : Value) (hps : S s = some p) (hds : sp.contains d = false) (hv : A.tmps[d]? = some v) (hws : waitsFor h o s = true) (hE : (E.all fun q => q.2 != s || q.1 == i) = true) (hO : O.contains d = false)
    (hrun : ∀ (a : Act) (w : World), p (a.eval (.tmp s)) w → (execOp a.eval o).run P w = .ok (.value v) w) : OwnOk P h A0 W0 (relR A S) O E i o :=
  ow_run hw d hd fun a w hF hB hgot => by
    have h1 := hrun a w (gotE_spec hgot p hws hE hps).1
    exact ⟨v, w, none, h1, rel_det hA hds hv, grown_none (Below.refl _ _), fun b hb => (by cases hb), fun h3 => by rw [hO] at h3; cases h3⟩
end
/-- A pair of bytes and a number. -/
def PairV (r : Int) (U : List Nat) : Value → World → Prop := fun v w => ∃ u, v = .tuple #[u, .int .i64 r] ∧ BytesV u w U
theorem PairV.under {r : Int} {U : List Nat} {v : Value} {w w' : World} (h : PairV r U v w) (hb : Below w.heap.size w w') : PairV r U v w' := by
  obtain ⟨u, h1, h2⟩ := h
  exact ⟨u, h1, h2.under hb⟩
def BytesS (U : List Nat) : Value → World → Prop := fun v w => BytesV v w U
theorem mv_pair {r : Int} {U : List Nat} {o : Oper} {a : Act} {s : Nat} {w : World} (ho : o.op = .move (.tmp s)) (h : PairV r U (a.eval (.tmp s)) w) : ∃ v, (execOp a.eval o).run Try.prog w = .ok (.value v) w ∧ PairV r U v w := by
  refine ⟨_, ?_, h⟩
  unfold execOp
  simp only [ho]
  simp [go_sem]
theorem ex_fst {r : Int} {U : List Nat} {o : Oper} {a : Act} {s : Nat} {w : World} (ho : o.op = .extract (.tmp s) 0) (h : PairV r U (a.eval (.tmp s)) w) : ∃ v, (execOp a.eval o).run Try.prog w = .ok (.value v) w ∧ BytesS U v w := by
  obtain ⟨u, h1, h2⟩ := h
  refine ⟨u, ?_, h2⟩
  unfold execOp
  simp only [ho, h1]
  simp [go_sem]
theorem ex_snd {r : Int} {U : List Nat} {o : Oper} {a : Act} {s : Nat} {w : World} (ho : o.op = .extract (.tmp s) 1) (h : PairV r U (a.eval (.tmp s)) w) : (execOp a.eval o).run Try.prog w = .ok (.value (.int .i64 r)) w := by
  obtain ⟨u, h1, h2⟩ := h
  unfold execOp
  simp only [ho, h1]
  simp [go_sem]
theorem as_bytes {U : List Nat} {o : Oper} {a : Act} {s : Nat} {w : World} (ho : o.op = .assign (.tmp s)) (h : BytesS U (a.eval (.tmp s)) w) : ∃ v, (execOp a.eval o).run Try.prog w = .ok (.value v) w ∧ BytesS U v w := by
  refine ⟨_, ?_, h⟩
  unfold execOp
  simp only [ho]
  simp [go_sem]
end Go.Proofs.Ytpamcmhfimnfbaa.sh
/-
  StreamEnd: behind the last count there is no block more; more bytes than may be are refused.
-/
namespace Go.Proofs.Ytpamcmhfimnfbaa.sh
open Go Go.RowKit
set_option linter.unusedVariables false
set_option linter.unusedSimpArgs false

theorem run_rem8c {o : Oper} {a : Act} {x : Operand} {i z : Nat} (ho : o.op = .binOp .rem 5 x (.const (.int .u8 4)) 5) (hx : a.eval x = .int .u8 (i : Int)) (hz : z = i % 4) (hi : i < 256) (w : World) : (execOp a.eval o).run Try.prog w = .ok (.value (.int .u8 (z : Int))) w := by
  have e3 : a.eval (.const (.int .u8 4)) = .int .u8 4 := rfl
  have h3 : (i : Int).tmod 4 = (z : Int) := by rw [hz, Int.tmod_eq_emod_of_nonneg (by omega)]; omega
  unfold execOp
  simp only [ho, hx, e3]
  simp [go_sem, h3]
theorem run_rem16c {o : Oper} {a : Act} {x : Operand} {i z : Nat} (ho : o.op = .binOp .rem 34 x (.const (.int .u16 400)) 34) (hx : a.eval x = .int .u16 (i : Int)) (hz : z = i % 400) (hi : i < 65536) (w : World) : (execOp a.eval o).run Try.prog w = .ok (.value (.int .u16 (z : Int))) w := by
  have e3 : a.eval (.const (.int .u16 400)) = .int .u16 400 := rfl
  have h3 : (i : Int).tmod 400 = (z : Int) := by rw [hz, Int.tmod_eq_emod_of_nonneg (by omega)]; omega
  unfold execOp
  simp only [ho, hx, e3]
  simp [go_sem, h3]
theorem run_c864 {o : Oper} {a : Act} {x : Operand} {z : Nat} (ho : o.op = .convert 5 23 x) (hx : a.eval x = .int .u8 (z : Int)) (hz : z < 256) (w : World) : (execOp a.eval o).run Try.prog w = .ok (.value (.int .u64 (z : Int))) w := by
  unfold execOp
  simp only [ho, hx]
  simp [go_sem, IntKind.wrap_u64]
  omega
theorem run_c163 {o : Oper} {a : Act} {x : Operand} {z : Nat} (ho : o.op = .convert 34 3 x) (hx : a.eval x = .int .u16 (z : Int)) (hz : z < 65536) (w : World) : (execOp a.eval o).run Try.prog w = .ok (.value (.int .i64 (z : Int))) w := by
  unfold execOp
  simp only [ho, hx]
  simp [go_sem, IntKind.wrap_i64, wrap64]
  omega
theorem run_c6432 {o : Oper} {a : Act} {x : Operand} {z : Nat} (ho : o.op = .convert 23 38 x) (hx : a.eval x = .int .u64 (z : Int)) (hz : z < 4294967296) (w : World) : (execOp a.eval o).run Try.prog w = .ok (.value (.int .u32 (z : Int))) w := by
  unfold execOp
  simp only [ho, hx]
  simp [go_sem, IntKind.wrap_u32']
  omega
theorem run_subL {o : Oper} {a : Act} {x : Operand} {i z : Nat} (ho : o.op = .binOp .sub 23 (.const (.int .u64 4294967295)) x 23) (hx : a.eval x = .int .u64 (i : Int)) (hz : z + i = 4294967295) (w : World) : (execOp a.eval o).run Try.prog w = .ok (.value (.int .u64 (z : Int))) w := by
  have e3 : a.eval (.const (.int .u64 4294967295)) = .int .u64 4294967295 := rfl
  unfold execOp
  simp only [ho, hx, e3]
  simp [go_sem, IntKind.wrap_u64]
  omega
theorem run_leqI {o : Oper} {a : Act} {x y : Operand} {m n : Nat} {b : Bool} (ho : o.op = .binOp .leq 3 x y 3) (hx : a.eval x = .int .i64 (m : Int)) (hy : a.eval y = .int .i64 (n : Int)) (hb : b = decide (m ≤ n)) (w : World) : (execOp a.eval o).run Try.prog w = .ok (.value (.bool b)) w := by
  unfold execOp
  simp only [ho, hx, hy]
  simp [go_sem, hb]
theorem zn_val (w : World) : (Instr.build 36 #[]).run Try.prog w = .ok (.agg (ints .u8 (List.replicate 12 0))) w := by kernel_rfl
theorem nat_of_u8 {y : Int} (h : (Lit.int .u8 y).wf = true) : ∃ a : Nat, y = (a : Int) ∧ a < 256 := by
  have := bounds_u8 h
  exact ⟨y.toNat, by omega, by omega⟩
theorem nat_of_u16 {y : Int} (h : (Lit.int .u16 y).wf = true) : ∃ a : Nat, y = (a : Int) ∧ a < 65536 := by
  have := bounds_u16 h
  exact ⟨y.toNat, by omega, by omega⟩
theorem make_new {B : Nat} {o : Oper} {a : Act} (c : Nat) (hc : c < 1000000) (ho : o.op = .makeSlice 24 (.const (.int .i64 (c : Int))) (.const (.int .i64 (c : Int)))) (w : World) (hB : B ≤ w.heap.size) : ∃ v w', (execOp a.eval o).run Try.prog w = .ok (.value v) w' ∧ Row B 5 .u8 (List.replicate c 0) v w' ∧ Below w.heap.size w w' ∧ ∀ b, blkOf v = some b → w.heap.size ≤ b ∧ b < w'.heap.size := by
  refine ⟨.slice (some ⟨w.heap.size, 0, none⟩) c c, w.alloc (.cells (ints .u8 (List.replicate c 0)) 5), ?_, blk_row (blk_new _ _ _) (by rw [List.length_replicate]) hB (by unfold maxLen; omega), (Below.refl _ _).alloc (Nat.le_refl _) _, fun b hb => ?_⟩
  · have e3 : a.eval (.const (.int .i64 (c : Int))) = .int .i64 (c : Int) := rfl
    unfold execOp
    simp only [ho, e3]
    simp [run_make8 c hc .i64 w]
  · cases hb
    exact ⟨Nat.le_refl _, by simp⟩
end Go.Proofs.Ytpamcmhfimnfbaa.sh
/-
  StreamBlocks: bytes are turned by blocks that are told one by one.
-/
namespace Go.Proofs.Ytpamcmhfimnfbaa.sh
open Go Go.RowKit
set_option linter.unusedVariables false
set_option linter.unusedSimpArgs false

theorem run_neq8 {o : Oper} {a : Act} {x y : Operand} {m : Nat} (ho : o.op = .binOp .neq 5 x y 5) (hx : a.eval x = .int .u8 (m : Int)) (hy : a.eval y = .int .u8 (m : Int)) (w : World) : (execOp a.eval o).run Try.prog w = .ok (.value (.bool false)) w := by
  unfold execOp
  simp only [ho, hx, hy]
  simp [go_sem]
theorem bytes_at {p : Option Addr} {n c : Nat} {w : World} {bs : List Nat} (h : BytesV (.slice p n c) w bs) {i x : Nat} (hx : bs[i]? = some x) : ∃ A, p = some A ∧ A.block < w.heap.size ∧ w.cell? (A.add i) = some (.int .u8 (x : Int)) := by
  obtain ⟨p', c', e1, _, e3⟩ := h
  cases e1
  obtain ⟨A, e4, e6, e5⟩ := e3 (by intro e; rw [e] at hx; cases hx)
  exact ⟨A, e4, e6, e5 i x hx⟩
theorem bytes_cell {A : Addr} {n c : Nat} {w : World} {bs : List Nat} (h : BytesV (.slice (some A) n c) w bs) {i x : Nat} (hx : bs[i]? = some x) : w.cell? (A.add i) = some (.int .u8 (x : Int)) := by
  obtain ⟨A', e1, _, e2⟩ := bytes_at h hx
  cases e1
  exact e2
/-- What Xor answers. -/
theorem Xor_any (key nonce b : List Nat) (count : Nat) (vb : Value) (w : World) (hk : key.length = 32) (hy : Bytes key) (hnl : nonce.length = 12) (hyn : Bytes nonce) (hyb : Bytes b) (hvb : BytesV vb w b) (hc : count < 4294967296) (h : b.length ≤ 65536) :
    Calls Try.prog 13 #[.agg (ints .u8 key), .agg (ints .u8 nonce), .int .u32 (count : Int), vb] w fun e w' => Below w.heap.size w w' ∧ ∃ v : Value, ((count + (b.length + 63) / 64 ≤ 4294967296 ∧ e = .returned (.tuple #[v, .int .i64 0]) ∧ BytesV v w' (encL key nonce count b)) ∨ (4294967296 < count + (b.length + 63) / 64 ∧ e = .returned (.tuple #[v, .int .i64 12]) ∧ v = .slice none 0 0)) := by
  by_cases he : count + (b.length + 63) / 64 ≤ 4294967296
  · refine (Xor_ok key nonce b count vb w hk hy hnl hyn hyb hvb hc h he).mono ?_
    rintro e w' ⟨v, rfl, hr, hb⟩
    exact ⟨hb, v, .inl ⟨he, rfl, row_bytes hr⟩⟩
  · refine (Xor_end key nonce b count vb w hvb hc h (by omega)).mono ?_
    rintro e w' ⟨rfl, hb⟩
    exact ⟨hb, _, .inr ⟨by omega, rfl, rfl⟩⟩

end Go.Proofs.Ytpamcmhfimnfbaa.sh
