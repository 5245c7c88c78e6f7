/-
  A block, by the program.
-/
import Derived.Test.YthieljiplhhdeaaXC
import Derived.Test.YthieljiplhhdeaaXD
import Derived.Test.YthieljiplhhdeaaXF
namespace Go.Proofs.Ythieljiplhhdeaa.sh
open Go Go.RowKit
set_option linter.unusedVariables false
set_option linter.unusedSimpArgs false

theorem i12_info : (Try.prog.info? 23).map (·.size) = some 12 := by kernel_rfl
set_option maxRecDepth 100000 in
set_option maxHeartbeats 1000000 in
theorem Block_any (key nonce : List Nat) (count : Nat) (w : World) (hk : key.length = 32) (hy : Bytes key) (hn : nonce.length = 12) (hyn : Bytes nonce) (hc : count < 4294967296) :
    Calls Try.prog 11 #[.agg (ints .u8 key), .agg (ints .u8 nonce), .int .u32 (count : Int)] w fun e w' => e = .returned (.agg (ints .u8 (blockL key nonce count))) ∧ Below w.heap.size w w' := by
  have LK : Kept _ := ⟨hk⟩
  have LN : Kept _ := ⟨hn⟩
  have CL : Kept (∀ w', Calls Try.prog 15 #[.agg (ints .u8 key), .agg (ints .u8 nonce), .int .u32 (count : Int)] w' fun e w2 => e = .returned (.agg (ints .u32 (frstL key nonce count))) ∧ Below w'.heap.size w' w2) := ⟨fun w' => laid_any key nonce count w' hk hy hn hyn⟩
  obtain ⟨S, hS⟩ : ∃ S, S = frstL key nonce count := ⟨_, rfl⟩
  have WS : Kept (Ws S) := ⟨by rw [hS]; exact Ws.frst hy hyn hc⟩
  obtain ⟨M, hM⟩ : ∃ M, M = mixT S 10 := ⟨_, rfl⟩
  have WM : Kept (Ws M) := ⟨by rw [hM]; exact WS.out.mix 10⟩
  obtain ⟨P, hP⟩ : ∃ P, P = plusL S M := ⟨_, rfl⟩
  have WP : Kept (Ws P) := ⟨by rw [hP]; exact WS.out.plus WM.out⟩
  obtain ⟨L, hL⟩ : ∃ L, L = blockL key nonce count := ⟨_, rfl⟩
  have EL : Kept (L = leL P) := ⟨by rw [hL, hP, hM, hS]; rfl⟩
  have LL : Kept (L.length = 64) := ⟨by rw [hL]; exact blockL_len _ _ _⟩
  have LS : Kept (S.length = 16) := ⟨WS.out.len⟩
  have EM : Kept _ := ⟨hM⟩
  have EP : Kept _ := ⟨hP⟩
  rw [← hS] at CL
  rw [← hL]
  obtain ⟨Z0, hZ0⟩ : ∃ Z, Z = List.replicate 64 0 := ⟨_, rfl⟩
  have LZ : Kept (Z0.length = 64) := ⟨by rw [hZ0]; rfl⟩
  have EI : Kept ((#[.int .u8 0, .int .u8 0, .int .u8 0, .int .u8 0, .int .u8 0, .int .u8 0, .int .u8 0, .int .u8 0, .int .u8 0, .int .u8 0, .int .u8 0, .int .u8 0, .int .u8 0, .int .u8 0, .int .u8 0, .int .u8 0, .int .u8 0, .int .u8 0, .int .u8 0, .int .u8 0, .int .u8 0, .int .u8 0, .int .u8 0, .int .u8 0, .int .u8 0, .int .u8 0, .int .u8 0, .int .u8 0, .int .u8 0, .int .u8 0, .int .u8 0, .int .u8 0, .int .u8 0, .int .u8 0, .int .u8 0, .int .u8 0, .int .u8 0, .int .u8 0, .int .u8 0, .int .u8 0, .int .u8 0, .int .u8 0, .int .u8 0, .int .u8 0, .int .u8 0, .int .u8 0, .int .u8 0, .int .u8 0, .int .u8 0, .int .u8 0, .int .u8 0, .int .u8 0, .int .u8 0, .int .u8 0, .int .u8 0, .int .u8 0, .int .u8 0, .int .u8 0, .int .u8 0, .int .u8 0, .int .u8 0, .int .u8 0, .int .u8 0, .int .u8 0] : Array Value) = ints .u8 Z0) := ⟨by rw [hZ0]; exact z64_eq2⟩
  have A0 : Blk (((w.alloc (.cells (ints .u8 key) 22)).alloc (.cells (ints .u8 nonce) 23)).alloc (.cells #[.int .u8 0, .int .u8 0, .int .u8 0, .int .u8 0, .int .u8 0, .int .u8 0, .int .u8 0, .int .u8 0, .int .u8 0, .int .u8 0, .int .u8 0, .int .u8 0, .int .u8 0, .int .u8 0, .int .u8 0, .int .u8 0, .int .u8 0, .int .u8 0, .int .u8 0, .int .u8 0, .int .u8 0, .int .u8 0, .int .u8 0, .int .u8 0, .int .u8 0, .int .u8 0, .int .u8 0, .int .u8 0, .int .u8 0, .int .u8 0, .int .u8 0, .int .u8 0, .int .u8 0, .int .u8 0, .int .u8 0, .int .u8 0, .int .u8 0, .int .u8 0, .int .u8 0, .int .u8 0, .int .u8 0, .int .u8 0, .int .u8 0, .int .u8 0, .int .u8 0, .int .u8 0, .int .u8 0, .int .u8 0, .int .u8 0, .int .u8 0, .int .u8 0, .int .u8 0, .int .u8 0, .int .u8 0, .int .u8 0, .int .u8 0, .int .u8 0, .int .u8 0, .int .u8 0, .int .u8 0, .int .u8 0, .int .u8 0, .int .u8 0, .int .u8 0] 34)) w.heap.size 22 (ints .u8 key) := ((blk_new w _ _).alloc _).alloc _
  have A1 : Blk (((w.alloc (.cells (ints .u8 key) 22)).alloc (.cells (ints .u8 nonce) 23)).alloc (.cells #[.int .u8 0, .int .u8 0, .int .u8 0, .int .u8 0, .int .u8 0, .int .u8 0, .int .u8 0, .int .u8 0, .int .u8 0, .int .u8 0, .int .u8 0, .int .u8 0, .int .u8 0, .int .u8 0, .int .u8 0, .int .u8 0, .int .u8 0, .int .u8 0, .int .u8 0, .int .u8 0, .int .u8 0, .int .u8 0, .int .u8 0, .int .u8 0, .int .u8 0, .int .u8 0, .int .u8 0, .int .u8 0, .int .u8 0, .int .u8 0, .int .u8 0, .int .u8 0, .int .u8 0, .int .u8 0, .int .u8 0, .int .u8 0, .int .u8 0, .int .u8 0, .int .u8 0, .int .u8 0, .int .u8 0, .int .u8 0, .int .u8 0, .int .u8 0, .int .u8 0, .int .u8 0, .int .u8 0, .int .u8 0, .int .u8 0, .int .u8 0, .int .u8 0, .int .u8 0, .int .u8 0, .int .u8 0, .int .u8 0, .int .u8 0, .int .u8 0, .int .u8 0, .int .u8 0, .int .u8 0, .int .u8 0, .int .u8 0, .int .u8 0, .int .u8 0] 34)) (w.heap.size + 1) 23 (ints .u8 nonce) := (blk_top _ _ _ _ (by simp)).alloc _
  have A2 : Blk (((w.alloc (.cells (ints .u8 key) 22)).alloc (.cells (ints .u8 nonce) 23)).alloc (.cells #[.int .u8 0, .int .u8 0, .int .u8 0, .int .u8 0, .int .u8 0, .int .u8 0, .int .u8 0, .int .u8 0, .int .u8 0, .int .u8 0, .int .u8 0, .int .u8 0, .int .u8 0, .int .u8 0, .int .u8 0, .int .u8 0, .int .u8 0, .int .u8 0, .int .u8 0, .int .u8 0, .int .u8 0, .int .u8 0, .int .u8 0, .int .u8 0, .int .u8 0, .int .u8 0, .int .u8 0, .int .u8 0, .int .u8 0, .int .u8 0, .int .u8 0, .int .u8 0, .int .u8 0, .int .u8 0, .int .u8 0, .int .u8 0, .int .u8 0, .int .u8 0, .int .u8 0, .int .u8 0, .int .u8 0, .int .u8 0, .int .u8 0, .int .u8 0, .int .u8 0, .int .u8 0, .int .u8 0, .int .u8 0, .int .u8 0, .int .u8 0, .int .u8 0, .int .u8 0, .int .u8 0, .int .u8 0, .int .u8 0, .int .u8 0, .int .u8 0, .int .u8 0, .int .u8 0, .int .u8 0, .int .u8 0, .int .u8 0, .int .u8 0, .int .u8 0] 34)) (w.heap.size + 2) 34 (ints .u8 Z0) := by rw [← EI.out]; exact blk_top _ _ _ _ (by simp)
  have Q0 : Below w.heap.size w (((w.alloc (.cells (ints .u8 key) 22)).alloc (.cells (ints .u8 nonce) 23)).alloc (.cells #[.int .u8 0, .int .u8 0, .int .u8 0, .int .u8 0, .int .u8 0, .int .u8 0, .int .u8 0, .int .u8 0, .int .u8 0, .int .u8 0, .int .u8 0, .int .u8 0, .int .u8 0, .int .u8 0, .int .u8 0, .int .u8 0, .int .u8 0, .int .u8 0, .int .u8 0, .int .u8 0, .int .u8 0, .int .u8 0, .int .u8 0, .int .u8 0, .int .u8 0, .int .u8 0, .int .u8 0, .int .u8 0, .int .u8 0, .int .u8 0, .int .u8 0, .int .u8 0, .int .u8 0, .int .u8 0, .int .u8 0, .int .u8 0, .int .u8 0, .int .u8 0, .int .u8 0, .int .u8 0, .int .u8 0, .int .u8 0, .int .u8 0, .int .u8 0, .int .u8 0, .int .u8 0, .int .u8 0, .int .u8 0, .int .u8 0, .int .u8 0, .int .u8 0, .int .u8 0, .int .u8 0, .int .u8 0, .int .u8 0, .int .u8 0, .int .u8 0, .int .u8 0, .int .u8 0, .int .u8 0, .int .u8 0, .int .u8 0, .int .u8 0, .int .u8 0] 34)) := (((Below.refl _ _).alloc (Nat.le_refl _) _).alloc (by simp) _).alloc (by simp; omega) _
  clear hk hy hn hyn hS hM hP hL hZ0 EI
  go_enter Try.func11, Try.ntmps11
  go_wp2_with (first | ((with_reducible refine wv_row (d := 8) ?hd ?hw 22 (.tmp 3) ?ho (w.heap.size) ?hx (t' := 22) (ints .u8 key) _ _ Try.underlying22 ?hs ?hg ?_); (case hd => rfl); (case hw => kernel_rfl); (case ho => rfl); (case hx => kernel_rfl); (case hs => rw [ints_size, LK.out]; exact t32_info); (case hg => exact A0); simp only [Act.put, List.setIfInBounds_toArray, List.set_cons_succ, List.set_cons_zero]) | ((with_reducible refine wv_row (d := 9) ?hd ?hw 23 (.tmp 4) ?ho (w.heap.size + 1) ?hx (t' := 23) (ints .u8 nonce) _ _ Try.underlying23 ?hs ?hg ?_); (case hd => rfl); (case hw => kernel_rfl); (case ho => rfl); (case hx => kernel_rfl); (case hs => rw [ints_size, LN.out]; exact i12_info); (case hg => exact A1); simp only [Act.put, List.setIfInBounds_toArray, List.set_cons_succ, List.set_cons_zero]))
  refine (CL.out _).mono ?_
  rintro e w1 ⟨rfl, hb1⟩
  have B2 := A2.under hb1
  have Q1 := Q0.trans (hb1.mono Q0.size)
  have hl1 : w.heap.size + 2 < w1.heap.size := B2.lt
  clear A0 A1 A2 Q0 hb1 CL
  go_wp2_with (first | (refine wl_store rfl 45 (.tmp 7) (.tmp 11) rfl w1.heap.size (ints .u32 S) rfl rfl _ (blk_new w1 _ _) (by rw [ints_size, LS.out]; exact ws_inf2) (by rw [ints_size, LS.out]; rfl) (ints_one _ _) ?_))
  intro w3 A7 P3
  have C2' := P3.blk (B2.alloc _) (by omega)
  have Q3 := (Q1.alloc Q1.size _).trans (P3.below (by omega))
  generalize hg7 : w1.heap.size = g7 at *
  clear B2 Q1 P3
  have C1 : Kept (∀ w', Below w3.heap.size w3 w' → Calls Try.prog 17 [.agg (ints .u32 S)].toArray w' fun e w2 => e = .returned (.agg (ints .u32 M)) ∧ Below w'.heap.size w' w2) := ⟨fun w' hb => by rw [EM.out]; exact mixed_any S w' WS.out⟩
  have C2 : Kept (∀ w', Below w3.heap.size w3 w' → Calls Try.prog 16 [.agg (ints .u32 S), .agg (ints .u32 M)].toArray w' fun e w2 => e = .returned (.agg (ints .u32 P)) ∧ Below w'.heap.size w' w2) := ⟨fun w' hb => by rw [EP.out]; exact plus16 S M w' WS.out.len WM.out.len⟩
  have C3 : Kept (∀ w', Below w3.heap.size w3 w' → Calls Try.prog 18 [.agg (ints .u32 P)].toArray w' fun e w2 => e = .returned (.agg (ints .u8 L)) ∧ Below w'.heap.size w' w2) := ⟨fun w' hb => by rw [EL.out]; exact bytes16 P w' WP.out⟩
  go_wp2_with fail
  refine region_ownL w3 5 [(12, .agg (ints .u32 S)), (13, .agg (ints .u32 S)), (14, .agg (ints .u32 M)), (15, .agg (ints .u32 P)), (16, .agg (ints .u8 L))] [] [] [] rfl (by kernel_rfl) (by kernel_rfl) (by kernel_rfl) (by kernel_rfl) (by kernel_rfl) (by kernel_rfl) (by kernel_rfl) (by kernel_rfl) (by kernel_rfl) (by kernel_rfl) (by kernel_rfl) ?hst1 ?hst2 (Below.refl _ _) (fun hA => ⟨ow_row hA (wants_none rfl) 12 (.agg (ints .u32 S)) (by kernel_rfl) rfl rfl rfl rfl (by kernel_rfl) 45 (.tmp 7) rfl (g7) (by kernel_rfl) 45 (ints .u32 S) 16 24 Try.underlying45 ((by rw [ints_size, LS.out]; exact ws_inf2)) (fun w1 hb => A7.under hb) rfl, ow_row hA (wants_none rfl) 13 (.agg (ints .u32 S)) (by kernel_rfl) rfl rfl rfl rfl (by kernel_rfl) 45 (.tmp 7) rfl (g7) (by kernel_rfl) 45 (ints .u32 S) 16 24 Try.underlying45 ((by rw [ints_size, LS.out]; exact ws_inf2)) (fun w1 hb => A7.under hb) rfl, ow_calld hA (wants_none rfl) 14 (.agg (ints .u32 M)) (by kernel_rfl) rfl rfl rfl rfl (by kernel_rfl) 17 Try.f17 _ [.tmp 13] _ [.agg (ints .u32 S)] rfl (by kernel_rfl) Try.func17 (by kernel_rfl) rfl (C1.out), ow_calld hA (wants_none rfl) 15 (.agg (ints .u32 P)) (by kernel_rfl) rfl rfl rfl rfl (by kernel_rfl) 16 Try.f16 _ [.tmp 12, .tmp 14] _ [.agg (ints .u32 S), .agg (ints .u32 M)] rfl (by kernel_rfl) Try.func16 (by kernel_rfl) rfl (C2.out), ow_calld hA (wants_none rfl) 16 (.agg (ints .u8 L)) (by kernel_rfl) rfl rfl rfl rfl (by kernel_rfl) 18 Try.f18 _ [.tmp 15] _ [.agg (ints .u32 P)] rfl (by kernel_rfl) Try.func18 (by kernel_rfl) rfl (C3.out), trivial⟩) ?_
  case hst1 => intro q hq; cases hq
  case hst2 => intro q hq; cases hq
  intro fv w4 hf hD hb4
  simp only [putR, List.foldl_cons, List.foldl_nil, List.map_cons, List.map_nil, Act.put, List.setIfInBounds_toArray, List.set_cons_succ, List.set_cons_zero]
  have D2 := C2'.under hb4
  have Q4 := Q3.trans (hb4.mono Q3.size)
  clear hf hD C1 C2 C3 A7 C2' Q3 hb4
  refine wl_store rfl 34 (.tmp 6) (.tmp 16) rfl (w.heap.size + 2) (ints .u8 L) (by kernel_rfl) (by kernel_rfl) _ D2 (by rw [ints_size, LL.out]; exact i64_inf2) (by rw [ints_size, ints_size, LL.out, LZ.out]) (ints_one _ _) ?_
  intro w5 A5 P5
  go_wp2
  exact bodyPost_ret (v := .agg (ints .u8 L)) (results_cell_row Try.results11 _ _ _ 34 (ints .u8 L) (0, 0) _ rfl A5 Try.underlying34 rfl (by rw [ints_size, LL.out]; exact i64_inf2)) rfl ⟨rfl, Q4.trans (P5.below (by omega))⟩
end Go.Proofs.Ythieljiplhhdeaa.sh
