/-
  The answers that the document fixes for layer 6 are as they must be.
-/
import Derived.Test.YtfcinakpdnblfaaYH
namespace Go.Proofs.Ytfcinakpdnblfaa.sh
open Go Go.RowKit
set_option linter.unusedVariables false
set_option linter.unusedSimpArgs false

def keyP : List Nat := [133, 214, 190, 120, 87, 85, 109, 51, 127, 68, 82, 254, 66, 213, 6, 168, 1, 3, 128, 138, 251, 13, 178, 253, 74, 191, 246, 175, 65, 73, 245, 27]
def msgP : List Nat := [67, 114, 121, 112, 116, 111, 103, 114, 97, 112, 104, 105, 99, 32, 70, 111, 114, 117, 109, 32, 82, 101, 115, 101, 97, 114, 99, 104, 32, 71, 114, 111, 117, 112]
theorem fixed_tag : tagL keyP msgP = [168, 6, 29, 193, 48, 81, 54, 198, 194, 43, 139, 175, 12, 1, 39, 169] := by kernel_rfl
theorem keyP_bytes : Bytes keyP := bytes_of_all (by decide)
theorem msgP_bytes : Bytes msgP := bytes_of_all (by decide)
theorem run_keyP {o : Oper} {a : Act} (ho : o.op = .build 22 #[(0, .const (.int .u8 133)), (1, .const (.int .u8 214)), (2, .const (.int .u8 190)), (3, .const (.int .u8 120)), (4, .const (.int .u8 87)), (5, .const (.int .u8 85)), (6, .const (.int .u8 109)), (7, .const (.int .u8 51)), (8, .const (.int .u8 127)), (9, .const (.int .u8 68)), (10, .const (.int .u8 82)), (11, .const (.int .u8 254)), (12, .const (.int .u8 66)), (13, .const (.int .u8 213)), (14, .const (.int .u8 6)), (15, .const (.int .u8 168)), (16, .const (.int .u8 1)), (17, .const (.int .u8 3)), (18, .const (.int .u8 128)), (19, .const (.int .u8 138)), (20, .const (.int .u8 251)), (21, .const (.int .u8 13)), (22, .const (.int .u8 178)), (23, .const (.int .u8 253)), (24, .const (.int .u8 74)), (25, .const (.int .u8 191)), (26, .const (.int .u8 246)), (27, .const (.int .u8 175)), (28, .const (.int .u8 65)), (29, .const (.int .u8 73)), (30, .const (.int .u8 245)), (31, .const (.int .u8 27))]) (w : World) : (execOp a.eval o).run Try.prog w = .ok (.value (.agg (ints .u8 keyP))) w := by
  have hb : (Instr.build 22 #[(0, .int .u8 133), (1, .int .u8 214), (2, .int .u8 190), (3, .int .u8 120), (4, .int .u8 87), (5, .int .u8 85), (6, .int .u8 109), (7, .int .u8 51), (8, .int .u8 127), (9, .int .u8 68), (10, .int .u8 82), (11, .int .u8 254), (12, .int .u8 66), (13, .int .u8 213), (14, .int .u8 6), (15, .int .u8 168), (16, .int .u8 1), (17, .int .u8 3), (18, .int .u8 128), (19, .int .u8 138), (20, .int .u8 251), (21, .int .u8 13), (22, .int .u8 178), (23, .int .u8 253), (24, .int .u8 74), (25, .int .u8 191), (26, .int .u8 246), (27, .int .u8 175), (28, .int .u8 65), (29, .int .u8 73), (30, .int .u8 245), (31, .int .u8 27)]).run Try.prog w = .ok (.agg (ints .u8 keyP)) w := by kernel_rfl
  unfold execOp
  simp only [ho, List.map_toArray, List.map_cons, List.map_nil, Act.eval]
  simp [hb]

set_option maxRecDepth 100000 in
set_option maxHeartbeats 4000000 in
theorem alive6 (w : World) :
    Calls Try.prog 9 #[] w fun e w' => e = .returned (.bool true) ∧ Below w.heap.size w w' := by
  obtain ⟨J, hJ⟩ : ∃ J, J = keyP := ⟨_, rfl⟩
  obtain ⟨M, hM⟩ : ∃ M, M = msgP := ⟨_, rfl⟩
  obtain ⟨L, hL⟩ : ∃ L, L = tagL J M := ⟨_, rfl⟩
  obtain ⟨AB, hAB⟩ : ∃ l : List Nat, l = [97, 98] := ⟨_, rfl⟩
  obtain ⟨AC, hAC⟩ : ∃ l : List Nat, l = [97, 99] := ⟨_, rfl⟩
  have hLL : L = [168, 6, 29, 193, 48, 81, 54, 198, 194, 43, 139, 175, 12, 1, 39, 169] := by rw [hL, hJ, hM]; exact fixed_tag
  have LL : Kept (L.length = 16) := ⟨by rw [hLL]; rfl⟩
  have T0 : Kept ((ints .u8 L)[0]? = some (.int .u8 168)) := ⟨by rw [hLL]; rfl⟩
  have T1 : Kept ((ints .u8 L)[1]? = some (.int .u8 6)) := ⟨by rw [hLL]; rfl⟩
  have T15 : Kept ((ints .u8 L)[15]? = some (.int .u8 169)) := ⟨by rw [hLL]; rfl⟩
  have EL : Kept _ := ⟨hL⟩
  have LJ : Kept (J.length = 32) := ⟨by rw [hJ]; rfl⟩
  have LM : Kept (M.length = 34) := ⟨by rw [hM]; rfl⟩
  have LAB : Kept (AB.length = 2) := ⟨by rw [hAB]; rfl⟩
  have LAC : Kept (AC.length = 2) := ⟨by rw [hAC]; rfl⟩
  have YJ : Kept (Bytes J) := ⟨by rw [hJ]; exact keyP_bytes⟩
  have YM : Kept (Bytes M) := ⟨by rw [hM]; exact msgP_bytes⟩
  have YAB : Kept (Bytes AB) := ⟨by rw [hAB]; exact bytes_of_all (by decide)⟩
  have YAC : Kept (Bytes AC) := ⟨by rw [hAC]; exact bytes_of_all (by decide)⟩
  have NE : Kept (AB ≠ AC) := ⟨by rw [hAB, hAC]; decide⟩
  have HJ : Kept (∀ {o : Oper} {a : Act}, o.op = .build 22 #[(0, .const (.int .u8 133)), (1, .const (.int .u8 214)), (2, .const (.int .u8 190)), (3, .const (.int .u8 120)), (4, .const (.int .u8 87)), (5, .const (.int .u8 85)), (6, .const (.int .u8 109)), (7, .const (.int .u8 51)), (8, .const (.int .u8 127)), (9, .const (.int .u8 68)), (10, .const (.int .u8 82)), (11, .const (.int .u8 254)), (12, .const (.int .u8 66)), (13, .const (.int .u8 213)), (14, .const (.int .u8 6)), (15, .const (.int .u8 168)), (16, .const (.int .u8 1)), (17, .const (.int .u8 3)), (18, .const (.int .u8 128)), (19, .const (.int .u8 138)), (20, .const (.int .u8 251)), (21, .const (.int .u8 13)), (22, .const (.int .u8 178)), (23, .const (.int .u8 253)), (24, .const (.int .u8 74)), (25, .const (.int .u8 191)), (26, .const (.int .u8 246)), (27, .const (.int .u8 175)), (28, .const (.int .u8 65)), (29, .const (.int .u8 73)), (30, .const (.int .u8 245)), (31, .const (.int .u8 27))] → ∀ w, (execOp a.eval o).run Try.prog w = .ok (.value (.agg (ints .u8 J))) w) := ⟨fun {o a} ho w => by rw [hJ]; exact run_keyP ho w⟩
  have NM : Kept (∀ w : World, Const 5 .u8 M (.slice (some ⟨w.heap.size, 0, none⟩) 34 34) (w.alloc (.cells #[.int .u8 67, .int .u8 114, .int .u8 121, .int .u8 112, .int .u8 116, .int .u8 111, .int .u8 103, .int .u8 114, .int .u8 97, .int .u8 112, .int .u8 104, .int .u8 105, .int .u8 99, .int .u8 32, .int .u8 70, .int .u8 111, .int .u8 114, .int .u8 117, .int .u8 109, .int .u8 32, .int .u8 82, .int .u8 101, .int .u8 115, .int .u8 101, .int .u8 97, .int .u8 114, .int .u8 99, .int .u8 104, .int .u8 32, .int .u8 71, .int .u8 114, .int .u8 111, .int .u8 117, .int .u8 112] 5))) := ⟨fun w => by
    have e : #[.int .u8 67, .int .u8 114, .int .u8 121, .int .u8 112, .int .u8 116, .int .u8 111, .int .u8 103, .int .u8 114, .int .u8 97, .int .u8 112, .int .u8 104, .int .u8 105, .int .u8 99, .int .u8 32, .int .u8 70, .int .u8 111, .int .u8 114, .int .u8 117, .int .u8 109, .int .u8 32, .int .u8 82, .int .u8 101, .int .u8 115, .int .u8 101, .int .u8 97, .int .u8 114, .int .u8 99, .int .u8 104, .int .u8 32, .int .u8 71, .int .u8 114, .int .u8 111, .int .u8 117, .int .u8 112] = ints .u8 M := by rw [hM]; rfl
    rw [e]; exact Const.new LM.out⟩
  have NAB : Kept (∀ w : World, Const 5 .u8 AB (.slice (some ⟨w.heap.size, 0, none⟩) 2 2) (w.alloc (.cells #[.int .u8 97, .int .u8 98] 5))) := ⟨fun w => by
    have e : #[.int .u8 97, .int .u8 98] = ints .u8 AB := by rw [hAB]; rfl
    rw [e]; exact Const.new LAB.out⟩
  have NAC : Kept (∀ w : World, Const 5 .u8 AC (.slice (some ⟨w.heap.size, 0, none⟩) 2 2) (w.alloc (.cells #[.int .u8 97, .int .u8 99] 5))) := ⟨fun w => by
    have e : #[.int .u8 97, .int .u8 99] = ints .u8 AC := by rw [hAC]; rfl
    rw [e]; exact Const.new LAC.out⟩
  clear hL hJ hM hLL hAB hAC
  go_enter Try.func9, Try.ntmps9
  go_wp2_with (first | ((with_reducible refine wv_val (d := 3) ?hd ?hw (.agg (ints .u8 J)) ?hr ?_); (case hd => rfl); (case hw => kernel_rfl); (case hr => intro w; exact HJ.out rfl w); simp only [Act.put, List.setIfInBounds_toArray, List.set_cons_succ, List.set_cons_zero]) | (refine wl_store rfl 22 (.tmp 1) (.tmp 3) rfl w.heap.size (ints .u8 J) rfl rfl _ (blk_new w _ _) (by rw [ints_size, LJ.out]; exact t32_info) (by rw [ints_size, LJ.out]; rfl) (ints_one _ _) ?_))
  intro w0 A0 P0
  have Q0 : Below w.heap.size w w0 := ((Below.refl _ _).alloc (Nat.le_refl _) _).trans (P0.below (Nat.le_refl _))
  clear P0 HJ
  go_wp2_with (first | ((with_reducible refine wv_row (d := 4) ?hd ?hw 22 (.tmp 1) ?ho (w.heap.size) ?hx (t' := 22) (ints .u8 J) _ _ Try.underlying22 ?hs ?hg ?_); (case hd => rfl); (case hw => kernel_rfl); (case ho => rfl); (case hx => kernel_rfl); (case hs => rw [ints_size, LJ.out]; exact t32_info); (case hg => exact A0); simp only [Act.put, List.setIfInBounds_toArray, List.set_cons_succ, List.set_cons_zero]) | ((with_reducible refine wl_conv (d := 6) ?hd ?hw 23 5 (.tmp 5) ?ho _ ?hx Try.underlying23 Try.underlying5 M (NM.out w0) ?_); (case hd => rfl); (case hw => kernel_rfl); (case ho => rfl); (case hx => rfl)))
  intro w1 C1 G1
  have Q1 : Below w.heap.size w w1 := (Q0.alloc Q0.size _).trans (grown_mono G1 (by simp; have := Q0.size; omega) (fun b hb => by cases hb; exact Q0.size))
  have CS : Kept (Calls Try.prog 10 #[.agg (ints .u8 J), .slice (some ⟨w0.heap.size, 0, none⟩) 34 34] w1 fun e w' => e = .returned (.agg (ints .u8 L)) ∧ Below w1.heap.size w1 w') := ⟨by
    rw [EL.out]
    exact SumD J M _ w1 LJ.out YJ.out YM.out C1.ints⟩
  clear G1 C1 A0 Q0 NM
  go_wp2_with fail
  refine CS.out.mono ?_
  rintro e w2 ⟨rfl, hb2⟩
  have Q2 := Q1.trans (hb2.mono Q1.size)
  clear hb2 Q1 CS
  go_wp2_with (first | (refine wl_store rfl 25 (.tmp 2) (.tmp 7) rfl w2.heap.size (ints .u8 L) rfl rfl _ (blk_new w2 _ _) (by rw [ints_size, LL.out]; exact a16_info) (by rw [ints_size, LL.out]; rfl) (ints_one _ _) ?_))
  intro w3 A3 P3
  have Q3 := (Q2.alloc Q2.size _).trans (P3.below Q2.size)
  generalize hg2 : w2.heap.size = g2 at *
  have KC : Kept _ := ⟨A3⟩
  clear P3 Q2 hg2 A3
  go_wp2_with (first | ((with_reducible refine wl_conv (d := 23) ?hd ?hw 23 5 (.tmp 22) ?ho _ ?hx Try.underlying23 Try.underlying5 AB (NAB.out w3) ?_); (case hd => rfl); (case hw => kernel_rfl); (case ho => rfl); (case hx => rfl)) | ((with_reducible refine wv_elem (d := 9) ?hd ?hw 5 ag_u8 (.tmp 8) ?ho ⟨g2, 0, none⟩ ?hx (.int .u8 168) ?hg ?_); (case hd => rfl); (case hw => kernel_rfl); (case ho => rfl); (case hx => first | rfl | kernel_rfl); (case hg => exact KC.out.cell T0.out); simp only [Act.put, List.setIfInBounds_toArray, List.set_cons_succ, List.set_cons_zero]) | ((with_reducible refine wv_elem (d := 13) ?hd ?hw 5 ag_u8 (.tmp 12) ?ho ⟨g2, 1, none⟩ ?hx (.int .u8 6) ?hg ?_); (case hd => rfl); (case hw => kernel_rfl); (case ho => rfl); (case hx => first | rfl | kernel_rfl); (case hg => exact KC.out.cell T1.out); simp only [Act.put, List.setIfInBounds_toArray, List.set_cons_succ, List.set_cons_zero]) | ((with_reducible refine wv_elem (d := 18) ?hd ?hw 5 ag_u8 (.tmp 17) ?ho ⟨g2, 15, none⟩ ?hx (.int .u8 169) ?hg ?_); (case hd => rfl); (case hw => kernel_rfl); (case ho => rfl); (case hx => first | rfl | kernel_rfl); (case hg => exact KC.out.cell T15.out); simp only [Act.put, List.setIfInBounds_toArray, List.set_cons_succ, List.set_cons_zero]))
  intro w4 CA GA
  have QA : Below w.heap.size w w4 := (Q3.alloc Q3.size _).trans (grown_mono GA (by simp; have := Q3.size; omega) (fun b hb => by cases hb; exact Q3.size))
  have szA : w3.heap.size < w4.heap.size := by have := GA.size; simp at this; omega
  clear GA
  go_wp2_with (first | ((with_reducible refine wl_conv (d := 25) ?hd ?hw 23 5 (.tmp 24) ?ho _ ?hx Try.underlying23 Try.underlying5 AB (NAB.out w4) ?_); (case hd => rfl); (case hw => kernel_rfl); (case ho => rfl); (case hx => rfl)))
  intro w5 CB GB
  have Q5 : Below w.heap.size w w5 := (QA.alloc QA.size _).trans (grown_mono GB (by simp; have := QA.size; omega) (fun b hb => by cases hb; exact QA.size))
  have CA2 : Const 5 .u8 AB (.slice (some ⟨w3.heap.size, 0, none⟩) 2 2) w5 := (CA.alloc _).keeps GB (.inr fun e => by simp [blkOf] at e; omega)
  have CE : Kept (Calls Try.prog 12 #[.slice (some ⟨w3.heap.size, 0, none⟩) 2 2, .slice (some ⟨w4.heap.size, 0, none⟩) 2 2] w5 fun e w' => e = .returned (.bool true) ∧ Below w5.heap.size w5 w') := ⟨by have h := EqualD AB AB _ _ w5 YAB.out YAB.out CA2.ints CB.ints (by rw [LAB.out]; decide); rw [decide_eq_true rfl] at h; exact h⟩
  clear CA CB GB CA2 QA szA
  go_wp2_with fail
  refine CE.out.mono ?_
  rintro e w6 ⟨rfl, hb6⟩
  have Q6 := Q5.trans (hb6.mono Q5.size)
  clear Q3 Q5 hb6 CE
  go_wp2_with (first | ((with_reducible refine wl_conv (d := 30) ?hd ?hw 23 5 (.tmp 29) ?ho _ ?hx Try.underlying23 Try.underlying5 AB (NAB.out w6) ?_); (case hd => rfl); (case hw => kernel_rfl); (case ho => rfl); (case hx => rfl)) | ((with_reducible refine wv_elem (d := 9) ?hd ?hw 5 ag_u8 (.tmp 8) ?ho ⟨g2, 0, none⟩ ?hx (.int .u8 168) ?hg ?_); (case hd => rfl); (case hw => kernel_rfl); (case ho => rfl); (case hx => first | rfl | kernel_rfl); (case hg => exact KC.out.cell T0.out); simp only [Act.put, List.setIfInBounds_toArray, List.set_cons_succ, List.set_cons_zero]) | ((with_reducible refine wv_elem (d := 13) ?hd ?hw 5 ag_u8 (.tmp 12) ?ho ⟨g2, 1, none⟩ ?hx (.int .u8 6) ?hg ?_); (case hd => rfl); (case hw => kernel_rfl); (case ho => rfl); (case hx => first | rfl | kernel_rfl); (case hg => exact KC.out.cell T1.out); simp only [Act.put, List.setIfInBounds_toArray, List.set_cons_succ, List.set_cons_zero]) | ((with_reducible refine wv_elem (d := 18) ?hd ?hw 5 ag_u8 (.tmp 17) ?ho ⟨g2, 15, none⟩ ?hx (.int .u8 169) ?hg ?_); (case hd => rfl); (case hw => kernel_rfl); (case ho => rfl); (case hx => first | rfl | kernel_rfl); (case hg => exact KC.out.cell T15.out); simp only [Act.put, List.setIfInBounds_toArray, List.set_cons_succ, List.set_cons_zero]))
  intro w7 CA GA
  have QA : Below w.heap.size w w7 := (Q6.alloc Q6.size _).trans (grown_mono GA (by simp; have := Q6.size; omega) (fun b hb => by cases hb; exact Q6.size))
  have szA : w6.heap.size < w7.heap.size := by have := GA.size; simp at this; omega
  clear GA
  go_wp2_with (first | ((with_reducible refine wl_conv (d := 32) ?hd ?hw 23 5 (.tmp 31) ?ho _ ?hx Try.underlying23 Try.underlying5 AC (NAC.out w7) ?_); (case hd => rfl); (case hw => kernel_rfl); (case ho => rfl); (case hx => rfl)))
  intro w8 CB GB
  have Q8 : Below w.heap.size w w8 := (QA.alloc QA.size _).trans (grown_mono GB (by simp; have := QA.size; omega) (fun b hb => by cases hb; exact QA.size))
  have CA2 : Const 5 .u8 AB (.slice (some ⟨w6.heap.size, 0, none⟩) 2 2) w8 := (CA.alloc _).keeps GB (.inr fun e => by simp [blkOf] at e; omega)
  have CE : Kept (Calls Try.prog 12 #[.slice (some ⟨w6.heap.size, 0, none⟩) 2 2, .slice (some ⟨w7.heap.size, 0, none⟩) 2 2] w8 fun e w' => e = .returned (.bool false) ∧ Below w8.heap.size w8 w') := ⟨by have h := EqualD AB AC _ _ w8 YAB.out YAC.out CA2.ints CB.ints (by rw [LAB.out]; decide); rw [decide_eq_false NE.out] at h; exact h⟩
  clear CA CB GB CA2 QA szA
  go_wp2_with fail
  refine CE.out.mono ?_
  rintro e w9 ⟨rfl, hb9⟩
  have Q9 := Q8.trans (hb9.mono Q8.size)
  clear Q6 Q8 hb9 CE
  have V0 : BytesV (.slice none 0 0) w9 [] := ⟨none, 0, rfl, Nat.le_refl _, fun h => absurd rfl h⟩
  have CN : Kept (Calls Try.prog 12 #[.slice none 0 0, .slice none 0 0] w9 fun e w' => e = .returned (.bool true) ∧ Below w9.heap.size w9 w') := ⟨EqualD [] [] _ _ w9 nil_bytes nil_bytes V0 V0 (by decide)⟩
  go_wp2_with fail
  refine CN.out.mono ?_
  rintro e w10 ⟨rfl, hb10⟩
  have Q10 := Q9.trans (hb10.mono Q9.size)
  go_wp2_with fail
  go_ret
  exact ⟨rfl, Q10⟩
end Go.Proofs.Ytfcinakpdnblfaa.sh
