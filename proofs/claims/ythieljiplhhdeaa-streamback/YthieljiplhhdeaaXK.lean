/-
  The answers that the document fixes.
-/
import Derived.Test.YthieljiplhhdeaaXJ
namespace Go.Proofs.Ythieljiplhhdeaa.sh
open Go Go.RowKit
set_option linter.unusedVariables false
set_option linter.unusedSimpArgs false

def keyF : List Nat := List.range 32
def nonF : List Nat := [0, 0, 0, 9, 0, 0, 0, 74, 0, 0, 0, 0]
theorem keyF_len : keyF.length = 32 := rfl
theorem keyF_bytes : Bytes keyF := fun i x hx => by
  unfold keyF at hx
  have := List.mem_of_getElem? hx
  simp at this
  omega
theorem nonF_bytes : Bytes nonF := fun i x hx => by
  have h : ∀ y ∈ nonF, y < 256 := by decide
  exact h x (List.mem_of_getElem? hx)
theorem fixed_block : (blockL keyF nonF 1).take 4 = [16, 241, 231, 228] := by kernel_rfl
theorem fixed_enc : encL keyF nonF 1 [0, 0] = [16, 241] := by kernel_rfl
theorem nonF_val (w : World) : (Instr.build 23 #[(3, .int .u8 9), (7, .int .u8 74)]).run Try.prog w = .ok (.agg (ints .u8 nonF)) w := by kernel_rfl
theorem z32_eq : (#[.int .u8 0, .int .u8 0, .int .u8 0, .int .u8 0, .int .u8 0, .int .u8 0, .int .u8 0, .int .u8 0, .int .u8 0, .int .u8 0, .int .u8 0, .int .u8 0, .int .u8 0, .int .u8 0, .int .u8 0, .int .u8 0, .int .u8 0, .int .u8 0, .int .u8 0, .int .u8 0, .int .u8 0, .int .u8 0, .int .u8 0, .int .u8 0, .int .u8 0, .int .u8 0, .int .u8 0, .int .u8 0, .int .u8 0, .int .u8 0, .int .u8 0, .int .u8 0] : Array Value) = ints .u8 (List.replicate 32 0) := by kernel_rfl
theorem run_c38 {o : Oper} {a : Act} {x : Operand} {z : Nat} (ho : o.op = .convert 3 5 x) (hx : a.eval x = .int .i64 (z : Int)) (hz : z < 256) (w : World) : (execOp a.eval o).run Try.prog w = .ok (.value (.int .u8 (z : Int))) w := run_conv38 ho hx (by omega) w
theorem run_eqC {o : Oper} {a : Act} {x : Operand} {k : IntKind} {t u : TypeId} {z : Nat} (ho : o.op = .binOp .eql t x (.const (.int k (z : Int))) u) (hx : a.eval x = .int k (z : Int)) (ht : Try.prog.underlying t = some (.int k)) (w : World) : (execOp a.eval o).run Try.prog w = .ok (.value (.bool true)) w := by
  have e3 : a.eval (.const (.int k (z : Int))) = .int k (z : Int) := rfl
  unfold execOp
  simp only [ho, hx, e3]
  simp [go_sem]

set_option maxRecDepth 100000 in
set_option maxHeartbeats 2000000 in
theorem alive5_any (w : World) : Calls Try.prog 8 #[] w fun e w' => e = .returned (.bool true) ∧ Below w.heap.size w w' := by
  obtain ⟨L, hL⟩ : ∃ L, L = keyF := ⟨_, rfl⟩
  obtain ⟨Z, hZ⟩ : ∃ Z, Z = List.replicate 32 0 := ⟨_, rfl⟩
  obtain ⟨NF, hNF⟩ : ∃ Z, Z = nonF := ⟨_, rfl⟩
  have LL : Kept (L.length = 32) := ⟨by rw [hL]; rfl⟩
  have LZ : Kept (Z.length = 32) := ⟨by rw [hZ]; rfl⟩
  have EL : Kept _ := ⟨hL⟩
  have HN : Kept (∀ {o : Oper} {a : Act}, o.op = .build 23 #[(3, .const (.int .u8 9)), (7, .const (.int .u8 74))] → ∀ w, (execOp a.eval o).run Try.prog w = .ok (.value (.agg (ints .u8 NF))) w) := ⟨fun {o a} ho w => by
    have e3 : a.eval (.const (.int .u8 9)) = .int .u8 9 := rfl
    have e4 : a.eval (.const (.int .u8 74)) = .int .u8 74 := rfl
    unfold execOp
    simp only [ho]
    simp [e3, e4, go_sem]
    rw [hNF]
    rfl⟩
  have CB : Kept (∀ w', Calls Try.prog 11 #[.agg (ints .u8 L), .agg (ints .u8 NF), .int .u32 1] w' fun e w2 => (∃ K, e = .returned (.agg (ints .u8 K)) ∧ K.take 4 = [16, 241, 231, 228] ∧ K.length = 64) ∧ Below w'.heap.size w' w2) := ⟨fun w' => by
    rw [hL, hNF]
    refine (Block_any keyF nonF 1 w' keyF_len keyF_bytes rfl nonF_bytes (by decide)).mono ?_
    rintro e w2 ⟨rfl, hb⟩
    exact ⟨⟨_, rfl, fixed_block, blockL_len _ _ _⟩, hb⟩⟩
  have CX : Kept (∀ w' v, BytesV v w' [0, 0] → Calls Try.prog 9 #[.agg (ints .u8 L), .agg (ints .u8 NF), .int .u32 1, v] w' fun e w2 => ∃ v, e = .returned (.tuple #[v, .int .i64 0]) ∧ BytesV v w2 [16, 241] ∧ Below w'.heap.size w' w2) := ⟨fun w' v hv => by
    rw [hL, hNF]
    refine (Xor_ok keyF nonF [0, 0] 1 v w' keyF_len keyF_bytes rfl nonF_bytes (bytes_zero 2) hv (by decide) (by decide) (by decide)).mono ?_
    rintro e w2 ⟨v, rfl, hr, hb⟩
    rw [fixed_enc] at hr
    exact ⟨v, rfl, row_bytes hr, hb⟩⟩
  have A0 : Blk (w.alloc (.cells #[.int .u8 0, .int .u8 0, .int .u8 0, .int .u8 0, .int .u8 0, .int .u8 0, .int .u8 0, .int .u8 0, .int .u8 0, .int .u8 0, .int .u8 0, .int .u8 0, .int .u8 0, .int .u8 0, .int .u8 0, .int .u8 0, .int .u8 0, .int .u8 0, .int .u8 0, .int .u8 0, .int .u8 0, .int .u8 0, .int .u8 0, .int .u8 0, .int .u8 0, .int .u8 0, .int .u8 0, .int .u8 0, .int .u8 0, .int .u8 0, .int .u8 0, .int .u8 0] 22)) w.heap.size 22 (ints .u8 (mix L Z 0)) := by rw [mix_zero, hZ, ← z32_eq]; exact blk_new _ _ _
  have Q0 : Below w.heap.size w (w.alloc (.cells #[.int .u8 0, .int .u8 0, .int .u8 0, .int .u8 0, .int .u8 0, .int .u8 0, .int .u8 0, .int .u8 0, .int .u8 0, .int .u8 0, .int .u8 0, .int .u8 0, .int .u8 0, .int .u8 0, .int .u8 0, .int .u8 0, .int .u8 0, .int .u8 0, .int .u8 0, .int .u8 0, .int .u8 0, .int .u8 0, .int .u8 0, .int .u8 0, .int .u8 0, .int .u8 0, .int .u8 0, .int .u8 0, .int .u8 0, .int .u8 0, .int .u8 0, .int .u8 0] 22)) := (Below.refl _ _).alloc (Nat.le_refl _) _
  clear hL hZ hNF
  go_enter Try.func8, Try.ntmps8
  go_wp2_with fail
  generalize hW : w.alloc (.cells #[.int .u8 0, .int .u8 0, .int .u8 0, .int .u8 0, .int .u8 0, .int .u8 0, .int .u8 0, .int .u8 0, .int .u8 0, .int .u8 0, .int .u8 0, .int .u8 0, .int .u8 0, .int .u8 0, .int .u8 0, .int .u8 0, .int .u8 0, .int .u8 0, .int .u8 0, .int .u8 0, .int .u8 0, .int .u8 0, .int .u8 0, .int .u8 0, .int .u8 0, .int .u8 0, .int .u8 0, .int .u8 0, .int .u8 0, .int .u8 0, .int .u8 0, .int .u8 0] 22) = wa at *
  clear hW
  go_loopg [6] 32 (fun k s6 wr => ∃ i : Nat, i + k = 32 ∧ s6 = .int .i64 (i : Int) ∧ Below w.heap.size w wr ∧ Blk wr w.heap.size 22 (ints .u8 (mix L Z i)))
  case atStart => exact ⟨0, by omega, rfl, Q0, A0⟩
  case round =>
    clear A0 Q0
    obtain ⟨i, hik, rfl, HB, A0⟩ := hrel
    by_cases hi : i < 32
    case pos =>
      have hi' : (i : Int) < 32 := by omega
      have GL : Kept (L[i]? = some i) := ⟨by rw [EL.out]; unfold keyF; exact List.getElem?_range hi⟩
      have LM : Kept (i < (ints .u8 (mix L Z i)).size) := ⟨by rw [ints_size, mix_len L Z i (by rw [LL.out, LZ.out]), LZ.out]; exact hi⟩
      go_wp2_with (first | ((with_reducible refine wv_val (d := 11) ?hd ?hw (.int .u8 (i : Int)) ?hr ?_); (case hd => rfl); (case hw => kernel_rfl); (case hr => intro w; exact run_c38 rfl (by kernel_rfl) (by omega) w); simp only [Act.put, List.setIfInBounds_toArray, List.set_cons_succ, List.set_cons_zero]) | ((with_reducible refine wv_val (d := 12) ?hd ?hw (.pointer (some ⟨w.heap.size, i, none⟩)) ?hr ?_); (case hd => rfl); (case hw => kernel_rfl); (case hr => intro w; exact run_idx rfl (by kernel_rfl) (by kernel_rfl) Try.underlying22 hi sz_u8 w); simp only [Act.put, List.setIfInBounds_toArray, List.set_cons_succ, List.set_cons_zero]) | (refine wl_setElem rfl 5 sz_u8 (.tmp 12) (.tmp 11) rfl w.heap.size i .u8 (i : Int) rfl rfl _ A0 LM.out ?_))
      intro w4 A4 P4
      rw [ints_set, mix_set L Z i i (by rw [LL.out, LZ.out]) GL.out] at A4
      have HB4 := HB.trans (P4.below (Nat.le_refl _))
      clear A0 HB P4 GL LM
      go_wp2_with fail
      go_roundg (gk - 1)
      case measure => omega
      case rel => exact ⟨i + 1, by omega, by simp, HB4, A4⟩
    case neg =>
      have hi' : ¬ (i : Int) < 32 := by omega
      rw [show mix L Z i = L by rw [show i = Z.length by rw [LZ.out]; omega]; exact mix_all L Z (by rw [LL.out, LZ.out])] at A0
      go_wp2_with (first | (refine wl_load rfl 22 (.tmp 1) rfl w.heap.size rfl (ints .u8 L) 32 5 Try.underlying22 (by rw [ints_size, LL.out]; exact t32_info) A0 ?_) | ((with_reducible refine wv_val (d := 15) ?hd ?hw (.agg (ints .u8 NF)) ?hr ?_); (case hd => rfl); (case hw => kernel_rfl); (case hr => intro w; exact HN.out rfl w); simp only [Act.put, List.setIfInBounds_toArray, List.set_cons_succ, List.set_cons_zero]))
      refine (CB.out _).mono ?_
      rintro e w1 ⟨⟨KB, rfl, hK4, hK64⟩, hb1⟩
      have B0 := A0.under hb1
      have Q1 := HB.trans (hb1.mono HB.size)
      have LK : Kept _ := ⟨hK64⟩
      have K4 : Kept _ := ⟨hK4⟩
      have sz1 : w.heap.size < w1.heap.size := B0.lt
      clear A0 HB hb1 CB hK4 hK64
      go_wp2_with (first | (refine wl_store rfl 34 (.tmp 3) (.tmp 16) rfl w1.heap.size (ints .u8 KB) rfl rfl _ (blk_new w1 _ _) (by rw [ints_size, LK.out]; exact i64_inf2) (by rw [ints_size, LK.out]; rfl) (ints_one _ _) ?_))
      intro w2 B3 P2
      have B0' := P2.blk (B0.alloc _) (by omega)
      have Q2 := (Q1.alloc Q1.size _).trans (P2.below (by omega))
      generalize hg3 : w1.heap.size = g3 at *
      clear B0 Q1 P2
      go_wp2_with (first | (refine wl_load rfl 22 (.tmp 1) rfl w.heap.size rfl (ints .u8 L) 32 5 Try.underlying22 (by rw [ints_size, LL.out]; exact t32_info) B0' ?_) | ((with_reducible refine wv_val (d := 19) ?hd ?hw (.agg (ints .u8 NF)) ?hr ?_); (case hd => rfl); (case hw => kernel_rfl); (case hr => intro w; exact HN.out rfl w); simp only [Act.put, List.setIfInBounds_toArray, List.set_cons_succ, List.set_cons_zero]))
      have V2 : Kept (BytesV (.slice (some ⟨w2.heap.size, 0, none⟩) 2 2) (w2.alloc (.cells #[.int .u8 0, .int .u8 0] 5)) [0, 0]) := ⟨arr_bytes (l := [0, 0]) (blk_new w2 5 _) rfl⟩
      refine (CX.out _ _ V2.out).mono ?_
      rintro e w4 ⟨v, rfl, hv, hb4⟩
      have C3 := (B3.alloc _).under hb4
      have Q4 := (Q2.alloc Q2.size _).trans (hb4.mono (Q2.alloc Q2.size _).size)
      obtain ⟨p, c, rfl, hlc, hp⟩ := hv
      obtain ⟨A, rfl, hA, hcs⟩ := hp (by simp)
      have C0 : Kept (w4.cell? (A.add 0) = some (.int .u8 16)) := ⟨hcs 0 16 rfl⟩
      have C1 : Kept (w4.cell? (A.add 1) = some (.int .u8 241)) := ⟨hcs 1 241 rfl⟩
      have g0 : Kept ((ints .u8 KB)[0]? = some (.int .u8 16)) := ⟨ints_get (n := 16) (by rw [← List.getElem?_take_of_lt (show 0 < 4 by decide), K4.out]; rfl)⟩
      have g1 : Kept ((ints .u8 KB)[1]? = some (.int .u8 241)) := ⟨ints_get (n := 241) (by rw [← List.getElem?_take_of_lt (show 1 < 4 by decide), K4.out]; rfl)⟩
      have g2 : Kept ((ints .u8 KB)[2]? = some (.int .u8 231)) := ⟨ints_get (n := 231) (by rw [← List.getElem?_take_of_lt (show 2 < 4 by decide), K4.out]; rfl)⟩
      have g3' : Kept ((ints .u8 KB)[3]? = some (.int .u8 228)) := ⟨ints_get (n := 228) (by rw [← List.getElem?_take_of_lt (show 3 < 4 by decide), K4.out]; rfl)⟩
      have KC : Kept _ := ⟨C3⟩
      clear hcs hlc hA hp B0' B3 Q2 hb4 V2 CX C3 hg3
      go_wp2_with (first | ((with_reducible refine wv_elem (d := 25) ?hd ?hw 5 ag_u8 (.tmp 24) ?ho (⟨g3, 0, none⟩) ?hx (.int .u8 16) ?hc ?_); (case hd => rfl); (case hw => kernel_rfl); (case ho => rfl); (case hx => kernel_rfl); (case hc => exact KC.out.cell g0.out); simp only [Act.put, List.setIfInBounds_toArray, List.set_cons_succ, List.set_cons_zero]) | ((with_reducible refine wv_elem (d := 29) ?hd ?hw 5 ag_u8 (.tmp 28) ?ho (⟨g3, 1, none⟩) ?hx (.int .u8 241) ?hc ?_); (case hd => rfl); (case hw => kernel_rfl); (case ho => rfl); (case hx => kernel_rfl); (case hc => exact KC.out.cell g1.out); simp only [Act.put, List.setIfInBounds_toArray, List.set_cons_succ, List.set_cons_zero]) | ((with_reducible refine wv_elem (d := 34) ?hd ?hw 5 ag_u8 (.tmp 33) ?ho (⟨g3, 2, none⟩) ?hx (.int .u8 231) ?hc ?_); (case hd => rfl); (case hw => kernel_rfl); (case ho => rfl); (case hx => kernel_rfl); (case hc => exact KC.out.cell g2.out); simp only [Act.put, List.setIfInBounds_toArray, List.set_cons_succ, List.set_cons_zero]) | ((with_reducible refine wv_elem (d := 39) ?hd ?hw 5 ag_u8 (.tmp 38) ?ho (⟨g3, 3, none⟩) ?hx (.int .u8 228) ?hc ?_); (case hd => rfl); (case hw => kernel_rfl); (case ho => rfl); (case hx => kernel_rfl); (case hc => exact KC.out.cell g3'.out); simp only [Act.put, List.setIfInBounds_toArray, List.set_cons_succ, List.set_cons_zero]) | ((with_reducible refine wv_val (d := 53) ?hd ?hw (.pointer (some (A.add 0))) ?hr ?_); (case hd => rfl); (case hw => kernel_rfl); (case hr => intro w; exact run_idxS (i := 0) (l := 2) rfl (by kernel_rfl) (by kernel_rfl) Try.underlying27 (by decide) sz_u8 w); simp only [Act.put, List.setIfInBounds_toArray, List.set_cons_succ, List.set_cons_zero]) | ((with_reducible refine wv_val (d := 59) ?hd ?hw (.pointer (some (A.add 1))) ?hr ?_); (case hd => rfl); (case hw => kernel_rfl); (case hr => intro w; exact run_idxS (i := 1) (l := 2) rfl (by kernel_rfl) (by kernel_rfl) Try.underlying27 (by decide) sz_u8 w); simp only [Act.put, List.setIfInBounds_toArray, List.set_cons_succ, List.set_cons_zero]) | ((with_reducible refine wv_elem (d := 54) ?hd ?hw 5 ag_u8 (.tmp 53) ?ho (A.add 0) ?hx (.int .u8 16) ?hc ?_); (case hd => rfl); (case hw => kernel_rfl); (case ho => rfl); (case hx => kernel_rfl); (case hc => exact C0.out); simp only [Act.put, List.setIfInBounds_toArray, List.set_cons_succ, List.set_cons_zero]) | ((with_reducible refine wv_elem (d := 60) ?hd ?hw 5 ag_u8 (.tmp 59) ?ho (A.add 1) ?hx (.int .u8 241) ?hc ?_); (case hd => rfl); (case hw => kernel_rfl); (case ho => rfl); (case hx => kernel_rfl); (case hc => exact C1.out); simp only [Act.put, List.setIfInBounds_toArray, List.set_cons_succ, List.set_cons_zero]))
      go_ret
      exact ⟨rfl, Q4⟩
end Go.Proofs.Ythieljiplhhdeaa.sh
