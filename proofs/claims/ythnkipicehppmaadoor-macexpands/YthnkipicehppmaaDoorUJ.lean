/-
  The answers that the document fixes for layer 4 are as they must be.
-/
import Derived.Test.YthnkipicehppmaaDoorUI
namespace Go.Proofs.YthnkipicehppmaaDoor.sh
open Go Go.RowKit
set_option linter.unusedVariables false
set_option linter.unusedSimpArgs false

theorem mac_jefe : macL [74, 101, 102, 101] [119, 104, 97, 116, 32, 100, 111, 32, 121, 97, 32, 119, 97, 110, 116, 32, 102, 111, 114, 32, 110, 111, 116, 104, 105, 110, 103, 63] = [91, 220, 193, 70, 191, 96, 117, 78, 106, 4, 36, 38, 8, 149, 117, 199, 90, 0, 63, 8, 157, 39, 57, 131, 157, 236, 88, 185, 100, 236, 56, 67] := by kernel_rfl
/-- A constant's bytes, marked, in a plain region. -/
theorem wl_conv {ops : Array Oper} {rest : List Oper} {o : Oper} {a : Act} {w : World} {Q : Exit → Act → World → Prop} {d : Nat} (hd : o.dst = some d) (hw : Region.wanted o (yielded ops a.tmps) = true) (t e : TypeId) (x : Operand) (ho : o.op = .convert t t x) (v : Value) (hx : a.eval x = v) (ht : Tryd.prog.underlying t = some (.slice e)) (he : Tryd.prog.underlying e = some (.int .u8)) (l : List Nat) (h : Const e .u8 l v w)
    (hk : ∀ w', Const e .u8 l v w' → w.grownBy w' (blkOf v) → wpList Tryd.prog ops Q rest (a.put o.dst v) w') : wpList Tryd.prog ops Q (o :: rest) a w :=
  BigFrame.wpList_want hw fun K hK => by
    obtain ⟨w', h4, h5, h6⟩ := conv_const ht he h
    unfold Oper.wp
    rw [run_conv ho hx h4]
    exact hK _ _ (hk w' h5 h6)
theorem Const.new {w : World} {e : TypeId} {k : IntKind} {l : List Nat} {n : Nat} (hn : l.length = n) : Const e k l (.slice (some ⟨w.heap.size, 0, none⟩) n n) (w.alloc (.cells (sh.ints k l) e)) := by subst hn; exact ⟨w.heap.size, (0, 0), rfl, heap_new w _⟩
theorem Const.alloc {w : World} {e : TypeId} {k : IntKind} {l : List Nat} {v : Value} (h : Const e k l v w) (o : Obj) : Const e k l v (w.alloc o) := by
  obtain ⟨g, fr, rfl, h2⟩ := h
  exact ⟨g, fr, rfl, (Below.heap_alloc w o g (Array.getElem?_eq_some_iff.1 h2).1).trans h2⟩
theorem jefe_bytes : Bytes [74, 101, 102, 101] := fun i x hx => by
  have : x ∈ [74, 101, 102, 101] := List.mem_of_getElem? hx
  revert x
  intro x _ hx
  simp at hx
  omega
theorem want_bytes : Bytes [119, 104, 97, 116, 32, 100, 111, 32, 121, 97, 32, 119, 97, 110, 116, 32, 102, 111, 114, 32, 110, 111, 116, 104, 105, 110, 103, 63] := fun i x hx => by
  have : x ∈ [119, 104, 97, 116, 32, 100, 111, 32, 121, 97, 32, 119, 97, 110, 116, 32, 102, 111, 114, 32, 110, 111, 116, 104, 105, 110, 103, 63] := List.mem_of_getElem? hx
  simp at this
  omega

set_option maxRecDepth 100000 in
set_option maxHeartbeats 4000000 in
theorem alive4_any (w : World) (hr : RootsAt w) :
    Calls Tryd.prog 10 #[] w fun e w' => e = .returned (.bool true) ∧ Below w.heap.size w w' := by
  obtain ⟨J, hJ⟩ : ∃ J, J = [74, 101, 102, 101] := ⟨_, rfl⟩
  obtain ⟨M, hM⟩ : ∃ M, M = [119, 104, 97, 116, 32, 100, 111, 32, 121, 97, 32, 119, 97, 110, 116, 32, 102, 111, 114, 32, 110, 111, 116, 104, 105, 110, 103, 63] := ⟨_, rfl⟩
  obtain ⟨L, hL⟩ : ∃ L, L = macL J M := ⟨_, rfl⟩
  have hLL : L = [91, 220, 193, 70, 191, 96, 117, 78, 106, 4, 36, 38, 8, 149, 117, 199, 90, 0, 63, 8, 157, 39, 57, 131, 157, 236, 88, 185, 100, 236, 56, 67] := by rw [hL, hJ, hM]; exact mac_jefe
  have LL : Kept (L.length = 32) := ⟨by rw [hLL]; rfl⟩
  have YL : Kept (Bytes L) := ⟨by rw [hL]; exact macL_bytes _ _⟩
  have K0 : Kept ((ints .u8 L)[0]? = some (.int .u8 91)) := ⟨by rw [hLL]; rfl⟩
  have K1 : Kept ((ints .u8 L)[1]? = some (.int .u8 220)) := ⟨by rw [hLL]; rfl⟩
  have K3 : Kept ((ints .u8 L)[31]? = some (.int .u8 67)) := ⟨by rw [hLL]; rfl⟩
  have EL : Kept _ := ⟨hL⟩
  have LJ : Kept (J.length = 4) := ⟨by rw [hJ]; rfl⟩
  have LM : Kept (M.length = 28) := ⟨by rw [hM]; rfl⟩
  have YJ : Kept (Bytes J) := ⟨by rw [hJ]; exact jefe_bytes⟩
  have YM : Kept (Bytes M) := ⟨by rw [hM]; exact want_bytes⟩
  have CJ : Kept (#[.int .u8 74, .int .u8 101, .int .u8 102, .int .u8 101] = ints .u8 J) := ⟨by rw [hJ]; rfl⟩
  have CM : Kept (#[.int .u8 119, .int .u8 104, .int .u8 97, .int .u8 116, .int .u8 32, .int .u8 100, .int .u8 111, .int .u8 32, .int .u8 121, .int .u8 97, .int .u8 32, .int .u8 119, .int .u8 97, .int .u8 110, .int .u8 116, .int .u8 32, .int .u8 102, .int .u8 111, .int .u8 114, .int .u8 32, .int .u8 110, .int .u8 111, .int .u8 116, .int .u8 104, .int .u8 105, .int .u8 110, .int .u8 103, .int .u8 63] = ints .u8 M) := ⟨by rw [hM]; rfl⟩
  have KR : Kept _ := ⟨hr⟩
  have N1 : Kept (∀ w : World, Const 5 .u8 J (.slice (some ⟨w.heap.size, 0, none⟩) 4 4) (w.alloc (.cells #[.int .u8 74, .int .u8 101, .int .u8 102, .int .u8 101] 5))) := ⟨fun w => by rw [CJ.out]; exact Const.new LJ.out⟩
  have N2 : Kept (∀ w : World, Const 5 .u8 M (.slice (some ⟨w.heap.size, 0, none⟩) 28 28) (w.alloc (.cells #[.int .u8 119, .int .u8 104, .int .u8 97, .int .u8 116, .int .u8 32, .int .u8 100, .int .u8 111, .int .u8 32, .int .u8 121, .int .u8 97, .int .u8 32, .int .u8 119, .int .u8 97, .int .u8 110, .int .u8 116, .int .u8 32, .int .u8 102, .int .u8 111, .int .u8 114, .int .u8 32, .int .u8 110, .int .u8 111, .int .u8 116, .int .u8 104, .int .u8 105, .int .u8 110, .int .u8 103, .int .u8 63] 5))) := ⟨fun w => by rw [CM.out]; exact Const.new LM.out⟩
  clear hL hJ hM hLL CJ CM hr
  go_enter Tryd.func10, Tryd.ntmps10
  go_wp2_with (first | (refine wl_conv (d := 7) rfl rfl 22 5 (.tmp 6) rfl _ rfl Tryd.underlying22 Tryd.underlying5 J (N1.out w) ?_))
  intro w1 C1 G1
  have Q1 : Below w.heap.size w w1 := ((Below.refl _ _).alloc (Nat.le_refl _) _).trans (grown_mono G1 (by simp) (fun b hb => by cases hb; exact Nat.le_refl _))
  have sz1 : w.heap.size < w1.heap.size := by have := G1.size; simp at this; omega
  clear G1
  go_wp2_with (first | (refine wl_conv (d := 9) rfl rfl 22 5 (.tmp 8) rfl _ rfl Tryd.underlying22 Tryd.underlying5 M (N2.out w1) ?_))
  intro w2 C2 G2
  have Q2 : Below w.heap.size w w2 := (Q1.alloc Q1.size _).trans (grown_mono G2 (by simp; have := Q1.size; omega) (fun b hb => by cases hb; exact Q1.size))
  have C12 : Const 5 .u8 J (.slice (some ⟨w.heap.size, 0, none⟩) 4 4) w2 := (C1.alloc _).keeps G2 (.inr fun e => by simp [blkOf] at e; omega)
  have CC : Kept (Calls Tryd.prog 12 #[.slice (some ⟨w.heap.size, 0, none⟩) 4 4, .slice (some ⟨w1.heap.size, 0, none⟩) 28 28] w2 fun e w' => e = .returned (.agg (ints .u8 L)) ∧ Below w2.heap.size w2 w') := ⟨by
    rw [EL.out]
    exact mSum_any J M _ _ w2 YJ.out (by rw [LJ.out]; decide) YM.out (by rw [LM.out]; decide) (KR.out.below KR.out.1 Q2) C12.ints C2.ints⟩
  clear G2 C1 C2 C12 Q1 N1 N2
  go_wp2_with fail
  refine CC.out.mono ?_
  rintro e w3 ⟨rfl, hb3⟩
  have Q3 := Q2.trans (hb3.mono Q2.size)
  clear hb3 Q2 CC
  go_wp2_with (first | (refine wl_store rfl 24 (.tmp 1) (.tmp 10) rfl w3.heap.size (ints .u8 L) rfl rfl _ (blk_new w3 _ _) (by rw [ints_size, LL.out]; exact t32_info) (by rw [ints_size, LL.out]; rfl) (ints_one _ _) ?_))
  intro w4 A4 P4
  have Q4 := (Q3.alloc Q3.size _).trans (P4.below Q3.size)
  generalize hg1 : w3.heap.size = g1 at *
  clear P4 Q3 hg1
  have CE : Kept (Calls Tryd.prog 14 #[.agg (ints .u8 L), .slice none 0 0, .int .i64 33] w4 fun e w' => ∃ v, e = .returned (.tuple #[v, .int .i64 0]) ∧ Row w4.heap.size 5 .u8 (expL L [] 33) v w' ∧ Below w4.heap.size w4 w') := ⟨Expand_ok L [] 33 (.slice none 0 0) w4 LL.out YL.out nil_bytes (by decide) (by decide) (KR.out.below KR.out.1 Q4) ⟨none, 0, rfl, Nat.le_refl _, fun h => absurd rfl h⟩⟩
  go_wp2_with (first | ((with_reducible refine wv_row (d := 12) ?hd ?hw 24 (.tmp 1) ?ho (g1) ?hx (t' := 24) (ints .u8 L) _ _ Tryd.underlying24 ?hs ?hg ?_); (case hd => rfl); (case hw => kernel_rfl); (case ho => rfl); (case hx => kernel_rfl); (case hs => rw [ints_size, LL.out]; exact t32_info); (case hg => exact A4); simp only [Act.put, List.setIfInBounds_toArray, List.set_cons_succ, List.set_cons_zero]))
  refine CE.out.mono ?_
  rintro e w5 ⟨v, rfl, RX, hb5⟩
  obtain ⟨p, c, ev, _, _⟩ := row_cells RX
  rw [expL_len L [] 33 (by decide)] at ev
  subst ev
  have A5 := A4.under hb5
  have Q5 := Q4.trans (hb5.mono Q4.size)
  clear RX hb5 A4 Q4 CE
  go_wp2_with (first | ((with_reducible refine wv_row (d := 17) ?hd ?hw 24 (.tmp 1) ?ho (g1) ?hx (t' := 24) (ints .u8 L) _ _ Tryd.underlying24 ?hs ?hg ?_); (case hd => rfl); (case hw => kernel_rfl); (case ho => rfl); (case hx => kernel_rfl); (case hs => rw [ints_size, LL.out]; exact t32_info); (case hg => exact A5); simp only [Act.put, List.setIfInBounds_toArray, List.set_cons_succ, List.set_cons_zero]))
  refine (Keys_bad (ints .u8 L) 4 (.slice none 0 0) w5 (.inr (by decide))).mono ?_
  rintro e w6 ⟨rfl, hb6⟩
  have A6 := A5.under hb6
  have Q6 := Q5.trans (hb6.mono Q5.size)
  clear A5 Q5 hb6
  go_wp2_with (first | ((with_reducible refine wv_elem (d := 22) ?hd ?hw 5 ag_u8 (.tmp 21) ?ho ⟨g1, 0, none⟩ ?hx (.int .u8 91) ?hg ?_); (case hd => rfl); (case hw => kernel_rfl); (case ho => rfl); (case hx => first | rfl | kernel_rfl); (case hg => exact A6.cell K0.out); simp only [Act.put, List.setIfInBounds_toArray, List.set_cons_succ, List.set_cons_zero]) | ((with_reducible refine wv_elem (d := 26) ?hd ?hw 5 ag_u8 (.tmp 25) ?ho ⟨g1, 1, none⟩ ?hx (.int .u8 220) ?hg ?_); (case hd => rfl); (case hw => kernel_rfl); (case ho => rfl); (case hx => first | rfl | kernel_rfl); (case hg => exact A6.cell K1.out); simp only [Act.put, List.setIfInBounds_toArray, List.set_cons_succ, List.set_cons_zero]) | ((with_reducible refine wv_elem (d := 31) ?hd ?hw 5 ag_u8 (.tmp 30) ?ho ⟨g1, 31, none⟩ ?hx (.int .u8 67) ?hg ?_); (case hd => rfl); (case hw => kernel_rfl); (case ho => rfl); (case hx => first | rfl | kernel_rfl); (case hg => exact A6.cell K3.out); simp only [Act.put, List.setIfInBounds_toArray, List.set_cons_succ, List.set_cons_zero]))
  go_ret
  exact ⟨rfl, Q6⟩
end Go.Proofs.YthnkipicehppmaaDoor.sh
