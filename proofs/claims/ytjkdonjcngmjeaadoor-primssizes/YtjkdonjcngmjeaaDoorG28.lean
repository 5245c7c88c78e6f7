/-
  General pieces, joined: UX ZA ZB ZC ZD.
-/
import Derived.Test.YtjkdonjcngmjeaaDoorG27
import Derived.Test.YtjkdonjcngmjeaaDoorG17
import Derived.Test.YtjkdonjcngmjeaaDoorG20
import Derived.Test.YtjkdonjcngmjeaaDoorG18
import Derived.Test.YtjkdonjcngmjeaaDoorG19
import Derived.Test.YtjkdonjcngmjeaaDoorG21
import Derived.Test.YtjkdonjcngmjeaaDoorG22
import Derived.Test.YtjkdonjcngmjeaaDoorG01
/-
  Keys of a key and bytes: mac.Keys, where it is not refused.
-/
namespace Go.Proofs.YtjkdonjcngmjeaaDoor.sh
open Go Go.RowKit Go.Shelf
set_option linter.unusedVariables false
set_option linter.unusedSimpArgs false

theorem zip_one (p : Nat) (v : Value) (T : Array Value) : Array.foldl (fun t (x : Nat × Value) => match x with | (p, v) => t.setIfInBounds p v) T (Array.zip #[p] #[v]) = T.setIfInBounds p v := by simp
def vals (pre : List K32) : List (List Nat) := pre.map (·.1)
theorem vals_snoc (pre : List K32) (x : K32) : vals (pre ++ [x]) = vals pre ++ [x.1] := by simp [vals]
theorem vals_len (pre : List K32) : (vals pre).length = pre.length := by simp [vals]
set_option maxRecDepth 100000 in
set_option maxHeartbeats 4000000 in
theorem Keys_ok (key b : List Nat) (n : Nat) (vb : Value) (w : World) (hk : key.length = 32) (hy : Bytes key) (hb : Bytes b) (hbn : b.length < 800000000) (h1 : 1 ≤ n) (h3 : n ≤ 3) (hr : RootsAt w) (hvb : BytesV vb w b) :
    Calls Tryd.prog 67 #[.agg (ints .u8 key), vb, .int .i64 (n : Int)] w fun e w' => ∃ v, e = .returned (.tuple #[v, .int .i64 0]) ∧ KRow w.heap.size (keysL key b n) v w' ∧ Below w.heap.size w w' := by
  have KR : Kept _ := ⟨hr⟩
  have LK : Kept _ := ⟨hk⟩
  have YK : Kept _ := ⟨hy⟩
  have YB : Kept _ := ⟨hb⟩
  have NB : Kept _ := ⟨hbn⟩
  have KV : Kept _ := ⟨hvb⟩
  have h0 := hr.1
  obtain ⟨pb, cb, eb, _, _⟩ := hvb
  obtain ⟨nb, hnb⟩ : ∃ n, n = b.length := ⟨_, rfl⟩
  rw [← hnb] at eb
  subst eb
  obtain ⟨E, hE⟩ : ∃ E, E = macL key b := ⟨_, rfl⟩
  have EE : Kept _ := ⟨hE⟩
  have LE : Kept (E.length = 32) := ⟨by rw [hE]; exact macL_len _ _⟩
  have YE : Kept (Bytes E) := ⟨by rw [hE]; exact macL_bytes _ _⟩
  obtain ⟨M, hM⟩ : ∃ M, M = 32 * n := ⟨_, rfl⟩
  have EM : Kept _ := ⟨hM⟩
  have M96 : M ≤ 96 := by omega
  obtain ⟨X, hX⟩ : ∃ X, X = expL E [] M := ⟨_, rfl⟩
  have EX : Kept _ := ⟨hX⟩
  have LX : Kept (X.length = M) := ⟨by rw [hX]; exact expL_len _ _ _ (by omega)⟩
  have A0 : Blk (w.alloc (.cells (ints .u8 key) 22)) w.heap.size 22 (ints .u8 key) := blk_new w _ _
  have Q0 : Below w.heap.size w (w.alloc (.cells (ints .u8 key) 22)) := (Below.refl _ _).alloc (Nat.le_refl _) _
  obtain ⟨MC, hMC, hmk⟩ := run_makeK n (by omega) (w.alloc (.cells (ints .u8 key) 22))
  have MK : Kept (∀ {o : Oper} {a : Act}, o.op = .makeSlice 117 (.const (.int .i64 0)) (.tmp 16) → a.eval (.tmp 16) = .int .i64 (n : Int) → (execOp a.eval o).run Tryd.prog (w.alloc (.cells (ints .u8 key) 22)) = .ok (.value (.slice (some ⟨w.heap.size + 1, 0, none⟩) 0 n)) ((w.alloc (.cells (ints .u8 key) 22)).alloc (.cells MC 22))) := ⟨fun ho hx => by
    have e3 : ∀ a : Act, a.eval (.const (.int .i64 0)) = .int .i64 0 := fun _ => rfl
    unfold execOp
    simp only [ho, hx, e3]
    rw [World.size_alloc] at hmk
    simp [hmk]⟩
  have h1' : ¬ (n : Int) < 1 := by omega
  have h3' : ¬ (3 : Int) < (n : Int) := by omega
  have R17 : Kept (KRow w.heap.size [] (.slice (some ⟨w.heap.size + 1, 0, none⟩) 0 n) ((w.alloc (.cells (ints .u8 key) 22)).alloc (.cells MC 22))) := ⟨by
    have := krow_made (w.alloc (.cells (ints .u8 key) 22)) w.heap.size n MC hMC (by omega) Q0.size
    rwa [World.size_alloc] at this⟩
  clear hk hy hb hbn hr hE hM hX hnb hmk hMC
  refine (callsIn_wide (n := 5)).1 (callsIn_of_wp_marks Tryd.func67 rfl trivial (wpIn_wide.2 ?_))
  simp only [Tryd.ntmps67, List.size_toArray, List.length_cons, List.length_nil, Nat.reduceAdd, Nat.reduceSub, Array.replicate_succ, Array.replicate_zero, List.push_toArray, List.append_toArray, List.nil_append, List.cons_append]
  have A8 : Blk (((w.alloc (.cells (ints .u8 key) 22)).alloc (.cells MC 22)).alloc (.cells #[.slice none 0 0] 117)) (w.heap.size + 2) 117 #[.slice none 0 0] := blk_top _ _ _ _ (by simp)
  go_wp2_with (first | ((with_reducible refine wv_run (d := 17) ?hd ?hw (.slice (some ⟨w.heap.size + 1, 0, none⟩) 0 n) ((w.alloc (.cells (ints .u8 key) 22)).alloc (.cells MC 22)) ?hr ?_); (case hd => rfl); (case hw => kernel_rfl); (case hr => exact MK.out rfl (by kernel_rfl)); simp only [Act.put, List.setIfInBounds_toArray, List.set_cons_succ, List.set_cons_zero]) | (refine wl_setS rfl 117 sz_keys (.tmp 8) (.tmp 17) rfl (w.heap.size + 2) (some ⟨w.heap.size + 1, 0, none⟩) 0 n rfl rfl (.slice none 0 0) A8 ?_))
  intro w2 A82 P2
  have A2 : Blk w2 w.heap.size 22 (ints .u8 key) := P2.blk ((A0.alloc _).alloc _) (by omega)
  have Q2 : Below w.heap.size w w2 := (((Q0.alloc Q0.size _).alloc (by simp; omega) _)).trans (P2.below (by omega))
  have K2 : Kept (KRow w.heap.size [] (.slice (some ⟨w.heap.size + 1, 0, none⟩) 0 n) w2) := ⟨(R17.out.alloc _).keeps P2.grown (.inr (by simp [blkOf]))⟩
  have s2 := A82.lt
  clear A0 Q0 A8 P2 R17 MK
  go_wp2_with fail
  refine (mExtract_any key b _ _ w2 YK.out (by rw [LK.out]; decide) YB.out (by have := NB.out; omega) (KR.out.below h0 Q2) (arr_bytes A2 LK.out) (KV.out.under Q2)).mono ?_
  rintro e w3 ⟨rfl, hb3⟩
  rw [← EE.out]
  have A83 := A82.under hb3
  have Q3 := Q2.trans (hb3.mono Q2.size)
  have K3 : Kept _ := ⟨K2.out.under hb3⟩
  have s3 := Nat.lt_of_lt_of_le s2 hb3.size
  clear A2 A82 Q2 K2 hb3 s2
  go_wp2_with (first | ((with_reducible refine wv_val (d := 22) ?hd ?hw (.int .i64 (M : Int)) ?hr ?_); (case hd => rfl); (case hw => kernel_rfl); (case hr => intro w; exact run_mulV 32 rfl (by kernel_rfl) (by rw [EM.out, Nat.mul_comm]) (by omega) w); simp only [Act.put, List.setIfInBounds_toArray, List.set_cons_succ, List.set_cons_zero]))
  refine (expanded_any E [] M (.slice none 0 0) w3 LE.out YE.out nil_bytes (by decide) (by omega) (KR.out.below h0 Q3) ⟨none, 0, rfl, Nat.le_refl _, fun h => absurd rfl h⟩).mono ?_
  rintro e w4 ⟨v23, rfl, RX, hb4⟩
  rw [← EX.out] at RX
  obtain ⟨gx, cx, cur, e23, hgx, hBx, hsx, hcur⟩ := Row.form RX (by rw [LX.out]; have := EM.out; omega)
  have hcx : M ≤ cx := by
    obtain ⟨_, cx', e24, hl, _⟩ := row_cells RX
    rw [e23] at e24
    cases e24
    rw [← LX.out]
    exact hl
  rw [LX.out] at e23
  subst e23
  have A84 := A83.under hb4
  have Q4 := Q3.trans (hb4.mono Q3.size)
  have K4 : Kept _ := ⟨K3.out.under hb4⟩
  have KCU : Kept _ := ⟨hcur⟩
  have s4 := Nat.lt_of_lt_of_le s3 hb4.size
  clear RX A83 Q3 K3 hb4 hcur
  go_wp2_with fail
  refine (cut_any _ _ _ w4).mono ?_
  rintro e w5 ⟨rfl, rfl⟩
  have A85 := A84.alloc (.cells #[.slice (some ⟨gx, 0, none⟩) M cx] 32)
  have Q5 : Below w.heap.size w (w4.alloc (.cells #[.slice (some ⟨gx, 0, none⟩) M cx] 32)) := Q4.alloc Q4.size _
  have K5 : Kept (KRow w.heap.size [] (.slice (some ⟨w.heap.size + 1, 0, none⟩) 0 n) (w4.alloc (.cells #[.slice (some ⟨gx, 0, none⟩) M cx] 32))) := ⟨K4.out.alloc _⟩
  have hBx5 := hBx.alloc (.cells #[.slice (some ⟨gx, 0, none⟩) M cx] 32)
  have hBb5 : Blk (w4.alloc (.cells #[.slice (some ⟨gx, 0, none⟩) M cx] 32)) w4.heap.size 32 #[.slice (some ⟨gx, 0, none⟩) M cx] := blk_new w4 _ _
  have sL : (w4.alloc (.cells #[.slice (some ⟨gx, 0, none⟩) M cx] 32)).heap.size = w4.heap.size + 1 := by simp
  have gx4 := hBx.lt
  generalize hWL : w4.alloc (.cells #[.slice (some ⟨gx, 0, none⟩) M cx] 32) = wL at *
  generalize hgb : w4.heap.size = gb at *
  clear hWL hgb A84 Q4 K4 hBx hsx
  go_wp2_with fail
  have gxL : gx < wL.heap.size := hBx5.lt
  have gbL : gb < wL.heap.size := hBb5.lt
  have g8L : w.heap.size + 1 + 1 < wL.heap.size := A85.lt
  have hM32 : Kept (M = 32 * n) := ⟨EM.out⟩
  have hseq := cut1_stops 4 (by decide) gb n gx cx (by omega) X cur wL (by rw [← EM.out]; exact hBb5) (by rw [← EM.out]; exact hcx) (by rw [← EM.out]; exact LX.out) hBx5 KCU.out
  have hInv : OwnFrom wL.heap.size (fun (pre : List K32) (W : World) => (∃ v, Blk W (w.heap.size + 1 + 1) 117 #[v] ∧ KRow w.heap.size (vals pre) v W ∧ blkOf v ≠ some gx ∧ blkOf v ≠ some gb ∧ blkOf v ≠ some (w.heap.size + 1 + 1)) ∧ Below w.heap.size w W ∧ wL.heap.size ≤ W.heap.size) := by
    rintro pre W W' row ⟨⟨v, hB, hR, hne⟩, hb, hs⟩ hg hr
    refine ⟨⟨v, blk_own wL.heap.size _ _ _ () W W' row hB hg hr, hR.keeps hg ?_, hne⟩, hb.grown hg hb.size (fun k e => Nat.le_trans Q5.size (hr k e).1), Nat.le_trans hs hg.size⟩
    cases hbv : blkOf v with
    | none => exact .inl rfl
    | some bv =>
      refine .inr fun e => ?_
      obtain ⟨_, o, ho, hc⟩ := hr bv e.symm
      rcases hR.2 with ⟨rfl, _⟩ | ⟨g, cap, cu, rfl, _, hgb, _⟩
      · cases hbv
      · cases hbv
        rw [hgb] at ho
        cases ho
        cases hc
  refine (wpIn_wide (n := 5)).1 ?_
  refine wpIn_rangeFunc_ownH (F := Fence.wide) rfl (by decide) (gf := 73) (lb := #[.pointer (some ⟨gb, 0, none⟩)]) rfl trivial (enters_of Tryd.func73 (by kernel_rfl) rfl) hseq (fun h h' => h.trans h') (keep2_b gxL gbL) (Below.refl _ _) (fun _ => rfl)
    (fun (pre : List K32) (W : World) => (∃ v, Blk W (w.heap.size + 1 + 1) 117 #[v] ∧ KRow w.heap.size (vals pre) v W ∧ blkOf v ≠ some gx ∧ blkOf v ≠ some gb ∧ blkOf v ≠ some (w.heap.size + 1 + 1)) ∧ Below w.heap.size w W ∧ wL.heap.size ≤ W.heap.size) (fun _ _ _ => False) hInv (fun _ _ _ _ _ hs _ _ => hs) ⟨⟨_, A85, K5.out, by simp [blkOf]; omega, by simp [blkOf]; omega, by simp [blkOf]⟩, Q5, Nat.le_refl _⟩ (fun (x : K32) (a' : Act) (W : World) => ∃ Bx, Blk W Bx 22 (ints .u8 x.1) ∧ a' = { tmps := #[.agg (ints .u8 key), .slice pb nb cb, .int .i64 (n : Int), .pointer (some ⟨w.heap.size, 0, none⟩), undef, undef, .slice none 0 0, .int .i64 0, .pointer (some ⟨w.heap.size + 1 + 1, 0, none⟩), .pointer (some ⟨Bx, 0, none⟩), .int .i64 (n : Int), .bool false, .bool false, .int .i64 (n : Int), .bool false, .bool false, .int .i64 (n : Int), .slice (some ⟨w.heap.size + 1, 0, none⟩) 0 n, .slice (some ⟨w.heap.size, 0, none⟩) 32 32, .slice pb nb cb, .agg (ints .u8 E), .int .i64 (n : Int), .int .i64 (M : Int), .slice (some ⟨gx, 0, none⟩) M cx, .func (.func 73) #[] #[.pointer (some ⟨gb, 0, none⟩)], .agg (ints .u8 x.1), undef, undef, undef, undef, undef], defers := [] }) (fun x a' s W W' row hs hg hr => by
      obtain ⟨Bx, h1, h2⟩ := hs
      exact ⟨Bx, blk_own wL.heap.size _ _ _ () W W' row h1 hg hr, h2⟩) ?assign ?body ?done ?stop
  case stop =>
    rintro D c pre W _ _ h _
    exact h.elim
  case assign =>
    rintro l pre x W K hI hK
    refine region_round (fun h => by obtain ⟨_, _, h⟩ := h; exact h) rfl ?_
    simp only [zip_one, List.setIfInBounds_toArray, List.set_cons_succ, List.set_cons_zero]
    have LC : Kept (x.1.length = 32) := ⟨x.2⟩
    have KH : Kept _ := ⟨hI⟩
    clear hI
    go_wp2_with (first | (refine wl_store rfl 22 (.tmp 9) (.tmp 25) rfl W.heap.size (ints .u8 x.1) rfl rfl _ (blk_new W _ _) (by rw [ints_size, LC.out]; exact t32_info) (by rw [ints_size, LC.out]; rfl) (ints_one _ _) ?_))
    intro W' A' P'
    have hbW : Below W.heap.size W W' := ((Below.refl _ _).alloc (Nat.le_refl _) _).trans (P'.below (Nat.le_refl _))
    have kO : KeepsOthers W W' := (KeepsOthers.alloc _ _).trans (KeepsOthers.of_grownBy P'.grown (fun j o ej hj => by cases ej; rw [show (W.alloc _).heap[W.heap.size]? = _ from blk_new W _ _] at hj; cases hj; rfl))
    have hI' := hInv pre W W' none KH.out (grown_none hbW) (fun r e => by cases e)
    have hL := KH.out.2.2
    go_wp2
    exact hK _ _ (kO.from _) (Keep2.below hbW (by omega) (by omega)) hI' ⟨W.heap.size, A', rfl⟩
  case body =>
    rintro l pre x a' W hl _ ⟨⟨v, hB, hR, hn1, hn2, hn3⟩, hb, hs⟩ ⟨Bx, hBx, rfl⟩ hlt
    refine wpIn_block (region_round (fun h => by obtain ⟨_, _, h⟩ := h; exact h) rfl ?_)
    obtain ⟨p8, l8, c8, rfl⟩ : ∃ p l c, v = .slice p l c := by
      rcases hR.2 with ⟨rfl, _⟩ | ⟨g, cap, cu, rfl, _⟩ <;> exact ⟨_, _, _, rfl⟩
    have LC : Kept (x.1.length = 32) := ⟨x.2⟩
    have KI : Kept ((Tryd.prog.info? 22).map (·.size) = some (ints .u8 x.1).size) := ⟨by rw [ints_size, x.2]; exact t32_info⟩
    have KZ : Kept (((Tryd.prog.info? 22).bind (·.zero)).isSome = true) := ⟨by kernel_rfl⟩
    have s1 : Kept (0 < (ints .u8 x.1).size) := ⟨by rw [ints_size, x.2]; decide⟩
    have s2 : Kept ((ints .u8 x.1).size ≤ 1000) := ⟨by rw [ints_size, x.2]; decide⟩
    have RA : KRow w.heap.size (vals pre) (.slice p8 l8 c8) (W.alloc (.cells (ints .u8 x.1) 22)) := hR.alloc _
    have BA : Blk (W.alloc (.cells (ints .u8 x.1) 22)) W.heap.size 22 (ints .u8 x.1) := blk_new W _ _
    have nK : (vals pre).length < 1000000 := by rw [vals_len]; omega
    have hbA : w.heap.size ≤ (W.alloc (.cells (ints .u8 x.1) 22)).heap.size := by have := hb.size; simp; omega
    have hc8 := hB.cell (j := 0) rfl
    go_wp2_with (first | ((with_reducible refine wv_elem (d := 26) ?hd ?hw 117 ag_keys (.tmp 8) ?ho ⟨w.heap.size + 1 + 1, 0, none⟩ ?hx (.slice p8 l8 c8) ?hg ?_); (case hd => rfl); (case hw => kernel_rfl); (case ho => rfl); (case hx => first | rfl | kernel_rfl); (case hg => exact hc8); simp only [Act.put, List.setIfInBounds_toArray, List.set_cons_succ, List.set_cons_zero]) | ((with_reducible refine wv_row (d := 27) ?hd ?hw 22 (.tmp 9) ?ho (Bx) ?hx (t' := 22) (ints .u8 x.1) _ _ Tryd.underlying22 ?hs ?hg ?_); (case hd => rfl); (case hw => kernel_rfl); (case ho => rfl); (case hx => kernel_rfl); (case hs => exact KI.out); (case hg => exact hBx); simp only [Act.put, List.setIfInBounds_toArray, List.set_cons_succ, List.set_cons_zero]) | (refine wl_build1 rfl 117 22 (.tmp 27) rfl (ints .u8 x.1) rfl Tryd.underlying117 KI.out KZ.out s1.out s2.out ?_) | (refine wl_appK rfl (.tmp 26) (.tmp 28) rfl w.heap.size (vals pre) x.1 LC.out _ W.heap.size rfl rfl RA BA nK hbA ?_))
    intro p9 l9 c9 w1 R1 G1 B1
    have B81 : Blk w1 (w.heap.size + 1 + 1) 117 #[.slice p8 l8 c8] := (G1.block _ (hB.alloc _).lt (fun e => hn3 e.symm)).trans (hB.alloc _)
    go_wp2_with (first | (refine wl_setS rfl 117 sz_keys (.tmp 8) (.tmp 29) rfl (w.heap.size + 1 + 1) p9 l9 c9 rfl rfl _ B81 ?_))
    intro w2 B82 P2
    go_wp2
    have szW : (W.alloc (.cells (ints .u8 x.1) 22)).heap.size = W.heap.size + 1 := by simp
    have hne : ∀ g, g < W.heap.size → blkOf (.slice p8 l8 c8) ≠ some g → blkOf (.slice p9 l9 c9) ≠ some g := fun g hg h e => by
      rcases B1 with h1 | h1
      · exact h (h1.symm.trans e)
      · rw [e] at h1
        cases h1
        omega
    have g1 : blkOf (.slice p9 l9 c9) ≠ some gx := hne gx (by omega) hn1
    have g2 : blkOf (.slice p9 l9 c9) ≠ some gb := hne gb (by omega) hn2
    have g3 : blkOf (.slice p9 l9 c9) ≠ some (w.heap.size + 1 + 1) := hne _ (by omega) hn3
    have kO : KeepsOthers W w2 := ((KeepsOthers.alloc W _).trans (KeepsOthers.of_grownBy G1 (fun j o ej hj => by
      rcases RA.2 with ⟨e, _⟩ | ⟨g, cap, cu, e, _, hgb, _⟩
      · cases e; cases ej
      · cases e; cases ej; rw [hgb] at hj; cases hj; rfl))).trans (KeepsOthers.of_grownBy P2.grown (fun j o ej hj => by cases ej; rw [show w1.heap[_]? = _ from B81] at hj; cases hj; rfl))
    have kk : Keep2 gx gb W w2 := ((Keep2.below ((Below.refl W.heap.size W).alloc (Nat.le_refl _) _) (by omega) (by omega)).trans (Keep2.grown G1 (by omega) (by omega) hn1 hn2)).trans (Keep2.grown P2.grown (by have := G1.size; omega) (by have := G1.size; omega) (fun e => by cases e; omega) (fun e => by cases e; omega))
    have hb2 : Below w.heap.size w w2 := ((hb.alloc hb.size _).trans (grown_mono G1 hbA (fun b e => (RA.range b e).1))).trans (P2.below (by omega))
    refine ⟨kO.from _, kk, ⟨_, B82, ?_, g1, g2, g3⟩, hb2, by have := G1.size; have := P2.size; omega⟩
    rw [vals_snoc]
    exact R1.keeps P2.grown (.inr g3)
  case done =>
    rintro D ys W hD rfl ⟨⟨v, hB, hR, _⟩, hb, hs⟩ hK
    have hc8 := hB.cell (j := 0) rfl
    have ek : vals (chunks X n) = keysL key b n := chunks_keys key b n (by omega) X (by rw [EX.out, EE.out, EM.out])
    rw [ek] at hR
    go_wp2_with (first | ((with_reducible refine wv_elem (d := 30) ?hd ?hw 117 ag_keys (.tmp 8) ?ho ⟨w.heap.size + 1 + 1, 0, none⟩ ?hx v ?hg ?_); (case hd => rfl); (case hw => kernel_rfl); (case ho => rfl); (case hx => first | rfl | kernel_rfl); (case hg => exact hc8); simp only [Act.put, List.setIfInBounds_toArray, List.set_cons_succ, List.set_cons_zero]))
    refine ⟨by simp, .inl ⟨_, _, rfl, run_takeDeferred hK, ?_⟩⟩
    exact ⟨_, results_tmp2 rfl _ _ _, v, rfl, ownsRow_putObj hR _ hK rfl, hb.trans (belowK_b (w := w) (Nat.le_refl _) W D _ _ (by have := Q5.size; omega) hK rfl rfl)⟩
end Go.Proofs.YtjkdonjcngmjeaaDoor.sh
/-
  A nonce, bytes of a number, bytes filled up: package aead's small calls.
-/
namespace Go.Proofs.YtjkdonjcngmjeaaDoor.sh
open Go Go.RowKit
set_option linter.unusedVariables false
set_option linter.unusedSimpArgs false

theorem run_shr64V {o : Oper} {a : Act} {x y : Operand} {m c z : Nat} (ho : o.op = .binOp .shr 49 x y 3) (hx : a.eval x = .int .u64 (m : Int)) (hy : a.eval y = .int .i64 (c : Int)) (hc : c < 64) (hm : m < 18446744073709551616) (hz : z = m / 2 ^ c) (w : World) : (execOp a.eval o).run Tryd.prog w = .ok (.value (.int .u64 (z : Int))) w := by
  have e : ((m : Int) / 2 ^ c) = ((m / 2 ^ c : Nat) : Int) := by rw [Int.natCast_ediv, Int.natCast_pow]; rfl
  have e2 : min c 64 = c := by omega
  have e3 : m / 2 ^ c ≤ m := Nat.div_le_self _ _
  unfold execOp
  simp only [ho, hx, hy]
  rw [hz, ← e]
  have e4 : (m : Int) / 2 ^ c % 18446744073709551616 = (m : Int) / 2 ^ c := by rw [e]; omega
  clear hz e
  simp [go_sem, Op.shift, IntKind.bits, e2, IntKind.wrap_u64, e4]
end Go.Proofs.YtjkdonjcngmjeaaDoor.sh
/-
  What is tagged, and the tag: package aead.
-/
namespace Go.Proofs.YtjkdonjcngmjeaaDoor.sh
open Go Go.RowKit
set_option linter.unusedVariables false
set_option linter.unusedSimpArgs false

end Go.Proofs.YtjkdonjcngmjeaaDoor.sh
/-
  Seal and Open, by the program.
-/
namespace Go.Proofs.YtjkdonjcngmjeaaDoor.sh
open Go Go.RowKit
set_option linter.unusedVariables false
set_option linter.unusedSimpArgs false

end Go.Proofs.YtjkdonjcngmjeaaDoor.sh
/-
  Seal and Open whole; the answers that the document fixes for layer 7 are as they must be.
-/
namespace Go.Proofs.YtjkdonjcngmjeaaDoor.sh
open Go Go.RowKit
set_option linter.unusedVariables false
set_option linter.unusedSimpArgs false

end Go.Proofs.YtjkdonjcngmjeaaDoor.sh
