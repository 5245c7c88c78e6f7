/-
  General pieces, joined: UX ZA.
-/
import Derived.Test.YtjkdonjcngmjeaaGreatDoorG31
import Derived.Test.YtjkdonjcngmjeaaGreatDoorG08
import Derived.Test.YtjkdonjcngmjeaaGreatDoorG11
import Derived.Test.YtjkdonjcngmjeaaGreatDoorG09
import Derived.Test.YtjkdonjcngmjeaaGreatDoorG10
import Derived.Test.YtjkdonjcngmjeaaGreatDoorG12
import Derived.Test.YtjkdonjcngmjeaaGreatDoorG13
import Derived.Test.YtjkdonjcngmjeaaGreatDoorG14
import Derived.Test.YtjkdonjcngmjeaaGreatDoorG15
import Derived.Test.YtjkdonjcngmjeaaGreatDoorG16
import Derived.Test.YtjkdonjcngmjeaaGreatDoorG17
import Derived.Test.YtjkdonjcngmjeaaGreatDoorG18
import Derived.Test.YtjkdonjcngmjeaaGreatDoorG19
import Derived.Test.YtjkdonjcngmjeaaGreatDoorG20
import Derived.Test.YtjkdonjcngmjeaaGreatDoorG21
/-
  Keys of a key and bytes: mac.Keys, where it is not refused.
-/
namespace Go.Proofs.YtjkdonjcngmjeaaGreatDoor.sh
open Go Go.RowKit Go.Shelf
set_option linter.unusedVariables false
set_option linter.unusedSimpArgs false

theorem zip_one (p : Nat) (v : Value) (T : Array Value) : Array.foldl (fun t (x : Nat × Value) => match x with | (p, v) => t.setIfInBounds p v) T (Array.zip #[p] #[v]) = T.setIfInBounds p v := by simp
def vals (pre : List K32) : List (List Nat) := pre.map (·.1)
theorem vals_snoc (pre : List K32) (x : K32) : vals (pre ++ [x]) = vals pre ++ [x.1] := by simp [vals]
theorem vals_len (pre : List K32) : (vals pre).length = pre.length := by simp [vals]
set_option maxRecDepth 100000 in
set_option maxHeartbeats 4000000 in
theorem Keys_ok (key b : List Nat) (n : Nat) (vb : Value) (w : World) (hk : key.length = 32) (hy : Bytes key) (hb : Bytes b) (hbn : b.length < 800000000) (h1 : 1 ≤ n) (h3 : n ≤ 3) (hr : RootsAt w) (hvb : BytesV vb w b) :
    Calls Tryz.prog 14 #[.agg (ints .u8 key), vb, .int .i64 (n : Int)] w fun e w' => ∃ v, e = .returned (.tuple #[v, .int .i64 0]) ∧ KRow w.heap.size (keysL key b n) v w' ∧ Below w.heap.size w w' := by
  have KR : Kept _ := ⟨hr⟩
  have LK : Kept _ := ⟨hk⟩
  have YK : Kept _ := ⟨hy⟩
  have YB : Kept _ := ⟨hb⟩
  have NB : Kept _ := ⟨hbn⟩
  have KV : Kept _ := ⟨hvb⟩
  have h0 := hr.1
  obtain ⟨pb, cb, eb, _, _⟩ := hvb
  obtain ⟨nb, hnb⟩ : ∃ n, n = b.length := ⟨_, rfl⟩
  rw [← hnb] at eb
  subst eb
  obtain ⟨E, hE⟩ : ∃ E, E = macL key b := ⟨_, rfl⟩
  have EE : Kept _ := ⟨hE⟩
  have LE : Kept (E.length = 32) := ⟨by rw [hE]; exact macL_len _ _⟩
  have YE : Kept (Bytes E) := ⟨by rw [hE]; exact macL_bytes _ _⟩
  obtain ⟨M, hM⟩ : ∃ M, M = 32 * n := ⟨_, rfl⟩
  have EM : Kept _ := ⟨hM⟩
  have M96 : M ≤ 96 := by omega
  obtain ⟨X, hX⟩ : ∃ X, X = expL E [] M := ⟨_, rfl⟩
  have EX : Kept _ := ⟨hX⟩
  have LX : Kept (X.length = M) := ⟨by rw [hX]; exact expL_len _ _ _ (by omega)⟩
  have A0 : Blk (w.alloc (.cells (ints .u8 key) 30)) w.heap.size 30 (ints .u8 key) := blk_new w _ _
  have Q0 : Below w.heap.size w (w.alloc (.cells (ints .u8 key) 30)) := (Below.refl _ _).alloc (Nat.le_refl _) _
  obtain ⟨MC, hMC, hmk⟩ := run_makeK n (by omega) (w.alloc (.cells (ints .u8 key) 30))
  have MK : Kept (∀ {o : Oper} {a : Act}, o.op = .makeSlice 39 (.const (.int .i64 0)) (.tmp 16) → a.eval (.tmp 16) = .int .i64 (n : Int) → (execOp a.eval o).run Tryz.prog (w.alloc (.cells (ints .u8 key) 30)) = .ok (.value (.slice (some ⟨w.heap.size + 1, 0, none⟩) 0 n)) ((w.alloc (.cells (ints .u8 key) 30)).alloc (.cells MC 30))) := ⟨fun ho hx => by
    have e3 : ∀ a : Act, a.eval (.const (.int .i64 0)) = .int .i64 0 := fun _ => rfl
    unfold execOp
    simp only [ho, hx, e3]
    rw [World.size_alloc] at hmk
    simp [hmk]⟩
  have h1' : ¬ (n : Int) < 1 := by omega
  have h3' : ¬ (3 : Int) < (n : Int) := by omega
  have R17 : Kept (KRow w.heap.size [] (.slice (some ⟨w.heap.size + 1, 0, none⟩) 0 n) ((w.alloc (.cells (ints .u8 key) 30)).alloc (.cells MC 30))) := ⟨by
    have := krow_made (w.alloc (.cells (ints .u8 key) 30)) w.heap.size n MC hMC (by omega) Q0.size
    rwa [World.size_alloc] at this⟩
  clear hk hy hb hbn hr hE hM hX hnb hmk hMC
  refine (callsIn_wide (n := 5)).1 (callsIn_of_wp_marks Tryz.func14 rfl trivial (wpIn_wide.2 ?_))
  simp only [Tryz.ntmps14, List.size_toArray, List.length_cons, List.length_nil, Nat.reduceAdd, Nat.reduceSub, Array.replicate_succ, Array.replicate_zero, List.push_toArray, List.append_toArray, List.nil_append, List.cons_append]
  have A8 : Blk (((w.alloc (.cells (ints .u8 key) 30)).alloc (.cells MC 30)).alloc (.cells #[.slice none 0 0] 39)) (w.heap.size + 2) 39 #[.slice none 0 0] := blk_top _ _ _ _ (by simp)
  go_wp2_with (first | ((with_reducible refine wv_run (d := 17) ?hd ?hw (.slice (some ⟨w.heap.size + 1, 0, none⟩) 0 n) ((w.alloc (.cells (ints .u8 key) 30)).alloc (.cells MC 30)) ?hr ?_); (case hd => rfl); (case hw => kernel_rfl); (case hr => exact MK.out rfl (by kernel_rfl)); simp only [Act.put, List.setIfInBounds_toArray, List.set_cons_succ, List.set_cons_zero]) | (refine wl_setS rfl 39 sz_keys (.tmp 8) (.tmp 17) rfl (w.heap.size + 2) (some ⟨w.heap.size + 1, 0, none⟩) 0 n rfl rfl (.slice none 0 0) A8 ?_))
  intro w2 A82 P2
  have A2 : Blk w2 w.heap.size 30 (ints .u8 key) := P2.blk ((A0.alloc _).alloc _) (by omega)
  have Q2 : Below w.heap.size w w2 := (((Q0.alloc Q0.size _).alloc (by simp; omega) _)).trans (P2.below (by omega))
  have K2 : Kept (KRow w.heap.size [] (.slice (some ⟨w.heap.size + 1, 0, none⟩) 0 n) w2) := ⟨(R17.out.alloc _).keeps P2.grown (.inr (by simp [blkOf]))⟩
  have s2 := A82.lt
  clear A0 Q0 A8 P2 R17 MK
  go_wp2_with fail
  refine (mExtract_any key b _ _ w2 YK.out (by rw [LK.out]; decide) YB.out (by have := NB.out; omega) (KR.out.below h0 Q2) (arr_bytes A2 LK.out) (KV.out.under Q2)).mono ?_
  rintro e w3 ⟨rfl, hb3⟩
  rw [← EE.out]
  have A83 := A82.under hb3
  have Q3 := Q2.trans (hb3.mono Q2.size)
  have K3 : Kept _ := ⟨K2.out.under hb3⟩
  have s3 := Nat.lt_of_lt_of_le s2 hb3.size
  clear A2 A82 Q2 K2 hb3 s2
  go_wp2_with (first | ((with_reducible refine wv_val (d := 22) ?hd ?hw (.int .i64 (M : Int)) ?hr ?_); (case hd => rfl); (case hw => kernel_rfl); (case hr => intro w; exact run_mulV 32 rfl (by kernel_rfl) (by rw [EM.out, Nat.mul_comm]) (by omega) w); simp only [Act.put, List.setIfInBounds_toArray, List.set_cons_succ, List.set_cons_zero]))
  refine (expanded_any E [] M (.slice none 0 0) w3 LE.out YE.out nil_bytes (by decide) (by omega) (KR.out.below h0 Q3) ⟨none, 0, rfl, Nat.le_refl _, fun h => absurd rfl h⟩).mono ?_
  rintro e w4 ⟨v23, rfl, RX, hb4⟩
  rw [← EX.out] at RX
  obtain ⟨gx, cx, cur, e23, hgx, hBx, hsx, hcur⟩ := Row.form RX (by rw [LX.out]; have := EM.out; omega)
  have hcx : M ≤ cx := by
    obtain ⟨_, cx', e24, hl, _⟩ := row_cells RX
    rw [e23] at e24
    cases e24
    rw [← LX.out]
    exact hl
  rw [LX.out] at e23
  subst e23
  have A84 := A83.under hb4
  have Q4 := Q3.trans (hb4.mono Q3.size)
  have K4 : Kept _ := ⟨K3.out.under hb4⟩
  have KCU : Kept _ := ⟨hcur⟩
  have s4 := Nat.lt_of_lt_of_le s3 hb4.size
  clear RX A83 Q3 K3 hb4 hcur
  go_wp2_with fail
  refine (cut_any _ _ _ w4).mono ?_
  rintro e w5 ⟨rfl, rfl⟩
  have A85 := A84.alloc (.cells #[.slice (some ⟨gx, 0, none⟩) M cx] 34)
  have Q5 : Below w.heap.size w (w4.alloc (.cells #[.slice (some ⟨gx, 0, none⟩) M cx] 34)) := Q4.alloc Q4.size _
  have K5 : Kept (KRow w.heap.size [] (.slice (some ⟨w.heap.size + 1, 0, none⟩) 0 n) (w4.alloc (.cells #[.slice (some ⟨gx, 0, none⟩) M cx] 34))) := ⟨K4.out.alloc _⟩
  have hBx5 := hBx.alloc (.cells #[.slice (some ⟨gx, 0, none⟩) M cx] 34)
  have hBb5 : Blk (w4.alloc (.cells #[.slice (some ⟨gx, 0, none⟩) M cx] 34)) w4.heap.size 34 #[.slice (some ⟨gx, 0, none⟩) M cx] := blk_new w4 _ _
  have sL : (w4.alloc (.cells #[.slice (some ⟨gx, 0, none⟩) M cx] 34)).heap.size = w4.heap.size + 1 := by simp
  have gx4 := hBx.lt
  generalize hWL : w4.alloc (.cells #[.slice (some ⟨gx, 0, none⟩) M cx] 34) = wL at *
  generalize hgb : w4.heap.size = gb at *
  clear hWL hgb A84 Q4 K4 hBx hsx
  go_wp2_with fail
  have gxL : gx < wL.heap.size := hBx5.lt
  have gbL : gb < wL.heap.size := hBb5.lt
  have g8L : w.heap.size + 1 + 1 < wL.heap.size := A85.lt
  have hM32 : Kept (M = 32 * n) := ⟨EM.out⟩
  have hseq := cut1_stops 4 (by decide) gb n gx cx (by omega) X cur wL (by rw [← EM.out]; exact hBb5) (by rw [← EM.out]; exact hcx) (by rw [← EM.out]; exact LX.out) hBx5 KCU.out
  have hInv : OwnFrom wL.heap.size (fun (pre : List K32) (W : World) => (∃ v, Blk W (w.heap.size + 1 + 1) 39 #[v] ∧ KRow w.heap.size (vals pre) v W ∧ blkOf v ≠ some gx ∧ blkOf v ≠ some gb ∧ blkOf v ≠ some (w.heap.size + 1 + 1)) ∧ Below w.heap.size w W ∧ wL.heap.size ≤ W.heap.size) := by
    rintro pre W W' row ⟨⟨v, hB, hR, hne⟩, hb, hs⟩ hg hr
    refine ⟨⟨v, blk_own wL.heap.size _ _ _ () W W' row hB hg hr, hR.keeps hg ?_, hne⟩, hb.grown hg hb.size (fun k e => Nat.le_trans Q5.size (hr k e).1), Nat.le_trans hs hg.size⟩
    cases hbv : blkOf v with
    | none => exact .inl rfl
    | some bv =>
      refine .inr fun e => ?_
      obtain ⟨_, o, ho, hc⟩ := hr bv e.symm
      rcases hR.2 with ⟨rfl, _⟩ | ⟨g, cap, cu, rfl, _, hgb, _⟩
      · cases hbv
      · cases hbv
        rw [hgb] at ho
        cases ho
        cases hc
  refine (wpIn_wide (n := 5)).1 ?_
  refine wpIn_rangeFunc_ownH (F := Fence.wide) rfl (by decide) (gf := 49) (lb := #[.pointer (some ⟨gb, 0, none⟩)]) rfl trivial (enters_of Tryz.func49 (by kernel_rfl) rfl) hseq (fun h h' => h.trans h') (keep2_b gxL gbL) (Below.refl _ _) (fun _ => rfl)
    (fun (pre : List K32) (W : World) => (∃ v, Blk W (w.heap.size + 1 + 1) 39 #[v] ∧ KRow w.heap.size (vals pre) v W ∧ blkOf v ≠ some gx ∧ blkOf v ≠ some gb ∧ blkOf v ≠ some (w.heap.size + 1 + 1)) ∧ Below w.heap.size w W ∧ wL.heap.size ≤ W.heap.size) (fun _ _ _ => False) hInv (fun _ _ _ _ _ hs _ _ => hs) ⟨⟨_, A85, K5.out, by simp [blkOf]; omega, by simp [blkOf]; omega, by simp [blkOf]⟩, Q5, Nat.le_refl _⟩ (fun (x : K32) (a' : Act) (W : World) => ∃ Bx, Blk W Bx 30 (ints .u8 x.1) ∧ a' = { tmps := #[.agg (ints .u8 key), .slice pb nb cb, .int .i64 (n : Int), .pointer (some ⟨w.heap.size, 0, none⟩), undef, undef, .slice none 0 0, .int .i64 0, .pointer (some ⟨w.heap.size + 1 + 1, 0, none⟩), .pointer (some ⟨Bx, 0, none⟩), .int .i64 (n : Int), .bool false, .bool false, .int .i64 (n : Int), .bool false, .bool false, .int .i64 (n : Int), .slice (some ⟨w.heap.size + 1, 0, none⟩) 0 n, .slice (some ⟨w.heap.size, 0, none⟩) 32 32, .slice pb nb cb, .agg (ints .u8 E), .int .i64 (n : Int), .int .i64 (M : Int), .slice (some ⟨gx, 0, none⟩) M cx, .func (.func 49) #[] #[.pointer (some ⟨gb, 0, none⟩)], .agg (ints .u8 x.1), undef, undef, undef, undef, undef], defers := [] }) (fun x a' s W W' row hs hg hr => by
      obtain ⟨Bx, h1, h2⟩ := hs
      exact ⟨Bx, blk_own wL.heap.size _ _ _ () W W' row h1 hg hr, h2⟩) ?assign ?body ?done ?stop
  case stop =>
    rintro D c pre W _ _ h _
    exact h.elim
  case assign =>
    rintro l pre x W K hI hK
    refine region_round (fun h => by obtain ⟨_, _, h⟩ := h; exact h) rfl ?_
    simp only [zip_one, List.setIfInBounds_toArray, List.set_cons_succ, List.set_cons_zero]
    have LC : Kept (x.1.length = 32) := ⟨x.2⟩
    have KH : Kept _ := ⟨hI⟩
    clear hI
    go_wp2_with (first | (refine wl_store rfl 30 (.tmp 9) (.tmp 25) rfl W.heap.size (ints .u8 x.1) rfl rfl _ (blk_new W _ _) (by rw [ints_size, LC.out]; exact t32_info) (by rw [ints_size, LC.out]; rfl) (ints_one _ _) ?_))
    intro W' A' P'
    have hbW : Below W.heap.size W W' := ((Below.refl _ _).alloc (Nat.le_refl _) _).trans (P'.below (Nat.le_refl _))
    have kO : KeepsOthers W W' := (KeepsOthers.alloc _ _).trans (KeepsOthers.of_grownBy P'.grown (fun j o ej hj => by cases ej; rw [show (W.alloc _).heap[W.heap.size]? = _ from blk_new W _ _] at hj; cases hj; rfl))
    have hI' := hInv pre W W' none KH.out (grown_none hbW) (fun r e => by cases e)
    have hL := KH.out.2.2
    go_wp2
    exact hK _ _ (kO.from _) (Keep2.below hbW (by omega) (by omega)) hI' ⟨W.heap.size, A', rfl⟩
  case body =>
    rintro l pre x a' W hl _ ⟨⟨v, hB, hR, hn1, hn2, hn3⟩, hb, hs⟩ ⟨Bx, hBx, rfl⟩ hlt
    refine wpIn_block (region_round (fun h => by obtain ⟨_, _, h⟩ := h; exact h) rfl ?_)
    obtain ⟨p8, l8, c8, rfl⟩ : ∃ p l c, v = .slice p l c := by
      rcases hR.2 with ⟨rfl, _⟩ | ⟨g, cap, cu, rfl, _⟩ <;> exact ⟨_, _, _, rfl⟩
    have LC : Kept (x.1.length = 32) := ⟨x.2⟩
    have KI : Kept ((Tryz.prog.info? 30).map (·.size) = some (ints .u8 x.1).size) := ⟨by rw [ints_size, x.2]; exact t32_info⟩
    have KZ : Kept (((Tryz.prog.info? 30).bind (·.zero)).isSome = true) := ⟨by kernel_rfl⟩
    have s1 : Kept (0 < (ints .u8 x.1).size) := ⟨by rw [ints_size, x.2]; decide⟩
    have s2 : Kept ((ints .u8 x.1).size ≤ 1000) := ⟨by rw [ints_size, x.2]; decide⟩
    have RA : KRow w.heap.size (vals pre) (.slice p8 l8 c8) (W.alloc (.cells (ints .u8 x.1) 30)) := hR.alloc _
    have BA : Blk (W.alloc (.cells (ints .u8 x.1) 30)) W.heap.size 30 (ints .u8 x.1) := blk_new W _ _
    have nK : (vals pre).length < 1000000 := by rw [vals_len]; omega
    have hbA : w.heap.size ≤ (W.alloc (.cells (ints .u8 x.1) 30)).heap.size := by have := hb.size; simp; omega
    have hc8 := hB.cell (j := 0) rfl
    go_wp2_with (first | ((with_reducible refine wv_elem (d := 26) ?hd ?hw 39 ag_keys (.tmp 8) ?ho ⟨w.heap.size + 1 + 1, 0, none⟩ ?hx (.slice p8 l8 c8) ?hg ?_); (case hd => rfl); (case hw => kernel_rfl); (case ho => rfl); (case hx => first | rfl | kernel_rfl); (case hg => exact hc8); simp only [Act.put, List.setIfInBounds_toArray, List.set_cons_succ, List.set_cons_zero]) | ((with_reducible refine wv_row (d := 27) ?hd ?hw 30 (.tmp 9) ?ho (Bx) ?hx (t' := 30) (ints .u8 x.1) _ _ Tryz.underlying30 ?hs ?hg ?_); (case hd => rfl); (case hw => kernel_rfl); (case ho => rfl); (case hx => kernel_rfl); (case hs => exact KI.out); (case hg => exact hBx); simp only [Act.put, List.setIfInBounds_toArray, List.set_cons_succ, List.set_cons_zero]) | (refine wl_build1 rfl 39 30 (.tmp 27) rfl (ints .u8 x.1) rfl Tryz.underlying39 KI.out KZ.out s1.out s2.out ?_) | (refine wl_appK rfl (.tmp 26) (.tmp 28) rfl w.heap.size (vals pre) x.1 LC.out _ W.heap.size rfl rfl RA BA nK hbA ?_))
    intro p9 l9 c9 w1 R1 G1 B1
    have B81 : Blk w1 (w.heap.size + 1 + 1) 39 #[.slice p8 l8 c8] := (G1.block _ (hB.alloc _).lt (fun e => hn3 e.symm)).trans (hB.alloc _)
    go_wp2_with (first | (refine wl_setS rfl 39 sz_keys (.tmp 8) (.tmp 29) rfl (w.heap.size + 1 + 1) p9 l9 c9 rfl rfl _ B81 ?_))
    intro w2 B82 P2
    go_wp2
    have szW : (W.alloc (.cells (ints .u8 x.1) 30)).heap.size = W.heap.size + 1 := by simp
    have hne : ∀ g, g < W.heap.size → blkOf (.slice p8 l8 c8) ≠ some g → blkOf (.slice p9 l9 c9) ≠ some g := fun g hg h e => by
      rcases B1 with h1 | h1
      · exact h (h1.symm.trans e)
      · rw [e] at h1
        cases h1
        omega
    have g1 : blkOf (.slice p9 l9 c9) ≠ some gx := hne gx (by omega) hn1
    have g2 : blkOf (.slice p9 l9 c9) ≠ some gb := hne gb (by omega) hn2
    have g3 : blkOf (.slice p9 l9 c9) ≠ some (w.heap.size + 1 + 1) := hne _ (by omega) hn3
    have kO : KeepsOthers W w2 := ((KeepsOthers.alloc W _).trans (KeepsOthers.of_grownBy G1 (fun j o ej hj => by
      rcases RA.2 with ⟨e, _⟩ | ⟨g, cap, cu, e, _, hgb, _⟩
      · cases e; cases ej
      · cases e; cases ej; rw [hgb] at hj; cases hj; rfl))).trans (KeepsOthers.of_grownBy P2.grown (fun j o ej hj => by cases ej; rw [show w1.heap[_]? = _ from B81] at hj; cases hj; rfl))
    have kk : Keep2 gx gb W w2 := ((Keep2.below ((Below.refl W.heap.size W).alloc (Nat.le_refl _) _) (by omega) (by omega)).trans (Keep2.grown G1 (by omega) (by omega) hn1 hn2)).trans (Keep2.grown P2.grown (by have := G1.size; omega) (by have := G1.size; omega) (fun e => by cases e; omega) (fun e => by cases e; omega))
    have hb2 : Below w.heap.size w w2 := ((hb.alloc hb.size _).trans (grown_mono G1 hbA (fun b e => (RA.range b e).1))).trans (P2.below (by omega))
    refine ⟨kO.from _, kk, ⟨_, B82, ?_, g1, g2, g3⟩, hb2, by have := G1.size; have := P2.size; omega⟩
    rw [vals_snoc]
    exact R1.keeps P2.grown (.inr g3)
  case done =>
    rintro D ys W hD rfl ⟨⟨v, hB, hR, _⟩, hb, hs⟩ hK
    have hc8 := hB.cell (j := 0) rfl
    have ek : vals (chunks X n) = keysL key b n := chunks_keys key b n (by omega) X (by rw [EX.out, EE.out, EM.out])
    rw [ek] at hR
    go_wp2_with (first | ((with_reducible refine wv_elem (d := 30) ?hd ?hw 39 ag_keys (.tmp 8) ?ho ⟨w.heap.size + 1 + 1, 0, none⟩ ?hx v ?hg ?_); (case hd => rfl); (case hw => kernel_rfl); (case ho => rfl); (case hx => first | rfl | kernel_rfl); (case hg => exact hc8); simp only [Act.put, List.setIfInBounds_toArray, List.set_cons_succ, List.set_cons_zero]))
    refine ⟨by simp, .inl ⟨_, _, rfl, run_takeDeferred hK, ?_⟩⟩
    exact ⟨_, results_tmp2 rfl _ _ _, v, rfl, ownsRow_putObj hR _ hK rfl, hb.trans (belowK_b (w := w) (Nat.le_refl _) W D _ _ (by have := Q5.size; omega) hK rfl rfl)⟩
end Go.Proofs.YtjkdonjcngmjeaaGreatDoor.sh
/-
  A nonce, bytes of a number, bytes filled up: package aead's small calls.
-/
namespace Go.Proofs.YtjkdonjcngmjeaaGreatDoor.sh
open Go Go.RowKit
set_option linter.unusedVariables false
set_option linter.unusedSimpArgs false

theorem z8_eq : (#[.int .u8 0, .int .u8 0, .int .u8 0, .int .u8 0, .int .u8 0, .int .u8 0, .int .u8 0, .int .u8 0] : Array Value) = ints .u8 (List.replicate 8 0) := by kernel_rfl
theorem z12_eq : (#[.int .u8 0, .int .u8 0, .int .u8 0, .int .u8 0, .int .u8 0, .int .u8 0, .int .u8 0, .int .u8 0, .int .u8 0, .int .u8 0, .int .u8 0, .int .u8 0] : Array Value) = ints .u8 (List.replicate 12 0) := by kernel_rfl
theorem a8_info : (Tryz.prog.info? 95).map (·.size) = some 8 := by kernel_rfl
theorem run_shr64V {o : Oper} {a : Act} {x y : Operand} {m c z : Nat} (ho : o.op = .binOp .shr 22 x y 3) (hx : a.eval x = .int .u64 (m : Int)) (hy : a.eval y = .int .i64 (c : Int)) (hc : c < 64) (hm : m < 18446744073709551616) (hz : z = m / 2 ^ c) (w : World) : (execOp a.eval o).run Tryz.prog w = .ok (.value (.int .u64 (z : Int))) w := by
  have e : ((m : Int) / 2 ^ c) = ((m / 2 ^ c : Nat) : Int) := by rw [Int.natCast_ediv, Int.natCast_pow]; rfl
  have e2 : min c 64 = c := by omega
  have e3 : m / 2 ^ c ≤ m := Nat.div_le_self _ _
  unfold execOp
  simp only [ho, hx, hy]
  rw [hz, ← e]
  have e4 : (m : Int) / 2 ^ c % 18446744073709551616 = (m : Int) / 2 ^ c := by rw [e]; omega
  clear hz e
  simp [go_sem, Op.shift, IntKind.bits, e2, IntKind.wrap_u64, e4]
theorem run_c648 {o : Oper} {a : Act} {x : Operand} {m z : Nat} (ho : o.op = .convert 22 5 x) (hx : a.eval x = .int .u64 (m : Int)) (hz : z = m % 256) (w : World) : (execOp a.eval o).run Tryz.prog w = .ok (.value (.int .u8 (z : Int))) w := by
  unfold execOp
  simp only [ho, hx]
  simp [go_sem, IntKind.wrap_u8', hz]
theorem run_quoK {o : Oper} {a : Act} {x : Operand} {i z : Nat} (c : Nat) (hc0 : 0 < c) (ho : o.op = .binOp .quo 3 x (.const (.int .i64 (c : Int))) 3) (hx : a.eval x = .int .i64 (i : Int)) (hz : z = i / c) (hi : i < 4611686018427387904) (w : World) : (execOp a.eval o).run Tryz.prog w = .ok (.value (.int .i64 (z : Int))) w := by
  have e3 : a.eval (.const (.int .i64 (c : Int))) = .int .i64 (c : Int) := rfl
  have h3 : (i : Int).tdiv (c : Int) = (z : Int) := by rw [hz, Int.tdiv_eq_ediv_of_nonneg (by omega)]; exact (Int.natCast_ediv _ _).symm
  have hz' : z ≤ i := by rw [hz]; exact Nat.div_le_self _ _
  have hc : ¬ (c : Int) = 0 := by omega
  unfold execOp
  simp only [ho, hx, e3]
  simp [go_sem, IntKind.wrap_i64, wrap64, h3, hc, show ¬ c = 0 by omega]
  try omega
/-- 'append(x, make([]byte, m)...)' in a plain region. -/
theorem wl_zapp {ops : Array Oper} {rest : List Oper} {o : Oper} {a : Act} {w : World} {Q : Exit → Act → World → Prop} (hw : Region.wanted o (yielded ops a.tmps) = true) (s x : Operand) (ho : o.op = .call { callee := .builtin .append, args := #[s, x], argTypes := #[34, 3] }) (base : Nat) (l : List Nat) (m : Nat) (v : Value) (hs : a.eval s = v) (hx : a.eval x = .int .i64 (m : Int)) (hv : Row base 5 .u8 l v w) (hn : l.length + m ≤ 1000000) (hbase : base ≤ w.heap.size)
    (hk : ∀ v' w', Row base 5 .u8 (l ++ List.replicate m 0) v' w' → w.grownBy w' (blkOf v) → (blkOf v' = blkOf v ∨ blkOf v' = some w.heap.size) → wpList Tryz.prog ops Q rest (a.put o.dst v') w') : wpList Tryz.prog ops Q (o :: rest) a w :=
  BigFrame.wpList_want hw fun K hK => by
    obtain ⟨v', w', h4, h5, h6, h7⟩ := zapp_run (ty := o.type) (m := m) hv hn hbase
    unfold Oper.wp execOp
    simp only [ho, resolve, invoke, builtin, Sem.run_bind, Sem.run_pure, Result.andThen_ok, List.map_toArray, List.map_cons, List.map_nil, hs, hx, h4]
    exact hK _ _ (hk v' w' h5 h6 h7)
theorem wl_make0 {ops : Array Oper} {rest : List Oper} {o : Oper} {a : Act} {w : World} {Q : Exit → Act → World → Prop} (hgd : o.guard = none) (x : Operand) (ho : o.op = .makeSlice 34 (.const (.int .i64 0)) x) (c : Nat) (hx : a.eval x = .int .i64 (c : Int)) (hc : c < 1000000)
    (h : ∀ v' w', Row w.heap.size 5 .u8 [] v' w' → Below w.heap.size w w' → wpList Tryz.prog ops Q rest (a.put o.dst v') w') : wpList Tryz.prog ops Q (o :: rest) a w :=
  wpList_plain hgd fun K hK => by
    have e3 : a.eval (.const (.int .i64 0)) = .int .i64 0 := rfl
    have hrun : (execOp a.eval o).run Tryz.prog w = .ok (.value (.slice (some ⟨w.heap.size, 0, none⟩) 0 c)) (w.alloc (.cells (ints .u8 (List.replicate c 0)) 5)) := by
      unfold execOp
      simp only [ho, hx, e3]
      simp [run_make0 c hc w]
    unfold Oper.wp
    rw [hrun]
    exact hK _ _ (h _ _ (row_made w w.heap.size c hc (Nat.le_refl _)) ((Below.refl _ _).alloc (Nat.le_refl _) _))

set_option maxRecDepth 100000 in
set_option maxHeartbeats 1000000 in
theorem bytesOfD (n : Nat) (w : World) (hn : n < 18446744073709551616) :
    Calls Tryz.prog 58 #[.int .u64 (n : Int)] w fun e w' => e = .returned (.agg (ints .u8 (digs n 8))) ∧ Below w.heap.size w w' := by
  obtain ⟨L, hL⟩ : ∃ L, L = digs n 8 := ⟨_, rfl⟩
  rw [← hL]
  have EL : Kept _ := ⟨hL⟩
  have HL : Kept (L.length = 8) := ⟨by rw [hL]; exact digs_len _ _⟩
  obtain ⟨Z0, hZ⟩ : ∃ Z0, Z0 = List.replicate 8 0 := ⟨_, rfl⟩
  have HL2 : Kept (L.length = Z0.length) := ⟨by rw [HL.out, hZ]; rfl⟩
  have HZ : Kept (Z0.length = 8) := ⟨by rw [hZ]; rfl⟩
  have EI : Kept ((#[.int .u8 0, .int .u8 0, .int .u8 0, .int .u8 0, .int .u8 0, .int .u8 0, .int .u8 0, .int .u8 0] : Array Value) = ints .u8 Z0) := ⟨by rw [hZ]; exact z8_eq⟩
  clear hZ hL
  go_enter Tryz.func58, Tryz.ntmps58
  go_wp2_with fail
  generalize hW : (w.alloc (.cells #[.int .u8 0, .int .u8 0, .int .u8 0, .int .u8 0, .int .u8 0, .int .u8 0, .int .u8 0, .int .u8 0] 95)).alloc (.cells #[.int .u8 0, .int .u8 0, .int .u8 0, .int .u8 0, .int .u8 0, .int .u8 0, .int .u8 0, .int .u8 0] 95) = W
  have B1 : Blk W w.heap.size 95 (ints .u8 Z0) := by subst hW; rw [← EI.out]; exact (blk_new w _ _).alloc _
  have B2 : Blk W (w.heap.size + 1) 95 (ints .u8 (mix L Z0 0)) := by subst hW; rw [mix_zero, ← EI.out]; exact blk_top _ _ _ _ (by simp)
  have QB : Below w.heap.size w W := by subst hW; exact ((Below.refl _ _).alloc (Nat.le_refl _) _).alloc (by simp) _
  clear hW EI
  go_loopg [5] 8 (fun k s5 wr => ∃ i : Nat, i + k = 8 ∧ s5 = .int .i64 (i : Int) ∧ Below w.heap.size w wr ∧ Blk wr w.heap.size 95 (ints .u8 Z0) ∧ Blk wr (w.heap.size + 1) 95 (ints .u8 (mix L Z0 i)))
  case atStart => exact ⟨0, by omega, rfl, QB, B1, B2⟩
  case round =>
    obtain ⟨i, hik, rfl, HB, A1, A2⟩ := hrel
    clear QB B1 B2
    by_cases hk0 : gk = 0
    · obtain rfl : i = 8 := by omega
      have e : mix L Z0 8 = L := by rw [← HZ.out]; exact mix_all L Z0 HL2.out
      rw [e] at A2
      clear e
      go_wp2_with (first | (refine wl_load rfl 95 (.tmp 3) rfl _ rfl (ints .u8 L) 8 5 Tryz.underlying95 (by rw [ints_size, HL.out]; exact a8_info) A2 ?_) | (refine wl_store rfl 95 (.tmp 2) (.tmp 16) rfl _ (ints .u8 L) rfl rfl _ A1 (by rw [ints_size, HL.out]; exact a8_info) (by rw [ints_size, ints_size, HL2.out]) (ints_one _ _) ?_))
      intro w3 A3 P3
      go_wp2
      exact bodyPost_ret (v := .agg (ints .u8 L)) (results_cell_row Tryz.results58 _ _ _ 95 (ints .u8 L) (0, 0) _ rfl A3 Tryz.underlying95 rfl (by rw [ints_size, HL.out]; exact a8_info)) rfl ⟨rfl, HB.trans (P3.below (by omega))⟩
    · have hil : i < 8 := by omega
      have hlt : ((i : Int) < 8) := by omega
      obtain ⟨c, hc⟩ : ∃ c, c = 8 * i := ⟨_, rfl⟩
      obtain ⟨y, hy⟩ : ∃ y, y = n / 2 ^ c := ⟨_, rfl⟩
      obtain ⟨z, hz⟩ : ∃ z, z = y % 256 := ⟨_, rfl⟩
      have gz : Kept (L[i]? = some z) := ⟨by rw [EL.out, hz, hy, hc, Nat.pow_mul]; exact digs_get n 8 i hil⟩
      have Ec : Kept _ := ⟨hc⟩
      have Ey : Kept _ := ⟨hy⟩
      have Ez : Kept _ := ⟨hz⟩
      have hc64 : c < 64 := by omega
      have l2 : i < (ints .u8 (mix L Z0 i)).size := by rw [ints_size, mix_len L _ i HL2.out, HZ.out]; exact hil
      clear hc hy hz
      go_wp2_with (first | ((with_reducible refine wv_val (d := 11) ?hd ?hw (.int .i64 (c : Int)) ?hr ?_); (case hd => rfl); (case hw => kernel_rfl); (case hr => intro w; exact run_mulC 8 rfl (by kernel_rfl) Ec.out (by omega) w); simp only [Act.put, List.setIfInBounds_toArray, List.set_cons_succ, List.set_cons_zero]) | ((with_reducible refine wv_val (d := 12) ?hd ?hw (.int .u64 (y : Int)) ?hr ?_); (case hd => rfl); (case hw => kernel_rfl); (case hr => intro w; exact run_shr64V rfl (by kernel_rfl) (by kernel_rfl) hc64 hn Ey.out w); simp only [Act.put, List.setIfInBounds_toArray, List.set_cons_succ, List.set_cons_zero]) | ((with_reducible refine wv_val (d := 13) ?hd ?hw (.int .u8 (z : Int)) ?hr ?_); (case hd => rfl); (case hw => kernel_rfl); (case hr => intro w; exact run_c648 rfl (by kernel_rfl) Ez.out w); simp only [Act.put, List.setIfInBounds_toArray, List.set_cons_succ, List.set_cons_zero]) | ((with_reducible refine wv_val (d := 14) ?hd ?hw (.pointer (some ⟨w.heap.size + 1, i, none⟩)) ?hr ?_); (case hd => rfl); (case hw => kernel_rfl); (case hr => intro w; exact run_idx rfl (by kernel_rfl) (by kernel_rfl) Tryz.underlying95 hil sz_u8 w); simp only [Act.put, List.setIfInBounds_toArray, List.set_cons_succ, List.set_cons_zero]) | (refine wl_setElem rfl 5 sz_u8 (.tmp 14) (.tmp 13) rfl (w.heap.size + 1) i .u8 (z : Int) rfl rfl _ A2 l2 ?_))
      intro w4 A4 P4
      rw [ints_set, mix_set L _ i z HL2.out gz.out] at A4
      have A14 := P4.blk A1 (by omega)
      have HB4 := HB.trans (P4.below (by omega))
      clear A1 A2 HB P4 gz Ec Ey Ez l2
      go_wp2_with fail
      go_roundg (gk - 1)
      case measure => omega
      case rel => exact ⟨i + 1, by omega, by simp, HB4, A14, A4⟩

/-- The nonce of a number. -/
def nonceL (n : Nat) : List Nat := List.replicate 4 0 ++ digs n 8
theorem nonceL_len (n : Nat) : (nonceL n).length = 12 := by simp [nonceL, digs_len]
theorem nonceL_bytes (n : Nat) : Bytes (nonceL n) := (bytes_zero 4).append (digs_bytes n 8)
theorem splice_nonce (L : List Nat) (h : L.length = 8) : splice (List.replicate 12 0) 4 L = List.replicate 4 0 ++ L := by
  unfold splice
  rw [List.take_replicate, h, List.drop_replicate]
  simp

set_option maxRecDepth 100000 in
set_option maxHeartbeats 1000000 in
theorem nonceOfD (n : Nat) (w : World) (hn : n < 18446744073709551616) :
    Calls Tryz.prog 33 #[.int .u64 (n : Int)] w fun e w' => e = .returned (.agg (ints .u8 (nonceL n))) ∧ Below w.heap.size w w' := by
  have CB : Kept (∀ w', Calls Tryz.prog 58 #[.int .u64 (n : Int)] w' fun e w2 => e = .returned (.agg (ints .u8 (digs n 8))) ∧ Below w'.heap.size w' w2) := ⟨fun w' => bytesOfD n w' hn⟩
  obtain ⟨D, hD⟩ : ∃ D, D = digs n 8 := ⟨_, rfl⟩
  obtain ⟨L, hL⟩ : ∃ D, D = nonceL n := ⟨_, rfl⟩
  rw [← hD] at CB
  rw [← hL]
  have LD : Kept (D.length = 8) := ⟨by rw [hD]; exact digs_len _ _⟩
  have LL : Kept (L.length = 12) := ⟨by rw [hL]; exact nonceL_len _⟩
  obtain ⟨Z0, hZ0⟩ : ∃ Z, Z = List.replicate 12 0 := ⟨_, rfl⟩
  have LZ : Kept (Z0.length = 12) := ⟨by rw [hZ0]; rfl⟩
  have EI : Kept ((#[.int .u8 0, .int .u8 0, .int .u8 0, .int .u8 0, .int .u8 0, .int .u8 0, .int .u8 0, .int .u8 0, .int .u8 0, .int .u8 0, .int .u8 0, .int .u8 0] : Array Value) = ints .u8 Z0) := ⟨by rw [hZ0]; exact z12_eq⟩
  have ES : Kept ((splice (ints .u8 Z0).toList 4 (ints .u8 (D.take 8)).toList).toArray = ints .u8 L) := ⟨by rw [splice_ints, List.take_of_length_le (by rw [LD.out]; exact Nat.le_refl _), hZ0, splice_nonce D LD.out, hL, hD]; rfl⟩
  have A2 : Blk ((w.alloc (.cells #[.int .u8 0, .int .u8 0, .int .u8 0, .int .u8 0, .int .u8 0, .int .u8 0, .int .u8 0, .int .u8 0, .int .u8 0, .int .u8 0, .int .u8 0, .int .u8 0] 80)).alloc (.cells #[.int .u8 0, .int .u8 0, .int .u8 0, .int .u8 0, .int .u8 0, .int .u8 0, .int .u8 0, .int .u8 0, .int .u8 0, .int .u8 0, .int .u8 0, .int .u8 0] 80)) w.heap.size 80 (ints .u8 Z0) := by rw [← EI.out]; exact (blk_new w _ _).alloc _
  have A3 : Blk ((w.alloc (.cells #[.int .u8 0, .int .u8 0, .int .u8 0, .int .u8 0, .int .u8 0, .int .u8 0, .int .u8 0, .int .u8 0, .int .u8 0, .int .u8 0, .int .u8 0, .int .u8 0] 80)).alloc (.cells #[.int .u8 0, .int .u8 0, .int .u8 0, .int .u8 0, .int .u8 0, .int .u8 0, .int .u8 0, .int .u8 0, .int .u8 0, .int .u8 0, .int .u8 0, .int .u8 0] 80)) (w.heap.size + 1) 80 (ints .u8 Z0) := by rw [← EI.out]; exact blk_top _ _ _ _ (by simp)
  have Q0 : Below w.heap.size w ((w.alloc (.cells #[.int .u8 0, .int .u8 0, .int .u8 0, .int .u8 0, .int .u8 0, .int .u8 0, .int .u8 0, .int .u8 0, .int .u8 0, .int .u8 0, .int .u8 0, .int .u8 0] 80)).alloc (.cells #[.int .u8 0, .int .u8 0, .int .u8 0, .int .u8 0, .int .u8 0, .int .u8 0, .int .u8 0, .int .u8 0, .int .u8 0, .int .u8 0, .int .u8 0, .int .u8 0] 80)) := ((Below.refl _ _).alloc (Nat.le_refl _) _).alloc (by simp) _
  clear hD hL hZ0 EI
  go_enter Tryz.func33, Tryz.ntmps33
  go_wp2_with fail
  refine (CB.out _).mono ?_
  rintro e w1 ⟨rfl, hb1⟩
  have B2 := A2.under hb1
  have B3 := A3.under hb1
  have Q1 := Q0.trans (hb1.mono Q0.size)
  have hl1 : w.heap.size + 1 < w1.heap.size := B3.lt
  clear A2 A3 Q0 hb1 CB
  go_wp2_with (first | (refine wl_store rfl 95 (.tmp 4) (.tmp 6) rfl w1.heap.size (ints .u8 D) rfl rfl _ (blk_new w1 _ _) (by rw [ints_size, LD.out]; exact a8_info) (by rw [ints_size, LD.out]; rfl) (ints_one _ _) ?_))
  intro w3 A4 P3
  have C2 := P3.blk (B2.alloc _) (by omega)
  have C3 := P3.blk (B3.alloc _) (by omega)
  have Q3 := (Q1.alloc Q1.size _).trans (P3.below (by omega))
  generalize hg4 : w1.heap.size = g4 at *
  have hl3 : g4 < w3.heap.size := A4.lt
  clear B2 B3 Q1 P3
  have VO : Kept (BytesV (.slice (some ⟨g4, 0, none⟩) 8 8) w3 D) := ⟨arr_bytes A4 LD.out⟩
  go_wp2_with fail
  refine region_ownL w3 2 [(7, .slice (some ⟨w.heap.size + 1, 4, none⟩) 8 8), (8, .slice (some ⟨g4, 0, none⟩) 8 8)] [] [] [] rfl (by kernel_rfl) (by kernel_rfl) (by kernel_rfl) (by kernel_rfl) (by kernel_rfl) (by kernel_rfl) (by kernel_rfl) (by kernel_rfl) (by kernel_rfl) (by kernel_rfl) (by kernel_rfl) ?hst1 ?hst2 (Below.refl _ _) (fun hA => ⟨ow_val hA (wants_none rfl) 7 (.slice (some ⟨w.heap.size + 1, 4, none⟩) 8 8) (by kernel_rfl) rfl rfl rfl rfl (by kernel_rfl) (fun w => arr_from_run 4 rfl (by kernel_rfl) Tryz.underlying80 sz_u8 (by decide) w), ow_val hA (wants_none rfl) 8 (.slice (some ⟨g4, 0, none⟩) 8 8) (by kernel_rfl) rfl rfl rfl rfl (by kernel_rfl) (fun w => arr_all_run rfl (by kernel_rfl) Tryz.underlying95 sz_u8 (by decide) w), trivial⟩) ?_
  case hst1 => intro q hq; cases hq
  case hst2 => intro q hq; cases hq
  intro fv w4 hf hD hb4
  simp only [putR, List.foldl_cons, List.foldl_nil, List.map_cons, List.map_nil, Act.put, List.setIfInBounds_toArray, List.set_cons_succ, List.set_cons_zero]
  refine wl_copyV rfl (.tmp 7) (.tmp 8) 34 34 rfl Tryz.underlying34 (w.heap.size + 1) 4 8 8 (by kernel_rfl) (some ⟨g4, 0, none⟩) 8 8 (by kernel_rfl) _ (C3.under hb4) D (VO.out.under hb4) 8 rfl (by rw [ints_size, LZ.out]; decide) ?_
  intro w5 D3 P5
  rw [ES.out] at D3
  have D2 := P5.blk (C2.under hb4) (by omega)
  have Q5 := (Q3.trans (hb4.mono Q3.size)).trans (P5.below (by omega))
  clear hf hD C2 C3 Q3 hb4 P5 VO ES
  go_wp2_with (first | (refine wl_load rfl 80 (.tmp 3) rfl (w.heap.size + 1) rfl (ints .u8 L) 12 5 Tryz.underlying80 (by rw [ints_size, LL.out]; exact i12_info) D3 ?_) | (refine wl_store rfl 80 (.tmp 2) (.tmp 10) rfl w.heap.size (ints .u8 L) rfl rfl _ D2 (by rw [ints_size, LL.out]; exact i12_info) (by rw [ints_size, ints_size, LL.out, LZ.out]) (ints_one _ _) ?_))
  intro w6 A6 P6
  go_wp2
  exact bodyPost_ret (v := .agg (ints .u8 L)) (results_cell_row Tryz.results33 _ _ _ 80 (ints .u8 L) (0, 0) _ rfl A6 Tryz.underlying80 rfl (by rw [ints_size, LL.out]; exact i12_info)) rfl ⟨rfl, Q5.trans (P6.below (by omega))⟩

set_option maxHeartbeats 400000 in
theorem filledSizeD (n F : Nat) (w : World) (hn : n < 1000000000) (hF : F = (n + 15) / 16 * 16) :
    Calls Tryz.prog 95 #[.int .i64 (n : Int)] w fun e w' => e = .returned (.int .i64 (F : Int)) ∧ w' = w := by
  obtain ⟨n4, h4⟩ : ∃ m, m = n + 16 := ⟨_, rfl⟩
  obtain ⟨n3, h3⟩ : ∃ m, m = n + 15 := ⟨_, rfl⟩
  obtain ⟨q, hq⟩ : ∃ m, m = n3 / 16 := ⟨_, rfl⟩
  have E4 : Kept _ := ⟨h4⟩
  have E3 : Kept (n4 = n3 + 1) := ⟨by omega⟩
  have Eq : Kept _ := ⟨hq⟩
  have EF : Kept (F = q * 16) := ⟨by rw [hF, hq, h3]⟩
  have L4 : n4 < 4611686018427387904 := by omega
  have L3 : n3 < 4611686018427387904 := by omega
  have L2 : F < 4611686018427387904 := by omega
  clear hF h3 h4 hq
  go_enter Tryz.func95, Tryz.ntmps95
  go_wp2_with (first | ((with_reducible refine wv_val (d := 4) ?hd ?hw (.int .i64 (n4 : Int)) ?hr ?_); (case hd => rfl); (case hw => kernel_rfl); (case hr => intro w; exact run_addZ 16 rfl (by kernel_rfl) E4.out L4 w); simp only [Act.put, List.setIfInBounds_toArray, List.set_cons_succ, List.set_cons_zero]) | ((with_reducible refine wv_val (d := 5) ?hd ?hw (.int .i64 (n3 : Int)) ?hr ?_); (case hd => rfl); (case hw => kernel_rfl); (case hr => intro w; exact run_subZ 1 rfl (by kernel_rfl) E3.out L4 w); simp only [Act.put, List.setIfInBounds_toArray, List.set_cons_succ, List.set_cons_zero]) | ((with_reducible refine wv_val (d := 6) ?hd ?hw (.int .i64 (q : Int)) ?hr ?_); (case hd => rfl); (case hw => kernel_rfl); (case hr => intro w; exact run_quoK 16 (by decide) rfl (by kernel_rfl) Eq.out L3 w); simp only [Act.put, List.setIfInBounds_toArray, List.set_cons_succ, List.set_cons_zero]) | ((with_reducible refine wv_val (d := 7) ?hd ?hw (.int .i64 (F : Int)) ?hr ?_); (case hd => rfl); (case hw => kernel_rfl); (case hr => intro w; exact run_mulV 16 rfl (by kernel_rfl) EF.out L2 w); simp only [Act.put, List.setIfInBounds_toArray, List.set_cons_succ, List.set_cons_zero]))
  go_ret
  exact ⟨rfl, rfl⟩

/-- Bytes, and bytes 0 behind them, to whole pieces. -/
def padF (l : List Nat) : List Nat := l ++ List.replicate ((l.length + 15) / 16 * 16 - l.length) 0
theorem padF_len (l : List Nat) : (padF l).length = (l.length + 15) / 16 * 16 := by simp [padF]; omega
theorem padF_bytes {l : List Nat} (h : Bytes l) : Bytes (padF l) := h.append (bytes_zero _)
theorem padF_behind (x l : List Nat) (h : x.length % 16 = 0) : padF (x ++ l) = x ++ padF l := by
  unfold padF
  rw [List.append_assoc, List.length_append]
  congr 3
  omega

set_option maxRecDepth 100000 in
set_option maxHeartbeats 400000 in
theorem filledD (base : Nat) (l : List Nat) (v : Value) (w : World) (hv : Row base 5 .u8 l v w) (hl : l.length < 900000) (hb : base ≤ w.heap.size) :
    Calls Tryz.prog 96 #[v] w fun e w' => ∃ v', e = .returned v' ∧ Row base 5 .u8 (padF l) v' w' ∧ w.grownBy w' (blkOf v) := by
  obtain ⟨p, c, rfl, _, _⟩ := row_cells hv
  obtain ⟨n, hn⟩ : ∃ n, n = l.length := ⟨_, rfl⟩
  obtain ⟨F, hF⟩ : ∃ F, F = (n + 15) / 16 * 16 := ⟨_, rfl⟩
  obtain ⟨m, hm⟩ : ∃ m, m = F - n := ⟨_, rfl⟩
  have RV : Kept _ := ⟨hv⟩
  have EP : Kept (padF l = l ++ List.replicate m 0) := ⟨by unfold padF; rw [← hn, ← hF, ← hm]⟩
  have HN : Kept (l.length + m ≤ 1000000) := ⟨by omega⟩
  have CF : Kept (Calls Tryz.prog 95 #[.int .i64 (n : Int)] w fun e w' => e = .returned (.int .i64 (F : Int)) ∧ w' = w) := ⟨filledSizeD n F w (by omega) hF⟩
  have Em : Kept _ := ⟨hm⟩
  have hle : n ≤ F := by omega
  have hF62 : F < 4611686018427387904 := by omega
  rw [← hn] at RV ⊢
  clear hv hl hn hF hm
  go_enter Tryz.func96, Tryz.ntmps96
  go_wp2_with fail
  refine CF.out.mono ?_
  rintro e w' ⟨rfl, hw'⟩
  obtain rfl := hw'.symm
  go_wp2_with (first | ((with_reducible refine wv_val (d := 9) ?hd ?hw (.int .i64 (m : Int)) ?hr ?_); (case hd => rfl); (case hw => kernel_rfl); (case hr => intro w; exact run_subV rfl (by kernel_rfl) (by kernel_rfl) hle hF62 Em.out w); simp only [Act.put, List.setIfInBounds_toArray, List.set_cons_succ, List.set_cons_zero]) | (refine wl_zapp (by kernel_rfl) (.tmp 3) (.tmp 9) rfl base l m _ rfl rfl RV.out HN.out hb ?_))
  intro v' w' r g h7
  go_wp2_with fail
  go_ret
  exact ⟨_, rfl, by rw [EP.out]; exact r, g⟩
end Go.Proofs.YtjkdonjcngmjeaaGreatDoor.sh
