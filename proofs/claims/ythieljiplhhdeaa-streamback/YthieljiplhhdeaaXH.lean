/-
  Bytes turned by one block, by the program.
-/
import Derived.Test.YthieljiplhhdeaaXE
import Derived.Test.YthieljiplhhdeaaBaseB
namespace Go.Proofs.Ythieljiplhhdeaa.sh
open Go Go.RowKit
set_option linter.unusedVariables false
set_option linter.unusedSimpArgs false

def xorZ (b k : List Nat) : List Nat := List.zipWith (· ^^^ ·) b k
theorem xorZ_len (b k : List Nat) (h : b.length ≤ k.length) : (xorZ b k).length = b.length := by simp [xorZ]; omega
theorem xorZ_get (b k : List Nat) (i x y : Nat) (hx : b[i]? = some x) (hy : k[i]? = some y) : (xorZ b k)[i]? = some (x ^^^ y) := by simp [xorZ, List.getElem?_zipWith, hx, hy]
theorem splice_snoc (L X : List Nat) (o i z : Nat) (h : X[i]? = some z) (hL : o + X.length ≤ L.length) : (splice L o (X.take i)).set (o + i) z = splice L o (X.take (i + 1)) := by
  have hi : i < X.length := (List.getElem?_eq_some_iff.1 h).1
  have e0 : (L.take o).length = o := by rw [List.length_take]; omega
  have e1 : (X.take i).length = i := by rw [List.length_take]; omega
  have e2 : (X.take (i + 1)).length = i + 1 := by rw [List.length_take]; omega
  have ed : L.drop (o + i) = L[o + i]'(by omega) :: L.drop (o + i + 1) := List.drop_eq_getElem_cons (by omega)
  unfold splice
  rw [e1, e2, List.set_append_right _ _ (by omega), e0, show o + i - o = i by omega, List.set_append_right _ _ (by omega), e1, Nat.sub_self, ed, List.set_cons_zero, List.take_add_one, h, show o + (i + 1) = o + i + 1 by omega]
  simp
theorem grown_put {w w1 w2 : World} {g : Nat} (h : w.grownBy w1 (some g)) (p : Put w1 w2 g) : w.grownBy w2 (some g) :=
  ⟨p.grown.os.trans h.os, p.grown.tape.trans h.tape, p.grown.output.trans h.output, by rw [p.size]; exact h.size, fun k hk hne => (p.grown.block k (by have := h.size; omega) hne).trans (h.block k hk hne)⟩
set_option maxRecDepth 100000 in
set_option maxHeartbeats 1000000 in
theorem turn_any (g off m co : Nat) (t : TypeId) (L bs K : List Nat) (vb : Value) (w : World) (hb : BytesV vb w bs) (hne : blkOf vb ≠ some g) (hy : Bytes bs) (hm : bs.length = m) (hm0 : 0 < m) (hm64 : m ≤ 64) (hK : K.length = 64) (hyK : Bytes K) (hg : Blk w g t (ints .u8 L)) (hoff : off + m ≤ L.length) :
    Calls Try.prog 14 #[.slice (some ⟨g, off, none⟩) m co, vb, .agg (ints .u8 K)] w fun e w' => e = .returned (.tuple #[]) ∧ w.grownBy w' (some g) ∧ Blk w' g t (ints .u8 (splice L off (xorZ bs K))) := by
  have KY : Kept _ := ⟨hy⟩
  have KYK : Kept _ := ⟨hyK⟩
  have LK : Kept _ := ⟨hK⟩
  have LB : Kept _ := ⟨hm⟩
  have LO : Kept _ := ⟨hoff⟩
  obtain ⟨X, hX⟩ : ∃ X, X = xorZ bs K := ⟨_, rfl⟩
  have EX : Kept _ := ⟨hX⟩
  have LX : Kept (X.length = m) := ⟨by rw [hX, xorZ_len _ _ (by omega), hm]⟩
  rw [← hX]
  have hV0 := hb.under ((Below.refl w.heap.size w).alloc (Nat.le_refl _) (.cells (ints .u8 K) 34))
  obtain ⟨p, c, rfl, hlc, hcell⟩ := hb
  obtain ⟨A, rfl, hA, hcs⟩ := hcell (by intro e; rw [e] at hm; simp at hm; omega)
  clear hcs hA
  rw [hm] at hV0 hlc ⊢
  have hne' : Kept (A.block ≠ g) := ⟨fun e => hne (by rw [← e]; rw [hm]; rfl)⟩
  clear hne
  have V0 : Kept _ := ⟨hV0⟩
  have B0 : Blk (w.alloc (.cells (ints .u8 K) 34)) w.heap.size 34 (ints .u8 K) := blk_new _ _ _
  have A0 : Blk (w.alloc (.cells (ints .u8 K) 34)) g t (ints .u8 (splice L off (X.take 0))) := by
    rw [List.take_zero, splice_nil]
    exact hg.alloc _
  have G0 : w.grownBy (w.alloc (.cells (ints .u8 K) 34)) (some g) := grown_under ((Below.refl w.heap.size w).alloc (Nat.le_refl _) _)
  have gl : g < w.heap.size := hg.lt
  clear hX hy hyK hK hm hoff hV0 hg
  go_enter Try.func14, Try.ntmps14
  go_wp2_with fail
  generalize hW : w.alloc (.cells (ints .u8 K) 34) = wa at *
  clear hW
  go_loopg [10] m (fun k s10 wr => ∃ i : Nat, i + k = m ∧ s10 = .int .i64 (i : Int) ∧ w.grownBy wr (some g) ∧ Kept (BytesV (.slice (some A) m c) wr bs) ∧ Blk wr w.heap.size 34 (ints .u8 K) ∧ Blk wr g t (ints .u8 (splice L off (X.take i))))
  case atStart => exact ⟨0, by omega, rfl, G0, V0, B0, A0⟩
  case round =>
    clear A0 B0 V0 G0
    obtain ⟨i, hik, rfl, HG, VB, B0, A0⟩ := hrel
    by_cases hi : i < m
    case pos =>
      have hi' : (i : Int) < (m : Int) := by omega
      have hi64 : i < 64 := by omega
      obtain ⟨x, hx⟩ : ∃ x, bs[i]? = some x := ⟨_, List.getElem?_eq_getElem (by have := LB.out; omega)⟩
      obtain ⟨y, hy⟩ : ∃ y, K[i]? = some y := ⟨_, List.getElem?_eq_getElem (by have := LK.out; omega)⟩
      obtain ⟨z, hz⟩ : ∃ z, z = x ^^^ y := ⟨_, rfl⟩
      have hx8 : x < 256 := KY.out i x hx
      have hy8 : y < 256 := KYK.out i y hy
      have GZ : Kept (X[i]? = some z) := ⟨by rw [EX.out, hz]; exact xorZ_get _ _ _ _ _ hx hy⟩
      have GY : Kept ((ints .u8 K)[i]? = some (.int .u8 (y : Int))) := ⟨ints_get hy⟩
      have CX : Kept (wr.cell? (A.add i) = some (.int .u8 (x : Int))) := ⟨by
        obtain ⟨p', c', e1, _, e3⟩ := VB.out
        cases e1
        obtain ⟨A', e4, _, e5⟩ := e3 (by intro e; rw [e] at hx; cases hx)
        cases e4
        exact e5 i x hx⟩
      have Ez : Kept _ := ⟨hz⟩
      obtain ⟨Y, hY⟩ : ∃ Y, Y = splice L off (X.take i) := ⟨_, rfl⟩
      have ES : Kept (Y.set (off + i) z = splice L off (X.take (i + 1))) := ⟨by rw [hY]; exact splice_snoc L X off i z GZ.out (by rw [LX.out]; exact LO.out)⟩
      have LY : Kept (off + i < (ints .u8 Y).size) := ⟨by rw [ints_size, hY, splice_len (by rw [List.length_take, LX.out]; have := LO.out; omega)]; have := LO.out; omega⟩
      rw [← hY] at A0
      clear hz hx hy hY
      go_wp2_with (first | ((with_reducible refine wv_val (d := 13) ?hd ?hw (.pointer (some (A.add i))) ?hr ?_); (case hd => rfl); (case hw => kernel_rfl); (case hr => intro w; exact run_idxS rfl (by kernel_rfl) (by kernel_rfl) Try.underlying27 hi sz_u8 w); simp only [Act.put, List.setIfInBounds_toArray, List.set_cons_succ, List.set_cons_zero]) | ((with_reducible refine wv_elem (d := 14) ?hd ?hw 5 ag_u8 (.tmp 13) ?ho (A.add i) ?hx (.int .u8 (x : Int)) ?hc ?_); (case hd => rfl); (case hw => kernel_rfl); (case ho => rfl); (case hx => kernel_rfl); (case hc => exact CX.out); simp only [Act.put, List.setIfInBounds_toArray, List.set_cons_succ, List.set_cons_zero]) | ((with_reducible refine wv_val (d := 19) ?hd ?hw (.pointer (some ⟨w.heap.size, i, none⟩)) ?hr ?_); (case hd => rfl); (case hw => kernel_rfl); (case hr => intro w; exact run_idx rfl (by kernel_rfl) (by kernel_rfl) Try.underlying34 hi64 sz_u8 w); simp only [Act.put, List.setIfInBounds_toArray, List.set_cons_succ, List.set_cons_zero]) | (refine wl_elem rfl 5 ag_u8 (.tmp 19) rfl w.heap.size i rfl _ (.int .u8 (y : Int)) B0 GY.out ?_) | ((with_reducible refine wv_val (d := 21) ?hd ?hw (.int .u8 (z : Int)) ?hr ?_); (case hd => rfl); (case hw => kernel_rfl); (case hr => intro w; exact run_xorV rfl (by kernel_rfl) (by kernel_rfl) hx8 hy8 Ez.out w); simp only [Act.put, List.setIfInBounds_toArray, List.set_cons_succ, List.set_cons_zero]) | ((with_reducible refine wv_val (d := 22) ?hd ?hw (.pointer (some ⟨g, off + i, none⟩)) ?hr ?_); (case hd => rfl); (case hw => kernel_rfl); (case hr => intro w; rw [← addr_add]; exact run_idxS rfl (by kernel_rfl) (by kernel_rfl) Try.underlying27 hi sz_u8 w); simp only [Act.put, List.setIfInBounds_toArray, List.set_cons_succ, List.set_cons_zero]) | (refine wl_setElem rfl 5 sz_u8 (.tmp 22) (.tmp 21) rfl g (off + i) .u8 (z : Int) rfl rfl _ A0 LY.out ?_))
      intro w4 A4 P4
      rw [ints_set, ES.out] at A4
      have B4 := P4.blk B0 (by omega)
      have V4 : Kept (BytesV (.slice (some A) m c) w4 bs) := ⟨IntsV.keeps VB.out P4.grown (.inr (fun e => hne'.out (by cases e; rfl)))⟩
      have HG4 := grown_put HG P4
      clear A0 B0 HG VB P4 GZ GY CX ES LY Ez
      go_wp2_with fail
      go_roundg (gk - 1)
      case measure => omega
      case rel => exact ⟨i + 1, by omega, by simp, HG4, V4, B4, A4⟩
    case neg =>
      have hi' : ¬ (i : Int) < (m : Int) := by omega
      rw [List.take_of_length_le (by rw [LX.out]; omega)] at A0
      clear B0 VB
      go_wp2_with fail
      go_end0
      exact ⟨rfl, HG, A0⟩
end Go.Proofs.Ythieljiplhhdeaa.sh
