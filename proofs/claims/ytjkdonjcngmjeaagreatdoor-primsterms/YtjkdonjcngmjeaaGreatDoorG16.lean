/-
  General pieces, joined: XH XI XJ XK XL.
-/
import Derived.Test.YtjkdonjcngmjeaaGreatDoorG14
import Derived.Test.YtjkdonjcngmjeaaGreatDoorG08
import Derived.Test.YtjkdonjcngmjeaaGreatDoorG11
import Derived.Test.YtjkdonjcngmjeaaGreatDoorG09
import Derived.Test.YtjkdonjcngmjeaaGreatDoorG10
import Derived.Test.YtjkdonjcngmjeaaGreatDoorG15
import Derived.Deep.Strs
/-
  Bytes turned by one block, by the program.
-/
namespace Go.Proofs.YtjkdonjcngmjeaaGreatDoor.sh
open Go Go.RowKit
set_option linter.unusedVariables false
set_option linter.unusedSimpArgs false

def xorZ (b k : List Nat) : List Nat := List.zipWith (· ^^^ ·) b k
theorem xorZ_len (b k : List Nat) (h : b.length ≤ k.length) : (xorZ b k).length = b.length := by simp [xorZ]; omega
theorem xorZ_get (b k : List Nat) (i x y : Nat) (hx : b[i]? = some x) (hy : k[i]? = some y) : (xorZ b k)[i]? = some (x ^^^ y) := by simp [xorZ, List.getElem?_zipWith, hx, hy]
theorem splice_snoc (L X : List Nat) (o i z : Nat) (h : X[i]? = some z) (hL : o + X.length ≤ L.length) : (splice L o (X.take i)).set (o + i) z = splice L o (X.take (i + 1)) := by
  have hi : i < X.length := (List.getElem?_eq_some_iff.1 h).1
  have e0 : (L.take o).length = o := by rw [List.length_take]; omega
  have e1 : (X.take i).length = i := by rw [List.length_take]; omega
  have e2 : (X.take (i + 1)).length = i + 1 := by rw [List.length_take]; omega
  have ed : L.drop (o + i) = L[o + i]'(by omega) :: L.drop (o + i + 1) := List.drop_eq_getElem_cons (by omega)
  unfold splice
  rw [e1, e2, List.set_append_right _ _ (by omega), e0, show o + i - o = i by omega, List.set_append_right _ _ (by omega), e1, Nat.sub_self, ed, List.set_cons_zero, List.take_add_one, h, show o + (i + 1) = o + i + 1 by omega]
  simp
theorem grown_put {w w1 w2 : World} {g : Nat} (h : w.grownBy w1 (some g)) (p : Put w1 w2 g) : w.grownBy w2 (some g) :=
  ⟨p.grown.os.trans h.os, p.grown.tape.trans h.tape, p.grown.output.trans h.output, by rw [p.size]; exact h.size, fun k hk hne => (p.grown.block k (by have := h.size; omega) hne).trans (h.block k hk hne)⟩
set_option maxRecDepth 100000 in
set_option maxHeartbeats 1000000 in
theorem turn_any (g off m co : Nat) (t : TypeId) (L bs K : List Nat) (vb : Value) (w : World) (hb : BytesV vb w bs) (hne : blkOf vb ≠ some g) (hy : Bytes bs) (hm : bs.length = m) (hm0 : 0 < m) (hm64 : m ≤ 64) (hK : K.length = 64) (hyK : Bytes K) (hg : Blk w g t (ints .u8 L)) (hoff : off + m ≤ L.length) :
    Calls Tryz.prog 60 #[.slice (some ⟨g, off, none⟩) m co, vb, .agg (ints .u8 K)] w fun e w' => e = .returned (.tuple #[]) ∧ w.grownBy w' (some g) ∧ Blk w' g t (ints .u8 (splice L off (xorZ bs K))) := by
  have KY : Kept _ := ⟨hy⟩
  have KYK : Kept _ := ⟨hyK⟩
  have LK : Kept _ := ⟨hK⟩
  have LB : Kept _ := ⟨hm⟩
  have LO : Kept _ := ⟨hoff⟩
  obtain ⟨X, hX⟩ : ∃ X, X = xorZ bs K := ⟨_, rfl⟩
  have EX : Kept _ := ⟨hX⟩
  have LX : Kept (X.length = m) := ⟨by rw [hX, xorZ_len _ _ (by omega), hm]⟩
  rw [← hX]
  have hV0 := hb.under ((Below.refl w.heap.size w).alloc (Nat.le_refl _) (.cells (ints .u8 K) 75))
  obtain ⟨p, c, rfl, hlc, hcell⟩ := hb
  obtain ⟨A, rfl, hA, hcs⟩ := hcell (by intro e; rw [e] at hm; simp at hm; omega)
  clear hcs hA
  rw [hm] at hV0 hlc ⊢
  have hne' : Kept (A.block ≠ g) := ⟨fun e => hne (by rw [← e]; rw [hm]; rfl)⟩
  clear hne
  have V0 : Kept _ := ⟨hV0⟩
  have B0 : Blk (w.alloc (.cells (ints .u8 K) 75)) w.heap.size 75 (ints .u8 K) := blk_new _ _ _
  have A0 : Blk (w.alloc (.cells (ints .u8 K) 75)) g t (ints .u8 (splice L off (X.take 0))) := by
    rw [List.take_zero, splice_nil]
    exact hg.alloc _
  have G0 : w.grownBy (w.alloc (.cells (ints .u8 K) 75)) (some g) := grown_under ((Below.refl w.heap.size w).alloc (Nat.le_refl _) _)
  have gl : g < w.heap.size := hg.lt
  clear hX hy hyK hK hm hoff hV0 hg
  go_enter Tryz.func60, Tryz.ntmps60
  go_wp2_with fail
  generalize hW : w.alloc (.cells (ints .u8 K) 75) = wa at *
  clear hW
  go_loopg [10] m (fun k s10 wr => ∃ i : Nat, i + k = m ∧ s10 = .int .i64 (i : Int) ∧ w.grownBy wr (some g) ∧ Kept (BytesV (.slice (some A) m c) wr bs) ∧ Blk wr w.heap.size 75 (ints .u8 K) ∧ Blk wr g t (ints .u8 (splice L off (X.take i))))
  case atStart => exact ⟨0, by omega, rfl, G0, V0, B0, A0⟩
  case round =>
    clear A0 B0 V0 G0
    obtain ⟨i, hik, rfl, HG, VB, B0, A0⟩ := hrel
    by_cases hi : i < m
    case pos =>
      have hi' : (i : Int) < (m : Int) := by omega
      have hi64 : i < 64 := by omega
      obtain ⟨x, hx⟩ : ∃ x, bs[i]? = some x := ⟨_, List.getElem?_eq_getElem (by have := LB.out; omega)⟩
      obtain ⟨y, hy⟩ : ∃ y, K[i]? = some y := ⟨_, List.getElem?_eq_getElem (by have := LK.out; omega)⟩
      obtain ⟨z, hz⟩ : ∃ z, z = x ^^^ y := ⟨_, rfl⟩
      have hx8 : x < 256 := KY.out i x hx
      have hy8 : y < 256 := KYK.out i y hy
      have GZ : Kept (X[i]? = some z) := ⟨by rw [EX.out, hz]; exact xorZ_get _ _ _ _ _ hx hy⟩
      have GY : Kept ((ints .u8 K)[i]? = some (.int .u8 (y : Int))) := ⟨ints_get hy⟩
      have CX : Kept (wr.cell? (A.add i) = some (.int .u8 (x : Int))) := ⟨by
        obtain ⟨p', c', e1, _, e3⟩ := VB.out
        cases e1
        obtain ⟨A', e4, _, e5⟩ := e3 (by intro e; rw [e] at hx; cases hx)
        cases e4
        exact e5 i x hx⟩
      have Ez : Kept _ := ⟨hz⟩
      obtain ⟨Y, hY⟩ : ∃ Y, Y = splice L off (X.take i) := ⟨_, rfl⟩
      have ES : Kept (Y.set (off + i) z = splice L off (X.take (i + 1))) := ⟨by rw [hY]; exact splice_snoc L X off i z GZ.out (by rw [LX.out]; exact LO.out)⟩
      have LY : Kept (off + i < (ints .u8 Y).size) := ⟨by rw [ints_size, hY, splice_len (by rw [List.length_take, LX.out]; have := LO.out; omega)]; have := LO.out; omega⟩
      rw [← hY] at A0
      clear hz hx hy hY
      go_wp2_with (first | ((with_reducible refine wv_val (d := 13) ?hd ?hw (.pointer (some (A.add i))) ?hr ?_); (case hd => rfl); (case hw => kernel_rfl); (case hr => intro w; exact run_idxS rfl (by kernel_rfl) (by kernel_rfl) Tryz.underlying34 hi sz_u8 w); simp only [Act.put, List.setIfInBounds_toArray, List.set_cons_succ, List.set_cons_zero]) | ((with_reducible refine wv_elem (d := 14) ?hd ?hw 5 ag_u8 (.tmp 13) ?ho (A.add i) ?hx (.int .u8 (x : Int)) ?hc ?_); (case hd => rfl); (case hw => kernel_rfl); (case ho => rfl); (case hx => kernel_rfl); (case hc => exact CX.out); simp only [Act.put, List.setIfInBounds_toArray, List.set_cons_succ, List.set_cons_zero]) | ((with_reducible refine wv_val (d := 19) ?hd ?hw (.pointer (some ⟨w.heap.size, i, none⟩)) ?hr ?_); (case hd => rfl); (case hw => kernel_rfl); (case hr => intro w; exact run_idx rfl (by kernel_rfl) (by kernel_rfl) Tryz.underlying75 hi64 sz_u8 w); simp only [Act.put, List.setIfInBounds_toArray, List.set_cons_succ, List.set_cons_zero]) | (refine wl_elem rfl 5 ag_u8 (.tmp 19) rfl w.heap.size i rfl _ (.int .u8 (y : Int)) B0 GY.out ?_) | ((with_reducible refine wv_val (d := 21) ?hd ?hw (.int .u8 (z : Int)) ?hr ?_); (case hd => rfl); (case hw => kernel_rfl); (case hr => intro w; exact run_xorV rfl (by kernel_rfl) (by kernel_rfl) hx8 hy8 Ez.out w); simp only [Act.put, List.setIfInBounds_toArray, List.set_cons_succ, List.set_cons_zero]) | ((with_reducible refine wv_val (d := 22) ?hd ?hw (.pointer (some ⟨g, off + i, none⟩)) ?hr ?_); (case hd => rfl); (case hw => kernel_rfl); (case hr => intro w; rw [← addr_add]; exact run_idxS rfl (by kernel_rfl) (by kernel_rfl) Tryz.underlying34 hi sz_u8 w); simp only [Act.put, List.setIfInBounds_toArray, List.set_cons_succ, List.set_cons_zero]) | (refine wl_setElem rfl 5 sz_u8 (.tmp 22) (.tmp 21) rfl g (off + i) .u8 (z : Int) rfl rfl _ A0 LY.out ?_))
      intro w4 A4 P4
      rw [ints_set, ES.out] at A4
      have B4 := P4.blk B0 (by omega)
      have V4 : Kept (BytesV (.slice (some A) m c) w4 bs) := ⟨IntsV.keeps VB.out P4.grown (.inr (fun e => hne'.out (by cases e; rfl)))⟩
      have HG4 := grown_put HG P4
      clear A0 B0 HG VB P4 GZ GY CX ES LY Ez
      go_wp2_with fail
      go_roundg (gk - 1)
      case measure => omega
      case rel => exact ⟨i + 1, by omega, by simp, HG4, V4, B4, A4⟩
    case neg =>
      have hi' : ¬ (i : Int) < (m : Int) := by omega
      rw [List.take_of_length_le (by rw [LX.out]; omega)] at A0
      clear B0 VB
      go_wp2_with fail
      go_end0
      exact ⟨rfl, HG, A0⟩
end Go.Proofs.YtjkdonjcngmjeaaGreatDoor.sh
/-
  Bytes turned by blocks, by the program.
-/
namespace Go.Proofs.YtjkdonjcngmjeaaGreatDoor.sh
open Go Go.RowKit
set_option linter.unusedVariables false
set_option linter.unusedSimpArgs false

theorem run_c3264 {o : Oper} {a : Act} {x : Operand} {z : Nat} (ho : o.op = .convert 72 22 x) (hx : a.eval x = .int .u32 (z : Int)) (hz : z < 4294967296) (w : World) : (execOp a.eval o).run Tryz.prog w = .ok (.value (.int .u64 (z : Int))) w := by
  unfold execOp
  simp only [ho, hx]
  simp [go_sem, IntKind.wrap_u64]
  omega
theorem run_c364 {o : Oper} {a : Act} {x : Operand} {z : Nat} (ho : o.op = .convert 3 22 x) (hx : a.eval x = .int .i64 (z : Int)) (hz : z < 4611686018427387904) (w : World) : (execOp a.eval o).run Tryz.prog w = .ok (.value (.int .u64 (z : Int))) w := by
  unfold execOp
  simp only [ho, hx]
  simp [go_sem, IntKind.wrap_u64]
  omega
theorem run_add64 {o : Oper} {a : Act} {x y : Operand} {m n z : Nat} (ho : o.op = .binOp .add 22 x y 22) (hx : a.eval x = .int .u64 (m : Int)) (hy : a.eval y = .int .u64 (n : Int)) (hz : z = m + n) (h62 : z < 4611686018427387904) (w : World) : (execOp a.eval o).run Tryz.prog w = .ok (.value (.int .u64 (z : Int))) w := by
  unfold execOp
  simp only [ho, hx, hy]
  simp [go_sem, IntKind.wrap_u64]
  omega
theorem run_gtr64c {o : Oper} {a : Act} {x : Operand} {m : Nat} {b : Bool} (ho : o.op = .binOp .gtr 22 x (.const (.int .u64 4294967296)) 22) (hx : a.eval x = .int .u64 (m : Int)) (hb : b = decide (4294967296 < m)) (w : World) : (execOp a.eval o).run Tryz.prog w = .ok (.value (.bool b)) w := by
  have e3 : a.eval (.const (.int .u64 4294967296)) = .int .u64 4294967296 := rfl
  unfold execOp
  simp only [ho, hx, e3]
  simp [go_sem, hb]
  omega
theorem run_c332 {o : Oper} {a : Act} {x : Operand} {z : Nat} (ho : o.op = .convert 3 72 x) (hx : a.eval x = .int .i64 (z : Int)) (hz : z < 4294967296) (w : World) : (execOp a.eval o).run Tryz.prog w = .ok (.value (.int .u32 (z : Int))) w := by
  unfold execOp
  simp only [ho, hx]
  simp [go_sem, IntKind.wrap_u32']
  omega
theorem run_addZ {o : Oper} {a : Act} {x : Operand} {i z : Nat} (c : Nat) (ho : o.op = .binOp .add 3 x (.const (.int .i64 (c : Int))) 3) (hx : a.eval x = .int .i64 (i : Int)) (hz : z = i + c) (hi : z < 4611686018427387904) (w : World) : (execOp a.eval o).run Tryz.prog w = .ok (.value (.int .i64 (z : Int))) w := by
  subst hz
  exact run_addI c ho hx hi w
theorem run_subZ {o : Oper} {a : Act} {x : Operand} {i z : Nat} (c : Nat) (ho : o.op = .binOp .sub 3 x (.const (.int .i64 (c : Int))) 3) (hx : a.eval x = .int .i64 (i : Int)) (hz : i = z + c) (hi : i < 4611686018427387904) (w : World) : (execOp a.eval o).run Tryz.prog w = .ok (.value (.int .i64 (z : Int))) w := by
  have h := run_subI c ho hx (by omega) hi w
  rw [show i - c = z by omega] at h
  exact h
set_option maxHeartbeats 400000 in
theorem blocks_any (n B : Nat) (w : World) (hn : n < 1000000000000) (hB : B = (n + 63) / 64) :
    Calls Tryz.prog 59 #[.int .i64 (n : Int)] w fun e w' => e = .returned (.int .i64 (B : Int)) ∧ w' = w := by
  obtain ⟨n4, h4⟩ : ∃ m, m = n + 64 := ⟨_, rfl⟩
  obtain ⟨n3, h3⟩ : ∃ m, m = n + 63 := ⟨_, rfl⟩
  have E4 : Kept _ := ⟨h4⟩
  have E3 : Kept (n4 = n3 + 1) := ⟨by omega⟩
  have EB : Kept (B = n3 / 64) := ⟨by rw [hB, h3]⟩
  have L4 : n4 < 4611686018427387904 := by omega
  have L3 : n3 < 4611686018427387904 := by omega
  clear hB h3 h4
  go_enter Tryz.func59, Tryz.ntmps59
  go_wp2_with (first | ((with_reducible refine wv_val (d := 4) ?hd ?hw (.int .i64 (n4 : Int)) ?hr ?_); (case hd => rfl); (case hw => kernel_rfl); (case hr => intro w; exact run_addZ 64 rfl (by kernel_rfl) E4.out L4 w); simp only [Act.put, List.setIfInBounds_toArray, List.set_cons_succ, List.set_cons_zero]) | ((with_reducible refine wv_val (d := 5) ?hd ?hw (.int .i64 (n3 : Int)) ?hr ?_); (case hd => rfl); (case hw => kernel_rfl); (case hr => intro w; exact run_subZ 1 rfl (by kernel_rfl) E3.out L4 w); simp only [Act.put, List.setIfInBounds_toArray, List.set_cons_succ, List.set_cons_zero]) | ((with_reducible refine wv_val (d := 6) ?hd ?hw (.int .i64 (B : Int)) ?hr ?_); (case hd => rfl); (case hw => kernel_rfl); (case hr => intro w; exact run_quo64 rfl (by kernel_rfl) EB.out L3 w); simp only [Act.put, List.setIfInBounds_toArray, List.set_cons_succ, List.set_cons_zero]))
  go_ret
  exact ⟨rfl, rfl⟩
theorem W2_below (w : World) (k n : Array Value) : Below w.heap.size w ((w.alloc (.cells k 30)).alloc (.cells n 80)) := ((Below.refl _ _).alloc (Nat.le_refl _) _).alloc (by simp) _

end Go.Proofs.YtjkdonjcngmjeaaGreatDoor.sh
/-
  Bytes turned by blocks, by the program: where nothing is refused.
-/
namespace Go.Proofs.YtjkdonjcngmjeaaGreatDoor.sh
open Go Go.RowKit
set_option linter.unusedVariables false
set_option linter.unusedSimpArgs false

theorem mix_piece (L Z : List Nat) (f m : Nat) (hl : L.length = Z.length) (hm : f + m ≤ L.length) : splice (mix L Z f) f ((L.drop f).take m) = mix L Z (f + m) := by
  have e0 : (L.take f).length = f := by rw [List.length_take]; omega
  have e1 : ((L.drop f).take m).length = m := by rw [List.length_take, List.length_drop]; omega
  have e2 : (L.take f ++ Z.drop f).drop (f + m) = Z.drop (f + m) := by
    rw [List.drop_append, List.drop_of_length_le (by rw [e0]; omega), List.nil_append, e0, List.drop_drop]
    congr 1
    omega
  have e3 : L.take (f + m) = L.take f ++ (L.drop f).take m := List.take_add
  unfold splice mix
  rw [e1, List.take_left' e0, e2, e3, List.append_assoc]
theorem enc_piece (key nonce b : List Nat) (count i m : Nat) (hm : m ≤ 64) (hl : 64 * i + m ≤ b.length) : xorZ ((b.drop (64 * i)).take m) (blockL key nonce (count + i)) = ((encL key nonce count b).drop (64 * i)).take m := by
  apply List.ext_getElem?
  intro j
  by_cases hj : j < m
  · have eb : ((b.drop (64 * i)).take m)[j]? = some (b[64 * i + j]'(by omega)) := by rw [List.getElem?_take_of_lt hj, List.getElem?_drop]; exact List.getElem?_eq_getElem _
    have eb2 : b[64 * i + j]? = some (b[64 * i + j]'(by omega)) := List.getElem?_eq_getElem _
    have ek : (blockL key nonce (count + i))[j]? = some ((blockL key nonce (count + i)).getD j 0) := by rw [List.getD_eq_getElem?_getD, List.getElem?_eq_getElem (by rw [blockL_len]; omega)]; rfl
    rw [xorZ_get _ _ _ _ _ eb ek, List.getElem?_take_of_lt hj, List.getElem?_drop, encL_get _ _ _ _ _ _ eb2]
    unfold padB
    rw [show (64 * i + j) % 64 = j by omega, show (64 * i + j) / 64 = i by omega]
  · rw [List.getElem?_eq_none, List.getElem?_eq_none]
    · rw [List.length_take]; omega
    · rw [xorZ_len _ _ (by rw [blockL_len, List.length_take]; omega), List.length_take]; omega
section
variable {o : Oper} {a : Act} {x y z : Operand}
theorem cut_in {p pf : Option Addr} {l c k m mm cc : Nat} {t e : TypeId} (ho : o.op = .slice t x (some y) (some z) none) (hx : a.eval x = .slice p l c) (hy : a.eval y = .int .i64 (k : Int)) (hz : a.eval z = .int .i64 (m : Int)) (ht : Tryz.prog.underlying t = some (.slice e)) (sz : ∀ w, (sizeOf e).run Tryz.prog w = .ok 1 w) (hk : k ≤ m) (hm : m ≤ c) (hpf : pf = if c = k then p else p.map (·.add k)) (hmm : mm = m - k) (hcc : cc = c - k) (w : World) :
    (execOp a.eval o).run Tryz.prog w = .ok (.value (.slice pf mm cc)) w := by
  rw [hpf, hmm, hcc]
  exact cuts_run ho hx hy hz ht sz hk hm w
theorem cut_own {g l c k m mm cc : Nat} {t e : TypeId} (ho : o.op = .slice t x (some y) (some z) none) (hx : a.eval x = .slice (some ⟨g, 0, none⟩) l c) (hy : a.eval y = .int .i64 (k : Int)) (hz : a.eval z = .int .i64 (m : Int)) (ht : Tryz.prog.underlying t = some (.slice e)) (sz : ∀ w, (sizeOf e).run Tryz.prog w = .ok 1 w) (hk : k ≤ m) (hm : m ≤ c) (hkc : k < c) (hmm : mm = m - k) (hcc : cc = c - k) (w : World) :
    (execOp a.eval o).run Tryz.prog w = .ok (.value (.slice (some ⟨g, k, none⟩) mm cc)) w :=
  cut_in ho hx hy hz ht sz hk hm (by rw [if_neg (by omega), Option.map_some, addr_add, Nat.zero_add]) hmm hcc w
end
theorem blk_row {w : World} {base g n : Nat} {e : TypeId} {k : IntKind} {l : List Nat} (h : Blk w g e (ints k l)) (hn : l.length = n) (hb : base ≤ g) (hm : n ≤ maxLen) : Row base e k l (.slice (some ⟨g, 0, none⟩) n n) w := by
  subst hn
  unfold Row
  exact ⟨by simp [ints], .inr ⟨g, l.length, _, rfl, hb, h, Nat.le_refl _, hm, by rw [ints_size, Nat.mul_one], by rw [Nat.mul_one, List.take_of_length_le (by simp [ints])]⟩⟩

set_option maxRecDepth 100000 in
set_option maxHeartbeats 2000000 in
theorem Xor_ok (key nonce b : List Nat) (count : Nat) (vb : Value) (w : World) (hk : key.length = 32) (hy : Bytes key) (hnl : nonce.length = 12) (hyn : Bytes nonce) (hyb : Bytes b) (hvb : BytesV vb w b) (hc : count < 4294967296) (h : b.length ≤ 65536) (he : count + (b.length + 63) / 64 ≤ 4294967296) :
    Calls Tryz.prog 34 #[.agg (ints .u8 key), .agg (ints .u8 nonce), .int .u32 (count : Int), vb] w fun e w' => ∃ v, e = .returned (.tuple #[v, .int .i64 0]) ∧ Row w.heap.size 5 .u8 (encL key nonce count b) v w' ∧ Below w.heap.size w w' := by
  have KV : Kept _ := ⟨hvb⟩
  have hvb2 := hvb
  obtain ⟨p, c, rfl, hlc, hp⟩ := hvb
  obtain ⟨n, hn⟩ : ∃ n, n = b.length := ⟨_, rfl⟩
  rw [← hn] at h he hlc KV ⊢
  have EN : Kept _ := ⟨hn⟩
  obtain ⟨B, hB⟩ : ∃ B, B = (n + 63) / 64 := ⟨_, rfl⟩
  obtain ⟨S, hS⟩ : ∃ S, S = count + B := ⟨_, rfl⟩
  have hBB : Kept (false = decide (4294967296 < S)) := ⟨(decide_eq_false (by omega)).symm⟩
  have HS : Kept _ := ⟨hS⟩
  have HB : Kept _ := ⟨hB⟩
  have hB62 : B < 4611686018427387904 := by omega
  have hS62 : S < 4611686018427387904 := by omega
  have hcB : count + B ≤ 4294967296 := by omega
  have hBn : B ≤ n := by omega
  obtain ⟨L, hL⟩ : ∃ L, L = encL key nonce count b := ⟨_, rfl⟩
  rw [← hL]
  have EL : Kept _ := ⟨hL⟩
  have LL : Kept (L.length = n) := ⟨by rw [hL, encL_len, ← hn]⟩
  have CBk : Kept (∀ (ct : Nat) (w' : World), ct < 4294967296 → Calls Tryz.prog 61 #[.agg (ints .u8 key), .agg (ints .u8 nonce), .int .u32 (ct : Int)] w' fun e w2 => e = .returned (.agg (ints .u8 (blockL key nonce ct))) ∧ Below w'.heap.size w' w2) := ⟨fun ct w' h => Block_any key nonce ct w' hk hy hnl hyn h⟩
  have LK : Kept _ := ⟨hk⟩
  have LN : Kept _ := ⟨hnl⟩
  have KYB : Kept _ := ⟨hyb⟩
  have hpb : Kept (∀ A, p = some A → b ≠ [] → A.block < w.heap.size) := ⟨fun A hA hb => by obtain ⟨A', e1, e2, _⟩ := hp hb; rw [hA] at e1; cases e1; exact e2⟩
  obtain ⟨Z, hZ⟩ : ∃ Z, Z = List.replicate n 0 := ⟨_, rfl⟩
  have LZ : Kept (Z.length = n) := ⟨by rw [hZ]; simp⟩
  have Q0 := W2_below w (ints .u8 key) (ints .u8 nonce)
  have A0 : Blk (((w.alloc (.cells (ints .u8 key) 30)).alloc (.cells (ints .u8 nonce) 80)).alloc (.cells (ints .u8 (List.replicate n 0)) 5)) w.heap.size 30 (ints .u8 key) := ((blk_new w _ _).alloc _).alloc _
  have A1 : Blk (((w.alloc (.cells (ints .u8 key) 30)).alloc (.cells (ints .u8 nonce) 80)).alloc (.cells (ints .u8 (List.replicate n 0)) 5)) (w.heap.size + 1) 80 (ints .u8 nonce) := (blk_top _ _ _ _ (by simp)).alloc _
  have A2 : Blk (((w.alloc (.cells (ints .u8 key) 30)).alloc (.cells (ints .u8 nonce) 80)).alloc (.cells (ints .u8 (List.replicate n 0)) 5)) (w.heap.size + 2) 5 (ints .u8 (mix L Z (min (64 * 0) n))) := by rw [Nat.mul_zero, Nat.zero_min, mix_zero, hZ]; exact blk_top _ _ _ _ (by simp)
  have Q1 : Below w.heap.size w (((w.alloc (.cells (ints .u8 key) 30)).alloc (.cells (ints .u8 nonce) 80)).alloc (.cells (ints .u8 (List.replicate n 0)) 5)) := Q0.alloc (by simp; omega) _
  have h' : ¬ (65536 : Int) < (n : Int) := by omega
  clear hn hB hS he hL hk hy hnl hyn hyb hZ hp Q0 hvb2
  go_enter Tryz.func34, Tryz.ntmps34
  go_wp2_with fail
  refine (blocks_any n B _ (by omega) HB.out).mono ?_
  rintro e w' ⟨rfl, hw'⟩
  obtain rfl := hw'.symm
  clear hw'
  go_wp2_with (first | ((with_reducible refine wv_val (d := 24) ?hd ?hw (.bool false) ?hr ?_); (case hd => rfl); (case hw => kernel_rfl); (case hr => intro w; exact run_gtr64c rfl (by kernel_rfl) hBB.out w); simp only [Act.put, List.setIfInBounds_toArray, List.set_cons_succ, List.set_cons_zero]) | ((with_reducible refine wv_val (d := 18) ?hd ?hw (.int .u64 (count : Int)) ?hr ?_); (case hd => rfl); (case hw => kernel_rfl); (case hr => intro w; exact run_c3264 rfl (by kernel_rfl) hc w); simp only [Act.put, List.setIfInBounds_toArray, List.set_cons_succ, List.set_cons_zero]) | ((with_reducible refine wv_val (d := 22) ?hd ?hw (.int .u64 (B : Int)) ?hr ?_); (case hd => rfl); (case hw => kernel_rfl); (case hr => intro w; exact run_c364 rfl (by kernel_rfl) hB62 w); simp only [Act.put, List.setIfInBounds_toArray, List.set_cons_succ, List.set_cons_zero]) | ((with_reducible refine wv_val (d := 23) ?hd ?hw (.int .u64 (S : Int)) ?hr ?_); (case hd => rfl); (case hw => kernel_rfl); (case hr => intro w; exact run_add64 rfl (by kernel_rfl) (by kernel_rfl) HS.out hS62 w); simp only [Act.put, List.setIfInBounds_toArray, List.set_cons_succ, List.set_cons_zero]) | (refine wl_make rfl (.tmp 26) rfl .i64 n rfl (by omega) ?_))
  generalize hW : ((w.alloc (.cells (ints .u8 key) 30)).alloc (.cells (ints .u8 nonce) 80)).alloc (.cells (ints .u8 (List.replicate n 0)) 5) = wa at *
  clear hW
  refine (blocks_any n B wa (by omega) HB.out).mono ?_
  rintro e w' ⟨rfl, hw'⟩
  obtain rfl := hw'.symm
  clear hw'
  go_wp2_with fail
  go_loopg [31] B (fun k s31 wr => ∃ i : Nat, i + k = B ∧ s31 = .int .i64 (i : Int) ∧ Below w.heap.size w wr ∧ Blk wr w.heap.size 30 (ints .u8 key) ∧ Blk wr (w.heap.size + 1) 80 (ints .u8 nonce) ∧ Blk wr (w.heap.size + 2) 5 (ints .u8 (mix L Z (min (64 * i) n))))
  case atStart => exact ⟨0, by omega, rfl, Q1, A0, A1, A2⟩
  case round =>
    clear A0 A1 A2 Q1
    obtain ⟨i, hik, rfl, HW, A0, A1, A2⟩ := hrel
    by_cases hi : i < B
    case pos =>
      have hi' : (i : Int) < (B : Int) := by omega
      obtain ⟨f, hf⟩ : ∃ f, f = i * 64 := ⟨_, rfl⟩
      obtain ⟨f4, hf4⟩ : ∃ f4, f4 = f + 64 := ⟨_, rfl⟩
      obtain ⟨tt, ht⟩ : ∃ t, t = min f4 n := ⟨_, rfl⟩
      obtain ⟨m, hm⟩ : ∃ m, m = tt - f := ⟨_, rfl⟩
      obtain ⟨co, hco⟩ : ∃ m, m = n - f := ⟨_, rfl⟩
      obtain ⟨cf, hcf⟩ : ∃ m, m = c - f := ⟨_, rfl⟩
      obtain ⟨pf, hpf⟩ : ∃ q, q = if c = f then p else p.map (·.add f) := ⟨_, rfl⟩
      obtain ⟨ci, hci⟩ : ∃ q, q = (count + i) % 4294967296 := ⟨_, rfl⟩
      obtain ⟨KB, hKB⟩ : ∃ q, q = blockL key nonce ci := ⟨_, rfl⟩
      have hfn : f < n := by have := HB.out; omega
      have hft : f ≤ tt := by omega
      have htn : tt ≤ n := by omega
      have htc : tt ≤ c := by omega
      have hi32 : i < 4294967296 := by omega
      have hci2 : ci = count + i := by rw [hci]; exact Nat.mod_eq_of_lt (by omega)
      have hci4 : ci < 4294967296 := by omega
      have CB : Kept (∀ w', Below wr.heap.size wr w' → Calls Tryz.prog 61 [.agg (ints .u8 key), .agg (ints .u8 nonce), .int .u32 (ci : Int)].toArray w' fun e w2 => e = .returned (.agg (ints .u8 KB)) ∧ Below w'.heap.size w' w2) := ⟨fun w' _ => by rw [hKB]; exact CBk.out ci w' hci4⟩
      have m0 : 0 < m := by omega
      have m64 : m ≤ 64 := by omega
      have hfm : f + m = tt := by omega
      have hmin : min (64 * i) n = f := by omega
      have hmin2 : min (64 * (i + 1)) n = tt := by omega
      rw [hmin] at A2
      have VP : Kept (BytesV (.slice pf m cf) w ((b.drop f).take m)) := ⟨by
        rw [hpf, hcf]
        exact KV.out.piece (by have := EN.out; omega)⟩
      have HBF : Kept (blkOf (.slice pf m cf) ≠ some (w.heap.size + 2)) := ⟨fun e => by
        rw [hpf] at e
        obtain ⟨A, hA⟩ : ∃ A, p = some A := by
          cases hp : p with
          | none => rw [hp] at e; split at e <;> cases e
          | some A => exact ⟨A, rfl⟩
        have hlt := hpb.out A hA (by intro e0; have := EN.out; rw [e0] at this; simp at this; omega)
        rw [hA] at e
        have hbl : (A.add f).block = A.block := by simp [Addr.add]; try (split <;> rfl)
        split at e
        · have : A.block = w.heap.size + 2 := by simpa [blkOf] using e
          omega
        · have : (A.add f).block = w.heap.size + 2 := by simpa [blkOf] using e
          omega⟩
      have EX : Kept (splice (mix L Z f) f (xorZ ((b.drop f).take m) KB) = mix L Z (min (64 * (i + 1)) n)) := ⟨by
        have e64 : f = 64 * i := by omega
        rw [hmin2, hKB, hci2, e64, enc_piece key nonce b count i m m64 (by have := EN.out; omega), ← EL.out, ← e64, mix_piece L Z f m (by rw [LL.out, LZ.out]) (by rw [LL.out]; omega), hfm]⟩
      have LKB : Kept (KB.length = 64) := ⟨by rw [hKB]; exact blockL_len _ _ _⟩
      have YKB : Kept (Bytes KB) := ⟨by rw [hKB]; exact blockL_bytes _ _ _⟩
      have LPC : Kept (((b.drop f).take m).length = m) := ⟨by rw [List.length_take, List.length_drop, ← EN.out]; omega⟩
      have YPC : Kept (Bytes ((b.drop f).take m)) := ⟨(KYB.out.drop f).take m⟩
      have LM : Kept (f + m ≤ (mix L Z f).length) := ⟨by rw [mix_len _ _ _ (by rw [LL.out, LZ.out]), LZ.out]; omega⟩
      have Ef : Kept _ := ⟨hf⟩
      have Ef4 : Kept _ := ⟨hf4⟩
      have Et : Kept _ := ⟨ht⟩
      have Em : Kept _ := ⟨hm⟩
      have Eco : Kept _ := ⟨hco⟩
      have Ecf : Kept _ := ⟨hcf⟩
      have Epf : Kept _ := ⟨hpf⟩
      have Eci : Kept _ := ⟨hci⟩
      have f62 : f < 4611686018427387904 := by omega
      have f462 : f4 < 4611686018427387904 := by omega
      clear hf hf4 ht hm hco hcf hpf hci hKB hci2 hfm hmin hmin2
      go_wp2_with (first | ((with_reducible refine wv_val (d := 35) ?hd ?hw (.int .i64 (f : Int)) ?hr ?_); (case hd => rfl); (case hw => kernel_rfl); (case hr => intro w; exact run_mulK 64 rfl (by kernel_rfl) Ef.out f62 w); simp only [Act.put, List.setIfInBounds_toArray, List.set_cons_succ, List.set_cons_zero]) | ((with_reducible refine wv_val (d := 37) ?hd ?hw (.int .i64 (f4 : Int)) ?hr ?_); (case hd => rfl); (case hw => kernel_rfl); (case hr => intro w; exact run_addZ 64 rfl (by kernel_rfl) Ef4.out f462 w); simp only [Act.put, List.setIfInBounds_toArray, List.set_cons_succ, List.set_cons_zero]) | ((with_reducible refine wv_val (d := 40) ?hd ?hw (.int .i64 (tt : Int)) ?hr ?_); (case hd => rfl); (case hw => kernel_rfl); (case hr => intro w; exact run_min2 rfl (by kernel_rfl) (by kernel_rfl) Et.out w); simp only [Act.put, List.setIfInBounds_toArray, List.set_cons_succ, List.set_cons_zero]))
      refine region_ownL wr 15 [(41, .slice (some ⟨w.heap.size + 2, 0, none⟩) n n), (42, .int .i64 (f : Int)), (43, .int .i64 (tt : Int)), (44, .slice (some ⟨w.heap.size + 2, f, none⟩) m co), (45, .slice p n c), (46, .int .i64 (f : Int)), (47, .int .i64 (tt : Int)), (48, .slice pf m cf), (49, .agg (ints .u8 key)), (50, .agg (ints .u8 nonce)), (51, .int .u32 (count : Int)), (52, .int .i64 (i : Int)), (53, .int .u32 (i : Int)), (54, .int .u32 (ci : Int)), (55, .agg (ints .u8 KB))] [] [] [] rfl (by kernel_rfl) (by kernel_rfl) (by kernel_rfl) (by kernel_rfl) (by kernel_rfl) (by kernel_rfl) (by kernel_rfl) (by kernel_rfl) (by kernel_rfl) (by kernel_rfl) (by kernel_rfl) ?hst1 ?hst2 (Below.refl _ _) (fun hA => ⟨ow_val hA (wants_none rfl) 41 (.slice (some ⟨w.heap.size + 2, 0, none⟩) n n) (by kernel_rfl) rfl rfl rfl rfl (by kernel_rfl) (fun w => by kernel_rfl), ow_val hA (wants_none rfl) 42 (.int .i64 (f : Int)) (by kernel_rfl) rfl rfl rfl rfl (by kernel_rfl) (fun w => by kernel_rfl), ow_val hA (wants_none rfl) 43 (.int .i64 (tt : Int)) (by kernel_rfl) rfl rfl rfl rfl (by kernel_rfl) (fun w => by kernel_rfl), ow_val hA (wants_none rfl) 44 (.slice (some ⟨w.heap.size + 2, f, none⟩) m co) (by kernel_rfl) rfl rfl rfl rfl (by kernel_rfl) (fun w => cut_own (l := n) (c := n) (k := f) (m := tt) rfl (by kernel_rfl) (by kernel_rfl) (by kernel_rfl) Tryz.underlying34 sz_u8 hft htn hfn Em.out Eco.out w), ow_val hA (wants_none rfl) 45 (.slice p n c) (by kernel_rfl) rfl rfl rfl rfl (by kernel_rfl) (fun w => by kernel_rfl), ow_val hA (wants_none rfl) 46 (.int .i64 (f : Int)) (by kernel_rfl) rfl rfl rfl rfl (by kernel_rfl) (fun w => by kernel_rfl), ow_val hA (wants_none rfl) 47 (.int .i64 (tt : Int)) (by kernel_rfl) rfl rfl rfl rfl (by kernel_rfl) (fun w => by kernel_rfl), ow_val hA (wants_none rfl) 48 (.slice pf m cf) (by kernel_rfl) rfl rfl rfl rfl (by kernel_rfl) (fun w => cut_in (p := p) (l := n) (c := c) (k := f) (m := tt) rfl (by kernel_rfl) (by kernel_rfl) (by kernel_rfl) Tryz.underlying34 sz_u8 hft htc Epf.out Em.out Ecf.out w), ow_row hA (wants_none rfl) 49 (.agg (ints .u8 key)) (by kernel_rfl) rfl rfl rfl rfl (by kernel_rfl) 30 (.tmp 4) rfl (w.heap.size) (by kernel_rfl) 30 (ints .u8 key) 32 5 Tryz.underlying30 ((by rw [ints_size, LK.out]; exact t32_info)) (fun w1 hb => A0.under hb) rfl, ow_row hA (wants_none rfl) 50 (.agg (ints .u8 nonce)) (by kernel_rfl) rfl rfl rfl rfl (by kernel_rfl) 80 (.tmp 5) rfl (w.heap.size + 1) (by kernel_rfl) 80 (ints .u8 nonce) 12 5 Tryz.underlying80 ((by rw [ints_size, LN.out]; exact i12_info)) (fun w1 hb => A1.under hb) rfl, ow_val hA (wants_none rfl) 51 (.int .u32 (count : Int)) (by kernel_rfl) rfl rfl rfl rfl (by kernel_rfl) (fun w => by kernel_rfl), ow_val hA (wants_none rfl) 52 (.int .i64 (i : Int)) (by kernel_rfl) rfl rfl rfl rfl (by kernel_rfl) (fun w => by kernel_rfl), ow_val hA (wants_none rfl) 53 (.int .u32 (i : Int)) (by kernel_rfl) rfl rfl rfl rfl (by kernel_rfl) (fun w => run_c332 rfl (by kernel_rfl) hi32 w), ow_val hA (wants_none rfl) 54 (.int .u32 (ci : Int)) (by kernel_rfl) rfl rfl rfl rfl (by kernel_rfl) (fun w => run_add32 rfl (by kernel_rfl) (by kernel_rfl) Eci.out w), ow_calld hA (wants_none rfl) 55 (.agg (ints .u8 KB)) (by kernel_rfl) rfl rfl rfl rfl (by kernel_rfl) 61 Tryz.f61 _ [.tmp 49, .tmp 50, .tmp 54] _ [.agg (ints .u8 key), .agg (ints .u8 nonce), .int .u32 (ci : Int)] rfl (by kernel_rfl) Tryz.func61 (by kernel_rfl) rfl (CB.out), trivial⟩) ?_
      case hst1 => intro q hq; cases hq
      case hst2 => intro q hq; cases hq
      intro fv wt hf hD hwt
      simp only [putR, List.foldl_cons, List.foldl_nil, List.map_cons, List.map_nil, Act.put, List.setIfInBounds_toArray, List.set_cons_succ, List.set_cons_zero]
      clear hf hD CB
      have B0 := A0.under hwt
      have B1 := A1.under hwt
      have B2 := A2.under hwt
      have HW2 := HW.trans (hwt.mono HW.size)
      have VP2 : Kept _ := ⟨VP.out.under HW2⟩
      clear A0 A1 A2 HW hwt VP
      go_wp2_with fail
      refine (turn_any (w.heap.size + 2) f m co 5 (mix L Z f) _ KB _ wt VP2.out HBF.out YPC.out LPC.out m0 m64 LKB.out YKB.out B2 LM.out).mono ?_
      rintro e w5 ⟨rfl, hg5, C2⟩
      rw [EX.out] at C2
      have C0 : Blk w5 w.heap.size 30 (ints .u8 key) := (hg5.block _ B0.lt (fun e => by have := Option.some.inj e; omega)).trans B0
      have C1 : Blk w5 (w.heap.size + 1) 80 (ints .u8 nonce) := (hg5.block _ B1.lt (fun e => by have := Option.some.inj e; omega)).trans B1
      have HW5 := HW2.trans (grown_mono hg5 HW2.size (fun b hb => by cases hb; omega))
      clear B0 B1 B2 HW2 hg5 VP2 HBF EX LKB YKB LPC YPC LM Ef Ef4 Et Em Eco Ecf Epf Eci
      go_wp2_with fail
      go_roundg (gk - 1)
      case measure => omega
      case rel => exact ⟨i + 1, by omega, by simp, HW5, C0, C1, C2⟩
    case neg =>
      have hi' : ¬ (i : Int) < (B : Int) := by omega
      have hmin : min (64 * i) n = n := by have := HB.out; omega
      rw [hmin, show mix L Z n = L by rw [← LZ.out]; exact mix_all L Z (by rw [LL.out, LZ.out])] at A2
      have RR : Kept (Row w.heap.size 5 .u8 L (.slice (some ⟨w.heap.size + 2, 0, none⟩) n n) wr) := ⟨blk_row A2 LL.out (by omega) (by unfold maxLen; omega)⟩
      clear A0 A1 A2
      go_wp2_with fail
      go_ret2
      exact ⟨_, rfl, RR.out, HW⟩
end Go.Proofs.YtjkdonjcngmjeaaGreatDoor.sh
/-
  The answers that the document fixes.
-/
namespace Go.Proofs.YtjkdonjcngmjeaaGreatDoor.sh
open Go Go.RowKit
set_option linter.unusedVariables false
set_option linter.unusedSimpArgs false

theorem run_c38 {o : Oper} {a : Act} {x : Operand} {z : Nat} (ho : o.op = .convert 3 5 x) (hx : a.eval x = .int .i64 (z : Int)) (hz : z < 256) (w : World) : (execOp a.eval o).run Tryz.prog w = .ok (.value (.int .u8 (z : Int))) w := run_conv38 ho hx (by omega) w
end Go.Proofs.YtjkdonjcngmjeaaGreatDoor.sh
/-
  An argument that is a key, a nonce and a count.
-/
namespace Go.Proofs.YtjkdonjcngmjeaaGreatDoor.sh
open Go Go.ChangeShapes Go.WideShapes Go.ChangeAt Go.RowKit
set_option linter.unusedVariables false
set_option linter.unusedSimpArgs false

section
variable {ops : Array Oper} {rest : List Oper} {o : Oper} {a : Act} {w : World} {Q : Exit → Act → World → Prop} {d : Nat}
/-- An array in the midst of a block is read. -/
theorem wv_partA (hd : o.dst = some d) (hw : Region.wanted o (yielded ops a.tmps) = true) (t : TypeId) (x : Operand) (ho : o.op = .load t x) (g off : Nat) (hx : a.eval x = .pointer (some ⟨g, off, none⟩)) {t' : TypeId} (cs es : Array Value) (len : Nat) (e : TypeId) (hu : Tryz.prog.underlying t = some (.array len e)) (hs : (Tryz.prog.info? t).map (·.size) = some es.size)
    (hg : Blk w g t' cs) (hp : ∀ j v, es[j]? = some v → cs[off + j]? = some v) (h : wpList Tryz.prog ops Q rest (a.put o.dst (.agg es)) w) : wpList Tryz.prog ops Q (o :: rest) a w :=
  BigFrame.wpList_want hw fun K hK => by
    unfold Oper.wp execOp
    simp only [ho, hx, Instr.loadAt, Instr.sureAddr, Sem.run_bind, Sem.run_pure, Result.andThen_ok, run_loadVar_at w g off t' t cs es (0, 0) _ hg hp hu rfl hs]
    exact hK _ _ h
end
section
variable {P : Program} {h : List Oper} {A0 A : Act} {W0 : World} {S : Nat → Option (Value → World → Prop)} {sp O : List Nat} {E : List (Nat × Nat)} {i : Nat} {o : Oper}
theorem ow_partA (hA : Full h A0 A S sp) (hw : Wants h A0 A S O E W0.heap.size i o) (d : Nat) (v : Value) (hdet : detE h sp E i o = true) (hsel : notSel o = true) (hd : o.dst = some d) (hds : sp.contains d = false) (hO : O.contains d = false) (hv : A.tmps[d]? = some v) (ty : TypeId) (x : Operand) (ho : o.op = .load ty x) (g off : Nat) (hx : A.eval x = .pointer (some ⟨g, off, none⟩)) (t : TypeId) (cs es : Array Value) (len : Nat) (e : TypeId) (hu : P.underlying ty = some (.array len e)) (hi : (P.info? ty).map (·.size) = some es.size)
    (hb : ∀ w, Below W0.heap.size W0 w → Blk w g t cs) (hp : ∀ j v, es[j]? = some v → cs[off + j]? = some v) (hvB : v = .agg es) : OwnOk P h A0 W0 (relR A S) O E i o :=
  ow_q hA hdet hsel hw d v hd hds hO hv fun w hw => by
    unfold Oper.quietAt execOp
    simp only [ho, hx, Instr.loadAt, Instr.sureAddr, Sem.run_bind, Sem.run_pure, Result.andThen_ok, run_loadVar_at w g off t ty cs es (0, 0) _ (hb w hw) hp hu rfl hi]
    exact ⟨rfl, hvB.symm⟩
end
end Go.Proofs.YtjkdonjcngmjeaaGreatDoor.sh
