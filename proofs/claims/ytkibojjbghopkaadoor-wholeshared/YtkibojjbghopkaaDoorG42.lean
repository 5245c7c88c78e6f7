/-
  General pieces, joined: ZA.
-/
import Derived.Test.YtkibojjbghopkaaDoorG31
import Derived.Test.YtkibojjbghopkaaDoorG30
import Derived.Test.YtkibojjbghopkaaDoorG27
import Derived.Test.YtkibojjbghopkaaDoorG28
import Derived.Test.YtkibojjbghopkaaDoorG32
import Derived.Test.YtkibojjbghopkaaDoorG33
import Derived.Test.YtkibojjbghopkaaDoorG34
import Derived.Test.YtkibojjbghopkaaDoorG35
import Derived.Test.YtkibojjbghopkaaDoorG36
import Derived.Test.YtkibojjbghopkaaDoorG37
import Derived.Test.YtkibojjbghopkaaDoorG01
import Derived.Test.YtkibojjbghopkaaDoorG38
import Derived.Test.YtkibojjbghopkaaDoorG39
import Derived.Test.YtkibojjbghopkaaDoorG40
import Derived.Test.YtkibojjbghopkaaDoorG41
/-
  A nonce, bytes of a number, bytes filled up: package aead's small calls.
-/
namespace Go.Proofs.YtkibojjbghopkaaDoor.sh
open Go Go.RowKit
set_option linter.unusedVariables false
set_option linter.unusedSimpArgs false

theorem z8_eq : (#[.int .u8 0, .int .u8 0, .int .u8 0, .int .u8 0, .int .u8 0, .int .u8 0, .int .u8 0, .int .u8 0] : Array Value) = ints .u8 (List.replicate 8 0) := by kernel_rfl
theorem z12_eq : (#[.int .u8 0, .int .u8 0, .int .u8 0, .int .u8 0, .int .u8 0, .int .u8 0, .int .u8 0, .int .u8 0, .int .u8 0, .int .u8 0, .int .u8 0, .int .u8 0] : Array Value) = ints .u8 (List.replicate 12 0) := by kernel_rfl
theorem a8_info : (Tryd.prog.info? 63).map (·.size) = some 8 := by kernel_rfl
theorem run_shr64V {o : Oper} {a : Act} {x y : Operand} {m c z : Nat} (ho : o.op = .binOp .shr 33 x y 3) (hx : a.eval x = .int .u64 (m : Int)) (hy : a.eval y = .int .i64 (c : Int)) (hc : c < 64) (hm : m < 18446744073709551616) (hz : z = m / 2 ^ c) (w : World) : (execOp a.eval o).run Tryd.prog w = .ok (.value (.int .u64 (z : Int))) w := by
  have e : ((m : Int) / 2 ^ c) = ((m / 2 ^ c : Nat) : Int) := by rw [Int.natCast_ediv, Int.natCast_pow]; rfl
  have e2 : min c 64 = c := by omega
  have e3 : m / 2 ^ c ≤ m := Nat.div_le_self _ _
  unfold execOp
  simp only [ho, hx, hy]
  rw [hz, ← e]
  have e4 : (m : Int) / 2 ^ c % 18446744073709551616 = (m : Int) / 2 ^ c := by rw [e]; omega
  clear hz e
  simp [go_sem, Op.shift, IntKind.bits, e2, IntKind.wrap_u64, e4]
theorem run_c648 {o : Oper} {a : Act} {x : Operand} {m z : Nat} (ho : o.op = .convert 33 5 x) (hx : a.eval x = .int .u64 (m : Int)) (hz : z = m % 256) (w : World) : (execOp a.eval o).run Tryd.prog w = .ok (.value (.int .u8 (z : Int))) w := by
  unfold execOp
  simp only [ho, hx]
  simp [go_sem, IntKind.wrap_u8', hz]
theorem run_quoK {o : Oper} {a : Act} {x : Operand} {i z : Nat} (c : Nat) (hc0 : 0 < c) (ho : o.op = .binOp .quo 3 x (.const (.int .i64 (c : Int))) 3) (hx : a.eval x = .int .i64 (i : Int)) (hz : z = i / c) (hi : i < 4611686018427387904) (w : World) : (execOp a.eval o).run Tryd.prog w = .ok (.value (.int .i64 (z : Int))) w := by
  have e3 : a.eval (.const (.int .i64 (c : Int))) = .int .i64 (c : Int) := rfl
  have h3 : (i : Int).tdiv (c : Int) = (z : Int) := by rw [hz, Int.tdiv_eq_ediv_of_nonneg (by omega)]; exact (Int.natCast_ediv _ _).symm
  have hz' : z ≤ i := by rw [hz]; exact Nat.div_le_self _ _
  have hc : ¬ (c : Int) = 0 := by omega
  unfold execOp
  simp only [ho, hx, e3]
  simp [go_sem, IntKind.wrap_i64, wrap64, h3, hc, show ¬ c = 0 by omega]
  try omega
/-- 'append(x, make([]byte, m)...)' in a plain region. -/
theorem wl_zapp {ops : Array Oper} {rest : List Oper} {o : Oper} {a : Act} {w : World} {Q : Exit → Act → World → Prop} (hw : Region.wanted o (yielded ops a.tmps) = true) (s x : Operand) (ho : o.op = .call { callee := .builtin .append, args := #[s, x], argTypes := #[23, 3] }) (base : Nat) (l : List Nat) (m : Nat) (v : Value) (hs : a.eval s = v) (hx : a.eval x = .int .i64 (m : Int)) (hv : Row base 5 .u8 l v w) (hn : l.length + m ≤ 1000000) (hbase : base ≤ w.heap.size)
    (hk : ∀ v' w', Row base 5 .u8 (l ++ List.replicate m 0) v' w' → w.grownBy w' (blkOf v) → (blkOf v' = blkOf v ∨ blkOf v' = some w.heap.size) → wpList Tryd.prog ops Q rest (a.put o.dst v') w') : wpList Tryd.prog ops Q (o :: rest) a w :=
  BigFrame.wpList_want hw fun K hK => by
    obtain ⟨v', w', h4, h5, h6, h7⟩ := zapp_run (ty := o.type) (m := m) hv hn hbase
    unfold Oper.wp execOp
    simp only [ho, resolve, invoke, builtin, Sem.run_bind, Sem.run_pure, Result.andThen_ok, List.map_toArray, List.map_cons, List.map_nil, hs, hx, h4]
    exact hK _ _ (hk v' w' h5 h6 h7)
theorem wl_make0 {ops : Array Oper} {rest : List Oper} {o : Oper} {a : Act} {w : World} {Q : Exit → Act → World → Prop} (hgd : o.guard = none) (x : Operand) (ho : o.op = .makeSlice 23 (.const (.int .i64 0)) x) (c : Nat) (hx : a.eval x = .int .i64 (c : Int)) (hc : c < 1000000)
    (h : ∀ v' w', Row w.heap.size 5 .u8 [] v' w' → Below w.heap.size w w' → wpList Tryd.prog ops Q rest (a.put o.dst v') w') : wpList Tryd.prog ops Q (o :: rest) a w :=
  wpList_plain hgd fun K hK => by
    have e3 : a.eval (.const (.int .i64 0)) = .int .i64 0 := rfl
    have hrun : (execOp a.eval o).run Tryd.prog w = .ok (.value (.slice (some ⟨w.heap.size, 0, none⟩) 0 c)) (w.alloc (.cells (ints .u8 (List.replicate c 0)) 5)) := by
      unfold execOp
      simp only [ho, hx, e3]
      simp [run_make0 c hc w]
    unfold Oper.wp
    rw [hrun]
    exact hK _ _ (h _ _ (row_made w w.heap.size c hc (Nat.le_refl _)) ((Below.refl _ _).alloc (Nat.le_refl _) _))

set_option maxRecDepth 100000 in
set_option maxHeartbeats 1000000 in
theorem bytesOfD (n : Nat) (w : World) (hn : n < 18446744073709551616) :
    Calls Tryd.prog 30 #[.int .u64 (n : Int)] w fun e w' => e = .returned (.agg (ints .u8 (digs n 8))) ∧ Below w.heap.size w w' := by
  obtain ⟨L, hL⟩ : ∃ L, L = digs n 8 := ⟨_, rfl⟩
  rw [← hL]
  have EL : Kept _ := ⟨hL⟩
  have HL : Kept (L.length = 8) := ⟨by rw [hL]; exact digs_len _ _⟩
  obtain ⟨Z0, hZ⟩ : ∃ Z0, Z0 = List.replicate 8 0 := ⟨_, rfl⟩
  have HL2 : Kept (L.length = Z0.length) := ⟨by rw [HL.out, hZ]; rfl⟩
  have HZ : Kept (Z0.length = 8) := ⟨by rw [hZ]; rfl⟩
  have EI : Kept ((#[.int .u8 0, .int .u8 0, .int .u8 0, .int .u8 0, .int .u8 0, .int .u8 0, .int .u8 0, .int .u8 0] : Array Value) = ints .u8 Z0) := ⟨by rw [hZ]; exact z8_eq⟩
  clear hZ hL
  go_enter Tryd.func30, Tryd.ntmps30
  go_wp2_with fail
  generalize hW : (w.alloc (.cells #[.int .u8 0, .int .u8 0, .int .u8 0, .int .u8 0, .int .u8 0, .int .u8 0, .int .u8 0, .int .u8 0] 63)).alloc (.cells #[.int .u8 0, .int .u8 0, .int .u8 0, .int .u8 0, .int .u8 0, .int .u8 0, .int .u8 0, .int .u8 0] 63) = W
  have B1 : Blk W w.heap.size 63 (ints .u8 Z0) := by subst hW; rw [← EI.out]; exact (blk_new w _ _).alloc _
  have B2 : Blk W (w.heap.size + 1) 63 (ints .u8 (mix L Z0 0)) := by subst hW; rw [mix_zero, ← EI.out]; exact blk_top _ _ _ _ (by simp)
  have QB : Below w.heap.size w W := by subst hW; exact ((Below.refl _ _).alloc (Nat.le_refl _) _).alloc (by simp) _
  clear hW EI
  go_loopg [5] 8 (fun k s5 wr => ∃ i : Nat, i + k = 8 ∧ s5 = .int .i64 (i : Int) ∧ Below w.heap.size w wr ∧ Blk wr w.heap.size 63 (ints .u8 Z0) ∧ Blk wr (w.heap.size + 1) 63 (ints .u8 (mix L Z0 i)))
  case atStart => exact ⟨0, by omega, rfl, QB, B1, B2⟩
  case round =>
    obtain ⟨i, hik, rfl, HB, A1, A2⟩ := hrel
    clear QB B1 B2
    by_cases hk0 : gk = 0
    · obtain rfl : i = 8 := by omega
      have e : mix L Z0 8 = L := by rw [← HZ.out]; exact mix_all L Z0 HL2.out
      rw [e] at A2
      clear e
      go_wp2_with (first | (refine wl_load rfl 63 (.tmp 3) rfl _ rfl (ints .u8 L) 8 5 Tryd.underlying63 (by rw [ints_size, HL.out]; exact a8_info) A2 ?_) | (refine wl_store rfl 63 (.tmp 2) (.tmp 16) rfl _ (ints .u8 L) rfl rfl _ A1 (by rw [ints_size, HL.out]; exact a8_info) (by rw [ints_size, ints_size, HL2.out]) (ints_one _ _) ?_))
      intro w3 A3 P3
      go_wp2
      exact bodyPost_ret (v := .agg (ints .u8 L)) (results_cell_row Tryd.results30 _ _ _ 63 (ints .u8 L) (0, 0) _ rfl A3 Tryd.underlying63 rfl (by rw [ints_size, HL.out]; exact a8_info)) rfl ⟨rfl, HB.trans (P3.below (by omega))⟩
    · have hil : i < 8 := by omega
      have hlt : ((i : Int) < 8) := by omega
      obtain ⟨c, hc⟩ : ∃ c, c = 8 * i := ⟨_, rfl⟩
      obtain ⟨y, hy⟩ : ∃ y, y = n / 2 ^ c := ⟨_, rfl⟩
      obtain ⟨z, hz⟩ : ∃ z, z = y % 256 := ⟨_, rfl⟩
      have gz : Kept (L[i]? = some z) := ⟨by rw [EL.out, hz, hy, hc, Nat.pow_mul]; exact digs_get n 8 i hil⟩
      have Ec : Kept _ := ⟨hc⟩
      have Ey : Kept _ := ⟨hy⟩
      have Ez : Kept _ := ⟨hz⟩
      have hc64 : c < 64 := by omega
      have l2 : i < (ints .u8 (mix L Z0 i)).size := by rw [ints_size, mix_len L _ i HL2.out, HZ.out]; exact hil
      clear hc hy hz
      go_wp2_with (first | ((with_reducible refine wv_val (d := 11) ?hd ?hw (.int .i64 (c : Int)) ?hr ?_); (case hd => rfl); (case hw => kernel_rfl); (case hr => intro w; exact run_mulC 8 rfl (by kernel_rfl) Ec.out (by omega) w); simp only [Act.put, List.setIfInBounds_toArray, List.set_cons_succ, List.set_cons_zero]) | ((with_reducible refine wv_val (d := 12) ?hd ?hw (.int .u64 (y : Int)) ?hr ?_); (case hd => rfl); (case hw => kernel_rfl); (case hr => intro w; exact run_shr64V rfl (by kernel_rfl) (by kernel_rfl) hc64 hn Ey.out w); simp only [Act.put, List.setIfInBounds_toArray, List.set_cons_succ, List.set_cons_zero]) | ((with_reducible refine wv_val (d := 13) ?hd ?hw (.int .u8 (z : Int)) ?hr ?_); (case hd => rfl); (case hw => kernel_rfl); (case hr => intro w; exact run_c648 rfl (by kernel_rfl) Ez.out w); simp only [Act.put, List.setIfInBounds_toArray, List.set_cons_succ, List.set_cons_zero]) | ((with_reducible refine wv_val (d := 14) ?hd ?hw (.pointer (some ⟨w.heap.size + 1, i, none⟩)) ?hr ?_); (case hd => rfl); (case hw => kernel_rfl); (case hr => intro w; exact run_idx rfl (by kernel_rfl) (by kernel_rfl) Tryd.underlying63 hil sz_u8 w); simp only [Act.put, List.setIfInBounds_toArray, List.set_cons_succ, List.set_cons_zero]) | (refine wl_setElem rfl 5 sz_u8 (.tmp 14) (.tmp 13) rfl (w.heap.size + 1) i .u8 (z : Int) rfl rfl _ A2 l2 ?_))
      intro w4 A4 P4
      rw [ints_set, mix_set L _ i z HL2.out gz.out] at A4
      have A14 := P4.blk A1 (by omega)
      have HB4 := HB.trans (P4.below (by omega))
      clear A1 A2 HB P4 gz Ec Ey Ez l2
      go_wp2_with fail
      go_roundg (gk - 1)
      case measure => omega
      case rel => exact ⟨i + 1, by omega, by simp, HB4, A14, A4⟩

/-- The nonce of a number. -/
def nonceL (n : Nat) : List Nat := List.replicate 4 0 ++ digs n 8
theorem nonceL_len (n : Nat) : (nonceL n).length = 12 := by simp [nonceL, digs_len]
theorem nonceL_bytes (n : Nat) : Bytes (nonceL n) := (bytes_zero 4).append (digs_bytes n 8)
theorem splice_nonce (L : List Nat) (h : L.length = 8) : splice (List.replicate 12 0) 4 L = List.replicate 4 0 ++ L := by
  unfold splice
  rw [List.take_replicate, h, List.drop_replicate]
  simp

set_option maxRecDepth 100000 in
set_option maxHeartbeats 1000000 in
theorem nonceOfD (n : Nat) (w : World) (hn : n < 18446744073709551616) :
    Calls Tryd.prog 15 #[.int .u64 (n : Int)] w fun e w' => e = .returned (.agg (ints .u8 (nonceL n))) ∧ Below w.heap.size w w' := by
  have CB : Kept (∀ w', Calls Tryd.prog 30 #[.int .u64 (n : Int)] w' fun e w2 => e = .returned (.agg (ints .u8 (digs n 8))) ∧ Below w'.heap.size w' w2) := ⟨fun w' => bytesOfD n w' hn⟩
  obtain ⟨D, hD⟩ : ∃ D, D = digs n 8 := ⟨_, rfl⟩
  obtain ⟨L, hL⟩ : ∃ D, D = nonceL n := ⟨_, rfl⟩
  rw [← hD] at CB
  rw [← hL]
  have LD : Kept (D.length = 8) := ⟨by rw [hD]; exact digs_len _ _⟩
  have LL : Kept (L.length = 12) := ⟨by rw [hL]; exact nonceL_len _⟩
  obtain ⟨Z0, hZ0⟩ : ∃ Z, Z = List.replicate 12 0 := ⟨_, rfl⟩
  have LZ : Kept (Z0.length = 12) := ⟨by rw [hZ0]; rfl⟩
  have EI : Kept ((#[.int .u8 0, .int .u8 0, .int .u8 0, .int .u8 0, .int .u8 0, .int .u8 0, .int .u8 0, .int .u8 0, .int .u8 0, .int .u8 0, .int .u8 0, .int .u8 0] : Array Value) = ints .u8 Z0) := ⟨by rw [hZ0]; exact z12_eq⟩
  have ES : Kept ((splice (ints .u8 Z0).toList 4 (ints .u8 (D.take 8)).toList).toArray = ints .u8 L) := ⟨by rw [splice_ints, List.take_of_length_le (by rw [LD.out]; exact Nat.le_refl _), hZ0, splice_nonce D LD.out, hL, hD]; rfl⟩
  have A2 : Blk ((w.alloc (.cells #[.int .u8 0, .int .u8 0, .int .u8 0, .int .u8 0, .int .u8 0, .int .u8 0, .int .u8 0, .int .u8 0, .int .u8 0, .int .u8 0, .int .u8 0, .int .u8 0] 42)).alloc (.cells #[.int .u8 0, .int .u8 0, .int .u8 0, .int .u8 0, .int .u8 0, .int .u8 0, .int .u8 0, .int .u8 0, .int .u8 0, .int .u8 0, .int .u8 0, .int .u8 0] 42)) w.heap.size 42 (ints .u8 Z0) := by rw [← EI.out]; exact (blk_new w _ _).alloc _
  have A3 : Blk ((w.alloc (.cells #[.int .u8 0, .int .u8 0, .int .u8 0, .int .u8 0, .int .u8 0, .int .u8 0, .int .u8 0, .int .u8 0, .int .u8 0, .int .u8 0, .int .u8 0, .int .u8 0] 42)).alloc (.cells #[.int .u8 0, .int .u8 0, .int .u8 0, .int .u8 0, .int .u8 0, .int .u8 0, .int .u8 0, .int .u8 0, .int .u8 0, .int .u8 0, .int .u8 0, .int .u8 0] 42)) (w.heap.size + 1) 42 (ints .u8 Z0) := by rw [← EI.out]; exact blk_top _ _ _ _ (by simp)
  have Q0 : Below w.heap.size w ((w.alloc (.cells #[.int .u8 0, .int .u8 0, .int .u8 0, .int .u8 0, .int .u8 0, .int .u8 0, .int .u8 0, .int .u8 0, .int .u8 0, .int .u8 0, .int .u8 0, .int .u8 0] 42)).alloc (.cells #[.int .u8 0, .int .u8 0, .int .u8 0, .int .u8 0, .int .u8 0, .int .u8 0, .int .u8 0, .int .u8 0, .int .u8 0, .int .u8 0, .int .u8 0, .int .u8 0] 42)) := ((Below.refl _ _).alloc (Nat.le_refl _) _).alloc (by simp) _
  clear hD hL hZ0 EI
  go_enter Tryd.func15, Tryd.ntmps15
  go_wp2_with fail
  refine (CB.out _).mono ?_
  rintro e w1 ⟨rfl, hb1⟩
  have B2 := A2.under hb1
  have B3 := A3.under hb1
  have Q1 := Q0.trans (hb1.mono Q0.size)
  have hl1 : w.heap.size + 1 < w1.heap.size := B3.lt
  clear A2 A3 Q0 hb1 CB
  go_wp2_with (first | (refine wl_store rfl 63 (.tmp 4) (.tmp 6) rfl w1.heap.size (ints .u8 D) rfl rfl _ (blk_new w1 _ _) (by rw [ints_size, LD.out]; exact a8_info) (by rw [ints_size, LD.out]; rfl) (ints_one _ _) ?_))
  intro w3 A4 P3
  have C2 := P3.blk (B2.alloc _) (by omega)
  have C3 := P3.blk (B3.alloc _) (by omega)
  have Q3 := (Q1.alloc Q1.size _).trans (P3.below (by omega))
  generalize hg4 : w1.heap.size = g4 at *
  have hl3 : g4 < w3.heap.size := A4.lt
  clear B2 B3 Q1 P3
  have VO : Kept (BytesV (.slice (some ⟨g4, 0, none⟩) 8 8) w3 D) := ⟨arr_bytes A4 LD.out⟩
  go_wp2_with fail
  refine region_ownL w3 2 [(7, .slice (some ⟨w.heap.size + 1, 4, none⟩) 8 8), (8, .slice (some ⟨g4, 0, none⟩) 8 8)] [] [] [] rfl (by kernel_rfl) (by kernel_rfl) (by kernel_rfl) (by kernel_rfl) (by kernel_rfl) (by kernel_rfl) (by kernel_rfl) (by kernel_rfl) (by kernel_rfl) (by kernel_rfl) (by kernel_rfl) ?hst1 ?hst2 (Below.refl _ _) (fun hA => ⟨ow_val hA (wants_none rfl) 7 (.slice (some ⟨w.heap.size + 1, 4, none⟩) 8 8) (by kernel_rfl) rfl rfl rfl rfl (by kernel_rfl) (fun w => arr_from_run 4 rfl (by kernel_rfl) Tryd.underlying42 sz_u8 (by decide) w), ow_val hA (wants_none rfl) 8 (.slice (some ⟨g4, 0, none⟩) 8 8) (by kernel_rfl) rfl rfl rfl rfl (by kernel_rfl) (fun w => arr_all_run rfl (by kernel_rfl) Tryd.underlying63 sz_u8 (by decide) w), trivial⟩) ?_
  case hst1 => intro q hq; cases hq
  case hst2 => intro q hq; cases hq
  intro fv w4 hf hD hb4
  simp only [putR, List.foldl_cons, List.foldl_nil, List.map_cons, List.map_nil, Act.put, List.setIfInBounds_toArray, List.set_cons_succ, List.set_cons_zero]
  refine wl_copyV rfl (.tmp 7) (.tmp 8) 23 23 rfl Tryd.underlying23 (w.heap.size + 1) 4 8 8 (by kernel_rfl) (some ⟨g4, 0, none⟩) 8 8 (by kernel_rfl) _ (C3.under hb4) D (VO.out.under hb4) 8 rfl (by rw [ints_size, LZ.out]; decide) ?_
  intro w5 D3 P5
  rw [ES.out] at D3
  have D2 := P5.blk (C2.under hb4) (by omega)
  have Q5 := (Q3.trans (hb4.mono Q3.size)).trans (P5.below (by omega))
  clear hf hD C2 C3 Q3 hb4 P5 VO ES
  go_wp2_with (first | (refine wl_load rfl 42 (.tmp 3) rfl (w.heap.size + 1) rfl (ints .u8 L) 12 5 Tryd.underlying42 (by rw [ints_size, LL.out]; exact i12_info) D3 ?_) | (refine wl_store rfl 42 (.tmp 2) (.tmp 10) rfl w.heap.size (ints .u8 L) rfl rfl _ D2 (by rw [ints_size, LL.out]; exact i12_info) (by rw [ints_size, ints_size, LL.out, LZ.out]) (ints_one _ _) ?_))
  intro w6 A6 P6
  go_wp2
  exact bodyPost_ret (v := .agg (ints .u8 L)) (results_cell_row Tryd.results15 _ _ _ 42 (ints .u8 L) (0, 0) _ rfl A6 Tryd.underlying42 rfl (by rw [ints_size, LL.out]; exact i12_info)) rfl ⟨rfl, Q5.trans (P6.below (by omega))⟩

set_option maxHeartbeats 400000 in
theorem filledSizeD (n F : Nat) (w : World) (hn : n < 1000000000) (hF : F = (n + 15) / 16 * 16) :
    Calls Tryd.prog 61 #[.int .i64 (n : Int)] w fun e w' => e = .returned (.int .i64 (F : Int)) ∧ w' = w := by
  obtain ⟨n4, h4⟩ : ∃ m, m = n + 16 := ⟨_, rfl⟩
  obtain ⟨n3, h3⟩ : ∃ m, m = n + 15 := ⟨_, rfl⟩
  obtain ⟨q, hq⟩ : ∃ m, m = n3 / 16 := ⟨_, rfl⟩
  have E4 : Kept _ := ⟨h4⟩
  have E3 : Kept (n4 = n3 + 1) := ⟨by omega⟩
  have Eq : Kept _ := ⟨hq⟩
  have EF : Kept (F = q * 16) := ⟨by rw [hF, hq, h3]⟩
  have L4 : n4 < 4611686018427387904 := by omega
  have L3 : n3 < 4611686018427387904 := by omega
  have L2 : F < 4611686018427387904 := by omega
  clear hF h3 h4 hq
  go_enter Tryd.func61, Tryd.ntmps61
  go_wp2_with (first | ((with_reducible refine wv_val (d := 4) ?hd ?hw (.int .i64 (n4 : Int)) ?hr ?_); (case hd => rfl); (case hw => kernel_rfl); (case hr => intro w; exact run_addZ 16 rfl (by kernel_rfl) E4.out L4 w); simp only [Act.put, List.setIfInBounds_toArray, List.set_cons_succ, List.set_cons_zero]) | ((with_reducible refine wv_val (d := 5) ?hd ?hw (.int .i64 (n3 : Int)) ?hr ?_); (case hd => rfl); (case hw => kernel_rfl); (case hr => intro w; exact run_subZ 1 rfl (by kernel_rfl) E3.out L4 w); simp only [Act.put, List.setIfInBounds_toArray, List.set_cons_succ, List.set_cons_zero]) | ((with_reducible refine wv_val (d := 6) ?hd ?hw (.int .i64 (q : Int)) ?hr ?_); (case hd => rfl); (case hw => kernel_rfl); (case hr => intro w; exact run_quoK 16 (by decide) rfl (by kernel_rfl) Eq.out L3 w); simp only [Act.put, List.setIfInBounds_toArray, List.set_cons_succ, List.set_cons_zero]) | ((with_reducible refine wv_val (d := 7) ?hd ?hw (.int .i64 (F : Int)) ?hr ?_); (case hd => rfl); (case hw => kernel_rfl); (case hr => intro w; exact run_mulV 16 rfl (by kernel_rfl) EF.out L2 w); simp only [Act.put, List.setIfInBounds_toArray, List.set_cons_succ, List.set_cons_zero]))
  go_ret
  exact ⟨rfl, rfl⟩

/-- Bytes, and bytes 0 behind them, to whole pieces. -/
def padF (l : List Nat) : List Nat := l ++ List.replicate ((l.length + 15) / 16 * 16 - l.length) 0
theorem padF_len (l : List Nat) : (padF l).length = (l.length + 15) / 16 * 16 := by simp [padF]; omega
theorem padF_bytes {l : List Nat} (h : Bytes l) : Bytes (padF l) := h.append (bytes_zero _)
theorem padF_behind (x l : List Nat) (h : x.length % 16 = 0) : padF (x ++ l) = x ++ padF l := by
  unfold padF
  rw [List.append_assoc, List.length_append]
  congr 3
  omega

set_option maxRecDepth 100000 in
set_option maxHeartbeats 400000 in
theorem filledD (base : Nat) (l : List Nat) (v : Value) (w : World) (hv : Row base 5 .u8 l v w) (hl : l.length < 900000) (hb : base ≤ w.heap.size) :
    Calls Tryd.prog 62 #[v] w fun e w' => ∃ v', e = .returned v' ∧ Row base 5 .u8 (padF l) v' w' ∧ w.grownBy w' (blkOf v) := by
  obtain ⟨p, c, rfl, _, _⟩ := row_cells hv
  obtain ⟨n, hn⟩ : ∃ n, n = l.length := ⟨_, rfl⟩
  obtain ⟨F, hF⟩ : ∃ F, F = (n + 15) / 16 * 16 := ⟨_, rfl⟩
  obtain ⟨m, hm⟩ : ∃ m, m = F - n := ⟨_, rfl⟩
  have RV : Kept _ := ⟨hv⟩
  have EP : Kept (padF l = l ++ List.replicate m 0) := ⟨by unfold padF; rw [← hn, ← hF, ← hm]⟩
  have HN : Kept (l.length + m ≤ 1000000) := ⟨by omega⟩
  have CF : Kept (Calls Tryd.prog 61 #[.int .i64 (n : Int)] w fun e w' => e = .returned (.int .i64 (F : Int)) ∧ w' = w) := ⟨filledSizeD n F w (by omega) hF⟩
  have Em : Kept _ := ⟨hm⟩
  have hle : n ≤ F := by omega
  have hF62 : F < 4611686018427387904 := by omega
  rw [← hn] at RV ⊢
  clear hv hl hn hF hm
  go_enter Tryd.func62, Tryd.ntmps62
  go_wp2_with fail
  refine CF.out.mono ?_
  rintro e w' ⟨rfl, hw'⟩
  obtain rfl := hw'.symm
  go_wp2_with (first | ((with_reducible refine wv_val (d := 9) ?hd ?hw (.int .i64 (m : Int)) ?hr ?_); (case hd => rfl); (case hw => kernel_rfl); (case hr => intro w; exact run_subV rfl (by kernel_rfl) (by kernel_rfl) hle hF62 Em.out w); simp only [Act.put, List.setIfInBounds_toArray, List.set_cons_succ, List.set_cons_zero]) | (refine wl_zapp (by kernel_rfl) (.tmp 3) (.tmp 9) rfl base l m _ rfl rfl RV.out HN.out hb ?_))
  intro v' w' r g h7
  go_wp2_with fail
  go_ret
  exact ⟨_, rfl, by rw [EP.out]; exact r, g⟩
end Go.Proofs.YtkibojjbghopkaaDoor.sh
