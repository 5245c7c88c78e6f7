/-
  General pieces, joined: YF.
-/
import Derived.Test.YtkibojjbghopkaaDoorG39
/-
  The words of a key and of a piece of a text, by the program.
-/
namespace Go.Proofs.YtkibojjbghopkaaDoor.sh
open Go Go.RowKit
set_option linter.unusedVariables false
set_option linter.unusedSimpArgs false

theorem val_take (L : List Nat) (hy : ∀ x ∈ L, x < 256) (k : Nat) : val (L.take k) = val L % 256 ^ k ∧ val (L.drop k) = val L / 256 ^ k := by
  have hs := val_split L k
  have hlt : val (L.take k) < 256 ^ k := by
    have h1 := val_lt (L.take k) (fun x hx => hy x (List.mem_of_mem_take hx))
    have h2 : 256 ^ (L.take k).length ≤ 256 ^ k := Nat.pow_le_pow_right (by decide) (by simp; omega)
    omega
  have hp : 0 < 256 ^ k := Nat.pow_pos (by decide)
  rw [hs]
  exact ⟨by rw [Nat.add_mul_mod_self_left, Nat.mod_eq_of_lt hlt], by rw [Nat.add_mul_div_left _ _ hp, Nat.div_eq_of_lt hlt, Nat.zero_add]⟩
theorem wd_val (L : List Nat) (hy : ∀ x ∈ L, x < 256) (j : Nat) : wd (val L) j = val ((L.drop (8 * j)).take 8) := by
  unfold wd
  rw [(val_take (L.drop (8 * j)) (fun x hx => hy x (List.mem_of_mem_drop hx)) 8).1, (val_take L hy (8 * j)).2, show (18446744073709551616 : Nat) = 256 ^ 8 by decide, ← Nat.pow_mul]
theorem wd_and (A B j : Nat) : wd (A &&& B) j = wd A j &&& wd B j := by
  unfold wd
  rw [show (18446744073709551616 : Nat) = 2 ^ 64 by decide, ← Nat.pow_mul, Nat.and_div_two_pow, Nat.and_mod_two_pow]
theorem rN_and (key : List Nat) (h : key.length = 32) (hy : Bytes key) : rN key = val (key.take 16) &&& val maskL := by
  unfold rN clampL
  rw [← val_and _ _ (by simp [h, maskL]) (hy.take 16).all (by decide)]
theorem rN_wd0 (key : List Nat) (h : key.length = 32) (hy : Bytes key) : wd (rN key) 0 = val ((key.drop 0).take 8) &&& 1152921487695413247 := by
  rw [rN_and key h hy, wd_and, wd_val _ (hy.take 16).all, maskL_val]
  congr 1
  rw [Nat.mul_zero, List.drop_zero, List.drop_zero, List.take_take]
  rfl
theorem rN_wd1 (key : List Nat) (h : key.length = 32) (hy : Bytes key) : wd (rN key) 1 = val ((key.drop 8).take 8) &&& 1152921487695413244 := by
  rw [rN_and key h hy, wd_and, wd_val _ (hy.take 16).all, maskL_val]
  congr 1
  rw [List.drop_take, List.take_take]
  rfl
theorem rN_low (key : List Nat) (h : key.length = 32) (hy : Bytes key) : wd (rN key) 0 < 1152921504606846976 := by
  rw [rN_wd0 key h hy]
  exact Nat.lt_of_le_of_lt Nat.and_le_right (by decide)
theorem sN_nw (key : List Nat) (h : key.length = 32) (hy : Bytes key) : nw (sN key) = [val ((key.drop 16).take 8), val ((key.drop 24).take 8), 0] := by
  unfold nw
  have h2 : wd (sN key) 2 = 0 := by
    have := sN_lt key h hy
    rw [wd2]
    omega
  rw [h2]
  unfold sN
  rw [wd_val _ (hy.drop 16).all, wd_val _ (hy.drop 16).all, List.drop_drop, List.drop_drop]

theorem run_andC {o : Oper} {a : Act} {x : Operand} {m z : Nat} (c : Nat) (ho : o.op = .binOp .and 33 x (.const (.int .u64 (c : Int))) 33) (hx : a.eval x = .int .u64 (m : Int)) (hm : m < 18446744073709551616) (hc : c < 18446744073709551616) (hz : z = m &&& c) (w : World) : (execOp a.eval o).run Tryd.prog w = .ok (.value (.int .u64 (z : Int))) w := by
  have e3 : a.eval (.const (.int .u64 (c : Int))) = .int .u64 (c : Int) := rfl
  have h := u64_and_nat m c hm hc
  unfold execOp
  simp only [ho, hx, e3]
  rw [hz]
  simp [go_sem]
  exact h
theorem val_8 (L : List Nat) (hy : Bytes L) (k : Nat) : val ((L.drop k).take 8) < 18446744073709551616 := by
  have h1 := val_lt _ ((hy.drop k).take 8).all
  have h2 : 256 ^ ((L.drop k).take 8).length ≤ 256 ^ 8 := Nat.pow_le_pow_right (by decide) (by simp; omega)
  exact Nat.lt_of_lt_of_le h1 h2

set_option maxRecDepth 100000 in
set_option maxHeartbeats 1000000 in
theorem factorD (key : List Nat) (w : World) (hk : key.length = 32) (hy : Bytes key) :
    Calls Tryd.prog 54 #[.agg (ints .u8 key)] w fun e w' => e = .returned (.agg (ints .u64 (nw2 (rN key)))) ∧ Below w.heap.size w w' := by
  obtain ⟨x0, hx0⟩ : ∃ x, x = val ((key.drop 0).take 8) := ⟨_, rfl⟩
  obtain ⟨x1, hx1⟩ : ∃ x, x = val ((key.drop 8).take 8) := ⟨_, rfl⟩
  obtain ⟨y0, hy0⟩ : ∃ x, x = x0 &&& 1152921487695413247 := ⟨_, rfl⟩
  obtain ⟨y1, hy1⟩ : ∃ x, x = x1 &&& 1152921487695413244 := ⟨_, rfl⟩
  have e : nw2 (rN key) = [y0, y1] := by unfold nw2; rw [rN_wd0 key hk hy, rN_wd1 key hk hy, hy0, hy1, hx0, hx1]
  rw [e]
  have X0 : Kept (x0 < 18446744073709551616) := ⟨by rw [hx0]; exact val_8 key hy 0⟩
  have X1 : Kept (x1 < 18446744073709551616) := ⟨by rw [hx1]; exact val_8 key hy 8⟩
  have Y0 : Kept _ := ⟨hy0⟩
  have Y1 : Kept _ := ⟨hy1⟩
  have A0 : Blk ((w.alloc (.cells (ints .u8 key) 22)).alloc (.cells #[.int .u64 0, .int .u64 0] 89)) w.heap.size 22 (ints .u8 key) := (blk_new w _ _).alloc _
  obtain ⟨ZZ, hZZ⟩ : ∃ ZZ : Array Value, ZZ = #[.int .u64 0, .int .u64 0] := ⟨_, rfl⟩
  have LZ : Kept (ZZ.size = 2) := ⟨by rw [hZZ]; rfl⟩
  have A1 : Blk ((w.alloc (.cells (ints .u8 key) 22)).alloc (.cells #[.int .u64 0, .int .u64 0] 89)) (w.heap.size + 1) 89 ZZ := by rw [hZZ]; exact blk_top _ _ _ _ (by simp)
  have Q0 : Below w.heap.size w ((w.alloc (.cells (ints .u8 key) 22)).alloc (.cells #[.int .u64 0, .int .u64 0] 89)) := ((Below.refl _ _).alloc (Nat.le_refl _) _).alloc (by simp) _
  go_enter Tryd.func54, Tryd.ntmps54
  go_wp2_with fail
  generalize hW : (w.alloc (.cells (ints .u8 key) 22)).alloc (.cells #[.int .u64 0, .int .u64 0] 89) = W at *
  have C0 : Kept (∀ w', Below W.heap.size W w' → Calls Tryd.prog 78 [.slice (some ⟨w.heap.size, 0, none⟩) 8 32].toArray w' fun e w2 => e = .returned (.int .u64 (x0 : Int)) ∧ Below w'.heap.size w' w2) := ⟨fun w' hb => wordD w.heap.size 0 32 _ key w' (A0.under hb) hy (by omega) x0 hx0⟩
  have C1 : Kept (∀ w', Below W.heap.size W w' → Calls Tryd.prog 78 [.slice (some ⟨w.heap.size, 8, none⟩) 8 24].toArray w' fun e w2 => e = .returned (.int .u64 (x1 : Int)) ∧ Below w'.heap.size w' w2) := ⟨fun w' hb => wordD w.heap.size 8 24 _ key w' (A0.under hb) hy (by omega) x1 hx1⟩
  clear hW hZZ hx0 hx1 hy0 hy1 e
  refine region_ownL W 7 [(3, .slice (some ⟨w.heap.size, 0, none⟩) 8 32), (4, .int .u64 (x0 : Int)), (5, .int .u64 (y0 : Int)), (6, .slice (some ⟨w.heap.size, 8, none⟩) 8 24), (7, .int .u64 (x1 : Int)), (8, .int .u64 (y1 : Int)), (9, .agg (ints .u64 [y0, y1]))] [] [] [] rfl (by kernel_rfl) (by kernel_rfl) (by kernel_rfl) (by kernel_rfl) (by kernel_rfl) (by kernel_rfl) (by kernel_rfl) (by kernel_rfl) (by kernel_rfl) (by kernel_rfl) (by kernel_rfl) ?hst1 ?hst2 (Below.refl _ _) (fun hA => ⟨ow_val hA (wants_none rfl) 3 (.slice (some ⟨w.heap.size, 0, none⟩) 8 32) (by kernel_rfl) rfl rfl rfl rfl (by kernel_rfl) (fun w => arr_ft_run 0 8 rfl (by kernel_rfl) Tryd.underlying22 sz_u8 (by decide) (by decide) (by decide) w), ow_calld hA (wants_none rfl) 4 (.int .u64 (x0 : Int)) (by kernel_rfl) rfl rfl rfl rfl (by kernel_rfl) 78 Tryd.f78 _ [.tmp 3] _ [.slice (some ⟨w.heap.size, 0, none⟩) 8 32] rfl (by kernel_rfl) Tryd.func78 (by kernel_rfl) rfl (C0.out), ow_val hA (wants_none rfl) 5 (.int .u64 (y0 : Int)) (by kernel_rfl) rfl rfl rfl rfl (by kernel_rfl) (fun w => run_andC 1152921487695413247 rfl (by kernel_rfl) X0.out (by decide) Y0.out w), ow_val hA (wants_none rfl) 6 (.slice (some ⟨w.heap.size, 8, none⟩) 8 24) (by kernel_rfl) rfl rfl rfl rfl (by kernel_rfl) (fun w => arr_ft_run 8 16 rfl (by kernel_rfl) Tryd.underlying22 sz_u8 (by decide) (by decide) (by decide) w), ow_calld hA (wants_none rfl) 7 (.int .u64 (x1 : Int)) (by kernel_rfl) rfl rfl rfl rfl (by kernel_rfl) 78 Tryd.f78 _ [.tmp 6] _ [.slice (some ⟨w.heap.size, 8, none⟩) 8 24] rfl (by kernel_rfl) Tryd.func78 (by kernel_rfl) rfl (C1.out), ow_val hA (wants_none rfl) 8 (.int .u64 (y1 : Int)) (by kernel_rfl) rfl rfl rfl rfl (by kernel_rfl) (fun w => run_andC 1152921487695413244 rfl (by kernel_rfl) X1.out (by decide) Y1.out w), ow_val hA (wants_none rfl) 9 (.agg (ints .u64 [y0, y1])) (by kernel_rfl) rfl rfl rfl rfl (by kernel_rfl) (fun w => run_build2 rfl (by kernel_rfl) (by kernel_rfl) w), trivial⟩) ?_
  case hst1 => intro q hq; cases hq
  case hst2 => intro q hq; cases hq
  intro fv w4 hf hD hb4
  simp only [putR, List.foldl_cons, List.foldl_nil, List.map_cons, List.map_nil, Act.put, List.setIfInBounds_toArray, List.set_cons_succ, List.set_cons_zero]
  refine wl_store rfl 89 (.tmp 2) (.tmp 9) rfl (w.heap.size + 1) (ints .u64 [y0, y1]) (by kernel_rfl) (by kernel_rfl) _ (A1.under hb4) (by rw [ints_size]; exact a2_info) (by rw [ints_size, LZ.out]; rfl) (ints_one _ _) ?_
  intro w5 A5 P5
  go_wp2
  exact bodyPost_ret (v := .agg (ints .u64 [y0, y1])) (results_cell_row Tryd.results54 _ _ _ 89 (ints .u64 [y0, y1]) (0, 0) _ rfl A5 Tryd.underlying89 rfl (by rw [ints_size]; exact a2_info)) rfl ⟨rfl, (Q0.trans (hb4.mono Q0.size)).trans (P5.below (by omega))⟩

set_option maxRecDepth 100000 in
set_option maxHeartbeats 1000000 in
theorem addendD (key : List Nat) (w : World) (hk : key.length = 32) (hy : Bytes key) :
    Calls Tryd.prog 59 #[.agg (ints .u8 key)] w fun e w' => e = .returned (.agg (ints .u64 (nw (sN key)))) ∧ Below w.heap.size w w' := by
  obtain ⟨x0, hx0⟩ : ∃ x, x = val ((key.drop 16).take 8) := ⟨_, rfl⟩
  obtain ⟨x1, hx1⟩ : ∃ x, x = val ((key.drop 24).take 8) := ⟨_, rfl⟩
  have e : nw (sN key) = [x0, x1, 0] := by rw [sN_nw key hk hy, hx0, hx1]
  rw [e]
  have A0 : Blk ((w.alloc (.cells (ints .u8 key) 22)).alloc (.cells #[.int .u64 0, .int .u64 0, .int .u64 0] 92)) w.heap.size 22 (ints .u8 key) := (blk_new w _ _).alloc _
  obtain ⟨ZZ, hZZ⟩ : ∃ ZZ : Array Value, ZZ = #[.int .u64 0, .int .u64 0, .int .u64 0] := ⟨_, rfl⟩
  have LZ : Kept (ZZ.size = 3) := ⟨by rw [hZZ]; rfl⟩
  have A1 : Blk ((w.alloc (.cells (ints .u8 key) 22)).alloc (.cells #[.int .u64 0, .int .u64 0, .int .u64 0] 92)) (w.heap.size + 1) 92 ZZ := by rw [hZZ]; exact blk_top _ _ _ _ (by simp)
  have Q0 : Below w.heap.size w ((w.alloc (.cells (ints .u8 key) 22)).alloc (.cells #[.int .u64 0, .int .u64 0, .int .u64 0] 92)) := ((Below.refl _ _).alloc (Nat.le_refl _) _).alloc (by simp) _
  go_enter Tryd.func59, Tryd.ntmps59
  go_wp2_with fail
  generalize hW : (w.alloc (.cells (ints .u8 key) 22)).alloc (.cells #[.int .u64 0, .int .u64 0, .int .u64 0] 92) = W at *
  have C0 : Kept (∀ w', Below W.heap.size W w' → Calls Tryd.prog 78 [.slice (some ⟨w.heap.size, 16, none⟩) 8 16].toArray w' fun e w2 => e = .returned (.int .u64 (x0 : Int)) ∧ Below w'.heap.size w' w2) := ⟨fun w' hb => wordD w.heap.size 16 16 _ key w' (A0.under hb) hy (by omega) x0 hx0⟩
  have C1 : Kept (∀ w', Below W.heap.size W w' → Calls Tryd.prog 78 [.slice (some ⟨w.heap.size, 24, none⟩) 8 8].toArray w' fun e w2 => e = .returned (.int .u64 (x1 : Int)) ∧ Below w'.heap.size w' w2) := ⟨fun w' hb => wordD w.heap.size 24 8 _ key w' (A0.under hb) hy (by omega) x1 hx1⟩
  clear hW hZZ hx0 hx1 e
  refine region_ownL W 5 [(3, .slice (some ⟨w.heap.size, 16, none⟩) 8 16), (4, .int .u64 (x0 : Int)), (5, .slice (some ⟨w.heap.size, 24, none⟩) 8 8), (6, .int .u64 (x1 : Int)), (7, .agg (ints .u64 [x0, x1, 0]))] [] [] [] rfl (by kernel_rfl) (by kernel_rfl) (by kernel_rfl) (by kernel_rfl) (by kernel_rfl) (by kernel_rfl) (by kernel_rfl) (by kernel_rfl) (by kernel_rfl) (by kernel_rfl) (by kernel_rfl) ?hst1 ?hst2 (Below.refl _ _) (fun hA => ⟨ow_val hA (wants_none rfl) 3 (.slice (some ⟨w.heap.size, 16, none⟩) 8 16) (by kernel_rfl) rfl rfl rfl rfl (by kernel_rfl) (fun w => arr_ft_run 16 24 rfl (by kernel_rfl) Tryd.underlying22 sz_u8 (by decide) (by decide) (by decide) w), ow_calld hA (wants_none rfl) 4 (.int .u64 (x0 : Int)) (by kernel_rfl) rfl rfl rfl rfl (by kernel_rfl) 78 Tryd.f78 _ [.tmp 3] _ [.slice (some ⟨w.heap.size, 16, none⟩) 8 16] rfl (by kernel_rfl) Tryd.func78 (by kernel_rfl) rfl (C0.out), ow_val hA (wants_none rfl) 5 (.slice (some ⟨w.heap.size, 24, none⟩) 8 8) (by kernel_rfl) rfl rfl rfl rfl (by kernel_rfl) (fun w => arr_ft_run 24 32 rfl (by kernel_rfl) Tryd.underlying22 sz_u8 (by decide) (by decide) (by decide) w), ow_calld hA (wants_none rfl) 6 (.int .u64 (x1 : Int)) (by kernel_rfl) rfl rfl rfl rfl (by kernel_rfl) 78 Tryd.f78 _ [.tmp 5] _ [.slice (some ⟨w.heap.size, 24, none⟩) 8 8] rfl (by kernel_rfl) Tryd.func78 (by kernel_rfl) rfl (C1.out), ow_val hA (wants_none rfl) 7 (.agg (ints .u64 [x0, x1, 0])) (by kernel_rfl) rfl rfl rfl rfl (by kernel_rfl) (fun w => run_build32 rfl (by kernel_rfl) (by kernel_rfl) w), trivial⟩) ?_
  case hst1 => intro q hq; cases hq
  case hst2 => intro q hq; cases hq
  intro fv w4 hf hD hb4
  simp only [putR, List.foldl_cons, List.foldl_nil, List.map_cons, List.map_nil, Act.put, List.setIfInBounds_toArray, List.set_cons_succ, List.set_cons_zero]
  refine wl_store rfl 92 (.tmp 2) (.tmp 7) rfl (w.heap.size + 1) (ints .u64 [x0, x1, 0]) (by kernel_rfl) (by kernel_rfl) _ (A1.under hb4) (by rw [ints_size]; exact nt_info) (by rw [ints_size, LZ.out]; rfl) (ints_one _ _) ?_
  intro w5 A5 P5
  go_wp2
  exact bodyPost_ret (v := .agg (ints .u64 [x0, x1, 0])) (results_cell_row Tryd.results59 _ _ _ 92 (ints .u64 [x0, x1, 0]) (0, 0) _ rfl A5 Tryd.underlying92 rfl (by rw [ints_size]; exact nt_info)) rfl ⟨rfl, (Q0.trans (hb4.mono Q0.size)).trans (P5.below (by omega))⟩

theorem val_zeros (n : Nat) : val (List.replicate n 0) = 0 := by
  induction n with
  | zero => rfl
  | succ n ih => simp [List.replicate_succ, val, ih]
theorem read_list (b : List Nat) (h : b.length ≤ 16) : (splice (List.replicate 24 0) 0 b).set b.length 1 = b ++ [1] ++ List.replicate (23 - b.length) 0 := by
  unfold splice
  rw [List.take_zero, List.nil_append, Nat.zero_add, List.drop_replicate, List.set_append_right _ _ (Nat.le_refl _), Nat.sub_self, show 24 - b.length = (23 - b.length) + 1 by omega, List.replicate_succ, List.set_cons_zero, List.append_assoc]
  rfl
theorem z24_eq : (#[.int .u8 0, .int .u8 0, .int .u8 0, .int .u8 0, .int .u8 0, .int .u8 0, .int .u8 0, .int .u8 0, .int .u8 0, .int .u8 0, .int .u8 0, .int .u8 0, .int .u8 0, .int .u8 0, .int .u8 0, .int .u8 0, .int .u8 0, .int .u8 0, .int .u8 0, .int .u8 0, .int .u8 0, .int .u8 0, .int .u8 0, .int .u8 0] : Array Value) = ints .u8 (List.replicate 24 0) := by kernel_rfl
set_option maxRecDepth 100000 in
set_option maxHeartbeats 1000000 in
theorem readD (b : List Nat) (p : Option Addr) (c : Nat) (w : World) (hl : b.length ≤ 16) (hy : Bytes b) (hv : BytesV (.slice p b.length c) w b) :
    Calls Tryd.prog 56 #[.slice p b.length c] w fun e w' => e = .returned (.agg (ints .u64 (nw (val (b ++ [1]))))) ∧ Below w.heap.size w w' := by
  obtain ⟨Z0, hZ0⟩ : ∃ Z, Z = List.replicate 24 0 := ⟨_, rfl⟩
  obtain ⟨B1, hB1⟩ : ∃ B, B = splice Z0 0 b := ⟨_, rfl⟩
  obtain ⟨B2, hB2⟩ : ∃ B, B = B1.set b.length 1 := ⟨_, rfl⟩
  have EB2 : B2 = b ++ [1] ++ List.replicate (23 - b.length) 0 := by rw [hB2, hB1, hZ0]; exact read_list b hl
  have L2 : Kept (B2.length = 24) := ⟨by rw [EB2]; simp; omega⟩
  have Y2 : Kept (Bytes B2) := ⟨by rw [EB2]; exact (hy.append (bytes_of_all (by decide))).append (bytes_zero _)⟩
  have V2 : val B2 = val (b ++ [1]) := by rw [EB2, val_append, val_zeros, Nat.mul_zero, Nat.add_zero]
  obtain ⟨x0, hx0⟩ : ∃ x, x = val ((B2.drop 0).take 8) := ⟨_, rfl⟩
  obtain ⟨x1, hx1⟩ : ∃ x, x = val ((B2.drop 8).take 8) := ⟨_, rfl⟩
  obtain ⟨x2, hx2⟩ : ∃ x, x = val ((B2.drop 16).take 8) := ⟨_, rfl⟩
  have e : nw (val (b ++ [1])) = [x0, x1, x2] := by unfold nw; rw [← V2, wd_val _ Y2.out.all, wd_val _ Y2.out.all, wd_val _ Y2.out.all, hx0, hx1, hx2]
  rw [e]
  obtain ⟨n, hn⟩ : ∃ n, n = b.length := ⟨_, rfl⟩
  rw [← hn] at hv hl hB2 ⊢
  have KV : Kept _ := ⟨hv⟩
  have KN : Kept _ := ⟨hn⟩
  have LZ0 : Kept (Z0.length = 24) := ⟨by rw [hZ0]; rfl⟩
  have L1 : Kept (B1.length = 24) := ⟨by rw [hB1, splice_len (by rw [LZ0.out, ← hn]; omega)]; exact LZ0.out⟩
  have HB1 : Kept ((splice (ints .u8 Z0).toList 0 (ints .u8 (b.take n)).toList).toArray = ints .u8 B1) := ⟨by rw [splice_ints, List.take_of_length_le (by omega), ← hB1]⟩
  have HB2 : Kept (B1.set n 1 = B2) := ⟨hB2.symm⟩
  obtain ⟨ZZ, hZZ⟩ : ∃ ZZ : Array Value, ZZ = #[.int .u64 0, .int .u64 0, .int .u64 0] := ⟨_, rfl⟩
  have LZ : Kept (ZZ.size = 3) := ⟨by rw [hZZ]; rfl⟩
  have A0 : Blk ((w.alloc (.cells #[.int .u64 0, .int .u64 0, .int .u64 0] 92)).alloc (.cells #[.int .u8 0, .int .u8 0, .int .u8 0, .int .u8 0, .int .u8 0, .int .u8 0, .int .u8 0, .int .u8 0, .int .u8 0, .int .u8 0, .int .u8 0, .int .u8 0, .int .u8 0, .int .u8 0, .int .u8 0, .int .u8 0, .int .u8 0, .int .u8 0, .int .u8 0, .int .u8 0, .int .u8 0, .int .u8 0, .int .u8 0, .int .u8 0] 119)) w.heap.size 92 ZZ := by rw [hZZ]; exact (blk_new w _ _).alloc _
  have A1 : Blk ((w.alloc (.cells #[.int .u64 0, .int .u64 0, .int .u64 0] 92)).alloc (.cells #[.int .u8 0, .int .u8 0, .int .u8 0, .int .u8 0, .int .u8 0, .int .u8 0, .int .u8 0, .int .u8 0, .int .u8 0, .int .u8 0, .int .u8 0, .int .u8 0, .int .u8 0, .int .u8 0, .int .u8 0, .int .u8 0, .int .u8 0, .int .u8 0, .int .u8 0, .int .u8 0, .int .u8 0, .int .u8 0, .int .u8 0, .int .u8 0] 119)) (w.heap.size + 1) 119 (ints .u8 Z0) := by rw [hZ0, ← z24_eq]; exact blk_top _ _ _ _ (by simp)
  have Q0 : Below w.heap.size w ((w.alloc (.cells #[.int .u64 0, .int .u64 0, .int .u64 0] 92)).alloc (.cells #[.int .u8 0, .int .u8 0, .int .u8 0, .int .u8 0, .int .u8 0, .int .u8 0, .int .u8 0, .int .u8 0, .int .u8 0, .int .u8 0, .int .u8 0, .int .u8 0, .int .u8 0, .int .u8 0, .int .u8 0, .int .u8 0, .int .u8 0, .int .u8 0, .int .u8 0, .int .u8 0, .int .u8 0, .int .u8 0, .int .u8 0, .int .u8 0] 119)) := ((Below.refl _ _).alloc (Nat.le_refl _) _).alloc (by simp) _
  have VV : Kept (BytesV (.slice p n c) ((w.alloc (.cells #[.int .u64 0, .int .u64 0, .int .u64 0] 92)).alloc (.cells #[.int .u8 0, .int .u8 0, .int .u8 0, .int .u8 0, .int .u8 0, .int .u8 0, .int .u8 0, .int .u8 0, .int .u8 0, .int .u8 0, .int .u8 0, .int .u8 0, .int .u8 0, .int .u8 0, .int .u8 0, .int .u8 0, .int .u8 0, .int .u8 0, .int .u8 0, .int .u8 0, .int .u8 0, .int .u8 0, .int .u8 0, .int .u8 0] 119)) b) := ⟨hv.under Q0⟩
  have hn24 : n < 24 := by omega
  have hmin : Kept (n = Nat.min n 24) := ⟨(Nat.min_eq_left (by omega)).symm⟩
  clear hZ0 hB1 hB2 hZZ hv e hn V2 EB2
  go_enter Tryd.func56, Tryd.ntmps56
  go_wp2_with (first | ((with_reducible refine wv_val (d := 4) ?hd ?hw (.slice (some ⟨w.heap.size + 1, 0, none⟩) 24 24) ?hr ?_); (case hd => rfl); (case hw => kernel_rfl); (case hr => intro w; exact arr_all_run rfl (by kernel_rfl) Tryd.underlying119 sz_u8 (by decide) w); simp only [Act.put, List.setIfInBounds_toArray, List.set_cons_succ, List.set_cons_zero]) | (refine wl_copyV rfl (.tmp 4) (.tmp 5) 23 23 rfl Tryd.underlying23 (w.heap.size + 1) 0 24 24 rfl p n c rfl _ A1 b VV.out n hmin.out (by rw [ints_size, LZ0.out]; omega) ?_))
  intro w2 B1' P2
  rw [HB1.out] at B1'
  have B0' := P2.blk A0 (by omega)
  have Q2 := Q0.trans (P2.below (by omega))
  clear A0 A1 Q0 P2 HB1 VV hmin
  go_wp2_with (first | ((with_reducible refine wv_val (d := 9) ?hd ?hw (.pointer (some ⟨w.heap.size + 1, n, none⟩)) ?hr ?_); (case hd => rfl); (case hw => kernel_rfl); (case hr => intro w; exact run_idx rfl (by kernel_rfl) (by kernel_rfl) Tryd.underlying119 hn24 sz_u8 w); simp only [Act.put, List.setIfInBounds_toArray, List.set_cons_succ, List.set_cons_zero]) | (refine wl_setElem rfl 5 sz_u8 (.tmp 9) (.const (.int .u8 1)) rfl (w.heap.size + 1) n .u8 ((1 : Nat) : Int) rfl rfl _ B1' (by rw [ints_size, L1.out]; exact hn24) ?_))
  intro w4 D1 P4
  have D1 : Blk w4 (w.heap.size + 1) 119 (ints .u8 B2) := by rw [← HB2.out, ← ints_set]; exact D1
  have D0 := P4.blk B0' (by omega)
  have Q4 := Q2.trans (P4.below (by omega))
  have C0 : Kept (∀ w', Below w4.heap.size w4 w' → Calls Tryd.prog 78 [.slice (some ⟨w.heap.size + 1, 0, none⟩) 8 24].toArray w' fun e w2 => e = .returned (.int .u64 (x0 : Int)) ∧ Below w'.heap.size w' w2) := ⟨fun w' hb => wordD (w.heap.size + 1) 0 24 _ B2 w' (D1.under hb) Y2.out (by rw [L2.out]; decide) x0 hx0⟩
  have C1 : Kept (∀ w', Below w4.heap.size w4 w' → Calls Tryd.prog 78 [.slice (some ⟨w.heap.size + 1, 8, none⟩) 8 16].toArray w' fun e w2 => e = .returned (.int .u64 (x1 : Int)) ∧ Below w'.heap.size w' w2) := ⟨fun w' hb => wordD (w.heap.size + 1) 8 16 _ B2 w' (D1.under hb) Y2.out (by rw [L2.out]; decide) x1 hx1⟩
  have C2 : Kept (∀ w', Below w4.heap.size w4 w' → Calls Tryd.prog 78 [.slice (some ⟨w.heap.size + 1, 16, none⟩) 8 8].toArray w' fun e w2 => e = .returned (.int .u64 (x2 : Int)) ∧ Below w'.heap.size w' w2) := ⟨fun w' hb => wordD (w.heap.size + 1) 16 8 _ B2 w' (D1.under hb) Y2.out (by rw [L2.out]; decide) x2 hx2⟩
  clear B0' B1' Q2 P4 HB2 hx0 hx1 hx2
  go_wp2_with fail
  refine region_ownL w4 7 [(10, .slice (some ⟨w.heap.size + 1, 0, none⟩) 8 24), (11, .int .u64 (x0 : Int)), (12, .slice (some ⟨w.heap.size + 1, 8, none⟩) 8 16), (13, .int .u64 (x1 : Int)), (14, .slice (some ⟨w.heap.size + 1, 16, none⟩) 8 8), (15, .int .u64 (x2 : Int)), (16, .agg (ints .u64 [x0, x1, x2]))] [] [] [] rfl (by kernel_rfl) (by kernel_rfl) (by kernel_rfl) (by kernel_rfl) (by kernel_rfl) (by kernel_rfl) (by kernel_rfl) (by kernel_rfl) (by kernel_rfl) (by kernel_rfl) (by kernel_rfl) ?hst1 ?hst2 (Below.refl _ _) (fun hA => ⟨ow_val hA (wants_none rfl) 10 (.slice (some ⟨w.heap.size + 1, 0, none⟩) 8 24) (by kernel_rfl) rfl rfl rfl rfl (by kernel_rfl) (fun w => arr_ft_run 0 8 rfl (by kernel_rfl) Tryd.underlying119 sz_u8 (by decide) (by decide) (by decide) w), ow_calld hA (wants_none rfl) 11 (.int .u64 (x0 : Int)) (by kernel_rfl) rfl rfl rfl rfl (by kernel_rfl) 78 Tryd.f78 _ [.tmp 10] _ [.slice (some ⟨w.heap.size + 1, 0, none⟩) 8 24] rfl (by kernel_rfl) Tryd.func78 (by kernel_rfl) rfl (C0.out), ow_val hA (wants_none rfl) 12 (.slice (some ⟨w.heap.size + 1, 8, none⟩) 8 16) (by kernel_rfl) rfl rfl rfl rfl (by kernel_rfl) (fun w => arr_ft_run 8 16 rfl (by kernel_rfl) Tryd.underlying119 sz_u8 (by decide) (by decide) (by decide) w), ow_calld hA (wants_none rfl) 13 (.int .u64 (x1 : Int)) (by kernel_rfl) rfl rfl rfl rfl (by kernel_rfl) 78 Tryd.f78 _ [.tmp 12] _ [.slice (some ⟨w.heap.size + 1, 8, none⟩) 8 16] rfl (by kernel_rfl) Tryd.func78 (by kernel_rfl) rfl (C1.out), ow_val hA (wants_none rfl) 14 (.slice (some ⟨w.heap.size + 1, 16, none⟩) 8 8) (by kernel_rfl) rfl rfl rfl rfl (by kernel_rfl) (fun w => arr_ft_run 16 24 rfl (by kernel_rfl) Tryd.underlying119 sz_u8 (by decide) (by decide) (by decide) w), ow_calld hA (wants_none rfl) 15 (.int .u64 (x2 : Int)) (by kernel_rfl) rfl rfl rfl rfl (by kernel_rfl) 78 Tryd.f78 _ [.tmp 14] _ [.slice (some ⟨w.heap.size + 1, 16, none⟩) 8 8] rfl (by kernel_rfl) Tryd.func78 (by kernel_rfl) rfl (C2.out), ow_val hA (wants_none rfl) 16 (.agg (ints .u64 [x0, x1, x2])) (by kernel_rfl) rfl rfl rfl rfl (by kernel_rfl) (fun w => run_build3 rfl (by kernel_rfl) (by kernel_rfl) (by kernel_rfl) w), trivial⟩) ?_
  case hst1 => intro q hq; cases hq
  case hst2 => intro q hq; cases hq
  intro fv w6 hf hD hb6
  simp only [putR, List.foldl_cons, List.foldl_nil, List.map_cons, List.map_nil, Act.put, List.setIfInBounds_toArray, List.set_cons_succ, List.set_cons_zero]
  refine wl_store rfl 92 (.tmp 2) (.tmp 16) rfl w.heap.size (ints .u64 [x0, x1, x2]) (by kernel_rfl) (by kernel_rfl) _ (D0.under hb6) (by rw [ints_size]; exact nt_info) (by rw [ints_size, LZ.out]; rfl) (ints_one _ _) ?_
  intro w7 A7 P7
  go_wp2
  exact bodyPost_ret (v := .agg (ints .u64 [x0, x1, x2])) (results_cell_row Tryd.results56 _ _ _ 92 (ints .u64 [x0, x1, x2]) (0, 0) _ rfl A7 Tryd.underlying92 rfl (by rw [ints_size]; exact nt_info)) rfl ⟨rfl, (Q4.trans (hb6.mono Q4.size)).trans (P7.below (Nat.le_refl _))⟩
end Go.Proofs.YtkibojjbghopkaaDoor.sh
