/-
  General pieces, joined: YF YG.
-/
import Derived.Test.YtjkdonjcngmjeaaGreatDoorG19
/-
  The words of a key and of a piece of a text, by the program.
-/
namespace Go.Proofs.YtjkdonjcngmjeaaGreatDoor.sh
open Go Go.RowKit
set_option linter.unusedVariables false
set_option linter.unusedSimpArgs false

theorem val_take (L : List Nat) (hy : ∀ x ∈ L, x < 256) (k : Nat) : val (L.take k) = val L % 256 ^ k ∧ val (L.drop k) = val L / 256 ^ k := by
  have hs := val_split L k
  have hlt : val (L.take k) < 256 ^ k := by
    have h1 := val_lt (L.take k) (fun x hx => hy x (List.mem_of_mem_take hx))
    have h2 : 256 ^ (L.take k).length ≤ 256 ^ k := Nat.pow_le_pow_right (by decide) (by simp; omega)
    omega
  have hp : 0 < 256 ^ k := Nat.pow_pos (by decide)
  rw [hs]
  exact ⟨by rw [Nat.add_mul_mod_self_left, Nat.mod_eq_of_lt hlt], by rw [Nat.add_mul_div_left _ _ hp, Nat.div_eq_of_lt hlt, Nat.zero_add]⟩
theorem wd_val (L : List Nat) (hy : ∀ x ∈ L, x < 256) (j : Nat) : wd (val L) j = val ((L.drop (8 * j)).take 8) := by
  unfold wd
  rw [(val_take (L.drop (8 * j)) (fun x hx => hy x (List.mem_of_mem_drop hx)) 8).1, (val_take L hy (8 * j)).2, show (18446744073709551616 : Nat) = 256 ^ 8 by decide, ← Nat.pow_mul]
theorem wd_and (A B j : Nat) : wd (A &&& B) j = wd A j &&& wd B j := by
  unfold wd
  rw [show (18446744073709551616 : Nat) = 2 ^ 64 by decide, ← Nat.pow_mul, Nat.and_div_two_pow, Nat.and_mod_two_pow]
theorem rN_and (key : List Nat) (h : key.length = 32) (hy : Bytes key) : rN key = val (key.take 16) &&& val maskL := by
  unfold rN clampL
  rw [← val_and _ _ (by simp [h, maskL]) (hy.take 16).all (by decide)]
theorem rN_wd0 (key : List Nat) (h : key.length = 32) (hy : Bytes key) : wd (rN key) 0 = val ((key.drop 0).take 8) &&& 1152921487695413247 := by
  rw [rN_and key h hy, wd_and, wd_val _ (hy.take 16).all, maskL_val]
  congr 1
  rw [Nat.mul_zero, List.drop_zero, List.drop_zero, List.take_take]
  rfl
theorem rN_wd1 (key : List Nat) (h : key.length = 32) (hy : Bytes key) : wd (rN key) 1 = val ((key.drop 8).take 8) &&& 1152921487695413244 := by
  rw [rN_and key h hy, wd_and, wd_val _ (hy.take 16).all, maskL_val]
  congr 1
  rw [List.drop_take, List.take_take]
  rfl
theorem rN_low (key : List Nat) (h : key.length = 32) (hy : Bytes key) : wd (rN key) 0 < 1152921504606846976 := by
  rw [rN_wd0 key h hy]
  exact Nat.lt_of_le_of_lt Nat.and_le_right (by decide)
theorem sN_nw (key : List Nat) (h : key.length = 32) (hy : Bytes key) : nw (sN key) = [val ((key.drop 16).take 8), val ((key.drop 24).take 8), 0] := by
  unfold nw
  have h2 : wd (sN key) 2 = 0 := by
    have := sN_lt key h hy
    rw [wd2]
    omega
  rw [h2]
  unfold sN
  rw [wd_val _ (hy.drop 16).all, wd_val _ (hy.drop 16).all, List.drop_drop, List.drop_drop]

theorem run_andC {o : Oper} {a : Act} {x : Operand} {m z : Nat} (c : Nat) (ho : o.op = .binOp .and 22 x (.const (.int .u64 (c : Int))) 22) (hx : a.eval x = .int .u64 (m : Int)) (hm : m < 18446744073709551616) (hc : c < 18446744073709551616) (hz : z = m &&& c) (w : World) : (execOp a.eval o).run Tryz.prog w = .ok (.value (.int .u64 (z : Int))) w := by
  have e3 : a.eval (.const (.int .u64 (c : Int))) = .int .u64 (c : Int) := rfl
  have h := u64_and_nat m c hm hc
  unfold execOp
  simp only [ho, hx, e3]
  rw [hz]
  simp [go_sem]
  exact h
theorem val_8 (L : List Nat) (hy : Bytes L) (k : Nat) : val ((L.drop k).take 8) < 18446744073709551616 := by
  have h1 := val_lt _ ((hy.drop k).take 8).all
  have h2 : 256 ^ ((L.drop k).take 8).length ≤ 256 ^ 8 := Nat.pow_le_pow_right (by decide) (by simp; omega)
  exact Nat.lt_of_lt_of_le h1 h2

set_option maxRecDepth 100000 in
set_option maxHeartbeats 1000000 in
theorem factorD (key : List Nat) (w : World) (hk : key.length = 32) (hy : Bytes key) :
    Calls Tryz.prog 88 #[.agg (ints .u8 key)] w fun e w' => e = .returned (.agg (ints .u64 (nw2 (rN key)))) ∧ Below w.heap.size w w' := by
  obtain ⟨x0, hx0⟩ : ∃ x, x = val ((key.drop 0).take 8) := ⟨_, rfl⟩
  obtain ⟨x1, hx1⟩ : ∃ x, x = val ((key.drop 8).take 8) := ⟨_, rfl⟩
  obtain ⟨y0, hy0⟩ : ∃ x, x = x0 &&& 1152921487695413247 := ⟨_, rfl⟩
  obtain ⟨y1, hy1⟩ : ∃ x, x = x1 &&& 1152921487695413244 := ⟨_, rfl⟩
  have e : nw2 (rN key) = [y0, y1] := by unfold nw2; rw [rN_wd0 key hk hy, rN_wd1 key hk hy, hy0, hy1, hx0, hx1]
  rw [e]
  have X0 : Kept (x0 < 18446744073709551616) := ⟨by rw [hx0]; exact val_8 key hy 0⟩
  have X1 : Kept (x1 < 18446744073709551616) := ⟨by rw [hx1]; exact val_8 key hy 8⟩
  have Y0 : Kept _ := ⟨hy0⟩
  have Y1 : Kept _ := ⟨hy1⟩
  have A0 : Blk ((w.alloc (.cells (ints .u8 key) 30)).alloc (.cells #[.int .u64 0, .int .u64 0] 141)) w.heap.size 30 (ints .u8 key) := (blk_new w _ _).alloc _
  obtain ⟨ZZ, hZZ⟩ : ∃ ZZ : Array Value, ZZ = #[.int .u64 0, .int .u64 0] := ⟨_, rfl⟩
  have LZ : Kept (ZZ.size = 2) := ⟨by rw [hZZ]; rfl⟩
  have A1 : Blk ((w.alloc (.cells (ints .u8 key) 30)).alloc (.cells #[.int .u64 0, .int .u64 0] 141)) (w.heap.size + 1) 141 ZZ := by rw [hZZ]; exact blk_top _ _ _ _ (by simp)
  have Q0 : Below w.heap.size w ((w.alloc (.cells (ints .u8 key) 30)).alloc (.cells #[.int .u64 0, .int .u64 0] 141)) := ((Below.refl _ _).alloc (Nat.le_refl _) _).alloc (by simp) _
  go_enter Tryz.func88, Tryz.ntmps88
  go_wp2_with fail
  generalize hW : (w.alloc (.cells (ints .u8 key) 30)).alloc (.cells #[.int .u64 0, .int .u64 0] 141) = W at *
  have C0 : Kept (∀ w', Below W.heap.size W w' → Calls Tryz.prog 122 [.slice (some ⟨w.heap.size, 0, none⟩) 8 32].toArray w' fun e w2 => e = .returned (.int .u64 (x0 : Int)) ∧ Below w'.heap.size w' w2) := ⟨fun w' hb => wordD w.heap.size 0 32 _ key w' (A0.under hb) hy (by omega) x0 hx0⟩
  have C1 : Kept (∀ w', Below W.heap.size W w' → Calls Tryz.prog 122 [.slice (some ⟨w.heap.size, 8, none⟩) 8 24].toArray w' fun e w2 => e = .returned (.int .u64 (x1 : Int)) ∧ Below w'.heap.size w' w2) := ⟨fun w' hb => wordD w.heap.size 8 24 _ key w' (A0.under hb) hy (by omega) x1 hx1⟩
  clear hW hZZ hx0 hx1 hy0 hy1 e
  refine region_ownL W 7 [(3, .slice (some ⟨w.heap.size, 0, none⟩) 8 32), (4, .int .u64 (x0 : Int)), (5, .int .u64 (y0 : Int)), (6, .slice (some ⟨w.heap.size, 8, none⟩) 8 24), (7, .int .u64 (x1 : Int)), (8, .int .u64 (y1 : Int)), (9, .agg (ints .u64 [y0, y1]))] [] [] [] rfl (by kernel_rfl) (by kernel_rfl) (by kernel_rfl) (by kernel_rfl) (by kernel_rfl) (by kernel_rfl) (by kernel_rfl) (by kernel_rfl) (by kernel_rfl) (by kernel_rfl) (by kernel_rfl) ?hst1 ?hst2 (Below.refl _ _) (fun hA => ⟨ow_val hA (wants_none rfl) 3 (.slice (some ⟨w.heap.size, 0, none⟩) 8 32) (by kernel_rfl) rfl rfl rfl rfl (by kernel_rfl) (fun w => arr_ft_run 0 8 rfl (by kernel_rfl) Tryz.underlying30 sz_u8 (by decide) (by decide) (by decide) w), ow_calld hA (wants_none rfl) 4 (.int .u64 (x0 : Int)) (by kernel_rfl) rfl rfl rfl rfl (by kernel_rfl) 122 Tryz.f122 _ [.tmp 3] _ [.slice (some ⟨w.heap.size, 0, none⟩) 8 32] rfl (by kernel_rfl) Tryz.func122 (by kernel_rfl) rfl (C0.out), ow_val hA (wants_none rfl) 5 (.int .u64 (y0 : Int)) (by kernel_rfl) rfl rfl rfl rfl (by kernel_rfl) (fun w => run_andC 1152921487695413247 rfl (by kernel_rfl) X0.out (by decide) Y0.out w), ow_val hA (wants_none rfl) 6 (.slice (some ⟨w.heap.size, 8, none⟩) 8 24) (by kernel_rfl) rfl rfl rfl rfl (by kernel_rfl) (fun w => arr_ft_run 8 16 rfl (by kernel_rfl) Tryz.underlying30 sz_u8 (by decide) (by decide) (by decide) w), ow_calld hA (wants_none rfl) 7 (.int .u64 (x1 : Int)) (by kernel_rfl) rfl rfl rfl rfl (by kernel_rfl) 122 Tryz.f122 _ [.tmp 6] _ [.slice (some ⟨w.heap.size, 8, none⟩) 8 24] rfl (by kernel_rfl) Tryz.func122 (by kernel_rfl) rfl (C1.out), ow_val hA (wants_none rfl) 8 (.int .u64 (y1 : Int)) (by kernel_rfl) rfl rfl rfl rfl (by kernel_rfl) (fun w => run_andC 1152921487695413244 rfl (by kernel_rfl) X1.out (by decide) Y1.out w), ow_val hA (wants_none rfl) 9 (.agg (ints .u64 [y0, y1])) (by kernel_rfl) rfl rfl rfl rfl (by kernel_rfl) (fun w => run_build2 rfl (by kernel_rfl) (by kernel_rfl) w), trivial⟩) ?_
  case hst1 => intro q hq; cases hq
  case hst2 => intro q hq; cases hq
  intro fv w4 hf hD hb4
  simp only [putR, List.foldl_cons, List.foldl_nil, List.map_cons, List.map_nil, Act.put, List.setIfInBounds_toArray, List.set_cons_succ, List.set_cons_zero]
  refine wl_store rfl 141 (.tmp 2) (.tmp 9) rfl (w.heap.size + 1) (ints .u64 [y0, y1]) (by kernel_rfl) (by kernel_rfl) _ (A1.under hb4) (by rw [ints_size]; exact a2_info) (by rw [ints_size, LZ.out]; rfl) (ints_one _ _) ?_
  intro w5 A5 P5
  go_wp2
  exact bodyPost_ret (v := .agg (ints .u64 [y0, y1])) (results_cell_row Tryz.results88 _ _ _ 141 (ints .u64 [y0, y1]) (0, 0) _ rfl A5 Tryz.underlying141 rfl (by rw [ints_size]; exact a2_info)) rfl ⟨rfl, (Q0.trans (hb4.mono Q0.size)).trans (P5.below (by omega))⟩

set_option maxRecDepth 100000 in
set_option maxHeartbeats 1000000 in
theorem addendD (key : List Nat) (w : World) (hk : key.length = 32) (hy : Bytes key) :
    Calls Tryz.prog 93 #[.agg (ints .u8 key)] w fun e w' => e = .returned (.agg (ints .u64 (nw (sN key)))) ∧ Below w.heap.size w w' := by
  obtain ⟨x0, hx0⟩ : ∃ x, x = val ((key.drop 16).take 8) := ⟨_, rfl⟩
  obtain ⟨x1, hx1⟩ : ∃ x, x = val ((key.drop 24).take 8) := ⟨_, rfl⟩
  have e : nw (sN key) = [x0, x1, 0] := by rw [sN_nw key hk hy, hx0, hx1]
  rw [e]
  have A0 : Blk ((w.alloc (.cells (ints .u8 key) 30)).alloc (.cells #[.int .u64 0, .int .u64 0, .int .u64 0] 144)) w.heap.size 30 (ints .u8 key) := (blk_new w _ _).alloc _
  obtain ⟨ZZ, hZZ⟩ : ∃ ZZ : Array Value, ZZ = #[.int .u64 0, .int .u64 0, .int .u64 0] := ⟨_, rfl⟩
  have LZ : Kept (ZZ.size = 3) := ⟨by rw [hZZ]; rfl⟩
  have A1 : Blk ((w.alloc (.cells (ints .u8 key) 30)).alloc (.cells #[.int .u64 0, .int .u64 0, .int .u64 0] 144)) (w.heap.size + 1) 144 ZZ := by rw [hZZ]; exact blk_top _ _ _ _ (by simp)
  have Q0 : Below w.heap.size w ((w.alloc (.cells (ints .u8 key) 30)).alloc (.cells #[.int .u64 0, .int .u64 0, .int .u64 0] 144)) := ((Below.refl _ _).alloc (Nat.le_refl _) _).alloc (by simp) _
  go_enter Tryz.func93, Tryz.ntmps93
  go_wp2_with fail
  generalize hW : (w.alloc (.cells (ints .u8 key) 30)).alloc (.cells #[.int .u64 0, .int .u64 0, .int .u64 0] 144) = W at *
  have C0 : Kept (∀ w', Below W.heap.size W w' → Calls Tryz.prog 122 [.slice (some ⟨w.heap.size, 16, none⟩) 8 16].toArray w' fun e w2 => e = .returned (.int .u64 (x0 : Int)) ∧ Below w'.heap.size w' w2) := ⟨fun w' hb => wordD w.heap.size 16 16 _ key w' (A0.under hb) hy (by omega) x0 hx0⟩
  have C1 : Kept (∀ w', Below W.heap.size W w' → Calls Tryz.prog 122 [.slice (some ⟨w.heap.size, 24, none⟩) 8 8].toArray w' fun e w2 => e = .returned (.int .u64 (x1 : Int)) ∧ Below w'.heap.size w' w2) := ⟨fun w' hb => wordD w.heap.size 24 8 _ key w' (A0.under hb) hy (by omega) x1 hx1⟩
  clear hW hZZ hx0 hx1 e
  refine region_ownL W 5 [(3, .slice (some ⟨w.heap.size, 16, none⟩) 8 16), (4, .int .u64 (x0 : Int)), (5, .slice (some ⟨w.heap.size, 24, none⟩) 8 8), (6, .int .u64 (x1 : Int)), (7, .agg (ints .u64 [x0, x1, 0]))] [] [] [] rfl (by kernel_rfl) (by kernel_rfl) (by kernel_rfl) (by kernel_rfl) (by kernel_rfl) (by kernel_rfl) (by kernel_rfl) (by kernel_rfl) (by kernel_rfl) (by kernel_rfl) (by kernel_rfl) ?hst1 ?hst2 (Below.refl _ _) (fun hA => ⟨ow_val hA (wants_none rfl) 3 (.slice (some ⟨w.heap.size, 16, none⟩) 8 16) (by kernel_rfl) rfl rfl rfl rfl (by kernel_rfl) (fun w => arr_ft_run 16 24 rfl (by kernel_rfl) Tryz.underlying30 sz_u8 (by decide) (by decide) (by decide) w), ow_calld hA (wants_none rfl) 4 (.int .u64 (x0 : Int)) (by kernel_rfl) rfl rfl rfl rfl (by kernel_rfl) 122 Tryz.f122 _ [.tmp 3] _ [.slice (some ⟨w.heap.size, 16, none⟩) 8 16] rfl (by kernel_rfl) Tryz.func122 (by kernel_rfl) rfl (C0.out), ow_val hA (wants_none rfl) 5 (.slice (some ⟨w.heap.size, 24, none⟩) 8 8) (by kernel_rfl) rfl rfl rfl rfl (by kernel_rfl) (fun w => arr_ft_run 24 32 rfl (by kernel_rfl) Tryz.underlying30 sz_u8 (by decide) (by decide) (by decide) w), ow_calld hA (wants_none rfl) 6 (.int .u64 (x1 : Int)) (by kernel_rfl) rfl rfl rfl rfl (by kernel_rfl) 122 Tryz.f122 _ [.tmp 5] _ [.slice (some ⟨w.heap.size, 24, none⟩) 8 8] rfl (by kernel_rfl) Tryz.func122 (by kernel_rfl) rfl (C1.out), ow_val hA (wants_none rfl) 7 (.agg (ints .u64 [x0, x1, 0])) (by kernel_rfl) rfl rfl rfl rfl (by kernel_rfl) (fun w => run_build32 rfl (by kernel_rfl) (by kernel_rfl) w), trivial⟩) ?_
  case hst1 => intro q hq; cases hq
  case hst2 => intro q hq; cases hq
  intro fv w4 hf hD hb4
  simp only [putR, List.foldl_cons, List.foldl_nil, List.map_cons, List.map_nil, Act.put, List.setIfInBounds_toArray, List.set_cons_succ, List.set_cons_zero]
  refine wl_store rfl 144 (.tmp 2) (.tmp 7) rfl (w.heap.size + 1) (ints .u64 [x0, x1, 0]) (by kernel_rfl) (by kernel_rfl) _ (A1.under hb4) (by rw [ints_size]; exact nt_info) (by rw [ints_size, LZ.out]; rfl) (ints_one _ _) ?_
  intro w5 A5 P5
  go_wp2
  exact bodyPost_ret (v := .agg (ints .u64 [x0, x1, 0])) (results_cell_row Tryz.results93 _ _ _ 144 (ints .u64 [x0, x1, 0]) (0, 0) _ rfl A5 Tryz.underlying144 rfl (by rw [ints_size]; exact nt_info)) rfl ⟨rfl, (Q0.trans (hb4.mono Q0.size)).trans (P5.below (by omega))⟩

theorem val_zeros (n : Nat) : val (List.replicate n 0) = 0 := by
  induction n with
  | zero => rfl
  | succ n ih => simp [List.replicate_succ, val, ih]
theorem read_list (b : List Nat) (h : b.length ≤ 16) : (splice (List.replicate 24 0) 0 b).set b.length 1 = b ++ [1] ++ List.replicate (23 - b.length) 0 := by
  unfold splice
  rw [List.take_zero, List.nil_append, Nat.zero_add, List.drop_replicate, List.set_append_right _ _ (Nat.le_refl _), Nat.sub_self, show 24 - b.length = (23 - b.length) + 1 by omega, List.replicate_succ, List.set_cons_zero, List.append_assoc]
  rfl
theorem z24_eq : (#[.int .u8 0, .int .u8 0, .int .u8 0, .int .u8 0, .int .u8 0, .int .u8 0, .int .u8 0, .int .u8 0, .int .u8 0, .int .u8 0, .int .u8 0, .int .u8 0, .int .u8 0, .int .u8 0, .int .u8 0, .int .u8 0, .int .u8 0, .int .u8 0, .int .u8 0, .int .u8 0, .int .u8 0, .int .u8 0, .int .u8 0, .int .u8 0] : Array Value) = ints .u8 (List.replicate 24 0) := by kernel_rfl
set_option maxRecDepth 100000 in
set_option maxHeartbeats 1000000 in
theorem readD (b : List Nat) (p : Option Addr) (c : Nat) (w : World) (hl : b.length ≤ 16) (hy : Bytes b) (hv : BytesV (.slice p b.length c) w b) :
    Calls Tryz.prog 90 #[.slice p b.length c] w fun e w' => e = .returned (.agg (ints .u64 (nw (val (b ++ [1]))))) ∧ Below w.heap.size w w' := by
  obtain ⟨Z0, hZ0⟩ : ∃ Z, Z = List.replicate 24 0 := ⟨_, rfl⟩
  obtain ⟨B1, hB1⟩ : ∃ B, B = splice Z0 0 b := ⟨_, rfl⟩
  obtain ⟨B2, hB2⟩ : ∃ B, B = B1.set b.length 1 := ⟨_, rfl⟩
  have EB2 : B2 = b ++ [1] ++ List.replicate (23 - b.length) 0 := by rw [hB2, hB1, hZ0]; exact read_list b hl
  have L2 : Kept (B2.length = 24) := ⟨by rw [EB2]; simp; omega⟩
  have Y2 : Kept (Bytes B2) := ⟨by rw [EB2]; exact (hy.append (bytes_of_all (by decide))).append (bytes_zero _)⟩
  have V2 : val B2 = val (b ++ [1]) := by rw [EB2, val_append, val_zeros, Nat.mul_zero, Nat.add_zero]
  obtain ⟨x0, hx0⟩ : ∃ x, x = val ((B2.drop 0).take 8) := ⟨_, rfl⟩
  obtain ⟨x1, hx1⟩ : ∃ x, x = val ((B2.drop 8).take 8) := ⟨_, rfl⟩
  obtain ⟨x2, hx2⟩ : ∃ x, x = val ((B2.drop 16).take 8) := ⟨_, rfl⟩
  have e : nw (val (b ++ [1])) = [x0, x1, x2] := by unfold nw; rw [← V2, wd_val _ Y2.out.all, wd_val _ Y2.out.all, wd_val _ Y2.out.all, hx0, hx1, hx2]
  rw [e]
  obtain ⟨n, hn⟩ : ∃ n, n = b.length := ⟨_, rfl⟩
  rw [← hn] at hv hl hB2 ⊢
  have KV : Kept _ := ⟨hv⟩
  have KN : Kept _ := ⟨hn⟩
  have LZ0 : Kept (Z0.length = 24) := ⟨by rw [hZ0]; rfl⟩
  have L1 : Kept (B1.length = 24) := ⟨by rw [hB1, splice_len (by rw [LZ0.out, ← hn]; omega)]; exact LZ0.out⟩
  have HB1 : Kept ((splice (ints .u8 Z0).toList 0 (ints .u8 (b.take n)).toList).toArray = ints .u8 B1) := ⟨by rw [splice_ints, List.take_of_length_le (by omega), ← hB1]⟩
  have HB2 : Kept (B1.set n 1 = B2) := ⟨hB2.symm⟩
  obtain ⟨ZZ, hZZ⟩ : ∃ ZZ : Array Value, ZZ = #[.int .u64 0, .int .u64 0, .int .u64 0] := ⟨_, rfl⟩
  have LZ : Kept (ZZ.size = 3) := ⟨by rw [hZZ]; rfl⟩
  have A0 : Blk ((w.alloc (.cells #[.int .u64 0, .int .u64 0, .int .u64 0] 144)).alloc (.cells #[.int .u8 0, .int .u8 0, .int .u8 0, .int .u8 0, .int .u8 0, .int .u8 0, .int .u8 0, .int .u8 0, .int .u8 0, .int .u8 0, .int .u8 0, .int .u8 0, .int .u8 0, .int .u8 0, .int .u8 0, .int .u8 0, .int .u8 0, .int .u8 0, .int .u8 0, .int .u8 0, .int .u8 0, .int .u8 0, .int .u8 0, .int .u8 0] 191)) w.heap.size 144 ZZ := by rw [hZZ]; exact (blk_new w _ _).alloc _
  have A1 : Blk ((w.alloc (.cells #[.int .u64 0, .int .u64 0, .int .u64 0] 144)).alloc (.cells #[.int .u8 0, .int .u8 0, .int .u8 0, .int .u8 0, .int .u8 0, .int .u8 0, .int .u8 0, .int .u8 0, .int .u8 0, .int .u8 0, .int .u8 0, .int .u8 0, .int .u8 0, .int .u8 0, .int .u8 0, .int .u8 0, .int .u8 0, .int .u8 0, .int .u8 0, .int .u8 0, .int .u8 0, .int .u8 0, .int .u8 0, .int .u8 0] 191)) (w.heap.size + 1) 191 (ints .u8 Z0) := by rw [hZ0, ← z24_eq]; exact blk_top _ _ _ _ (by simp)
  have Q0 : Below w.heap.size w ((w.alloc (.cells #[.int .u64 0, .int .u64 0, .int .u64 0] 144)).alloc (.cells #[.int .u8 0, .int .u8 0, .int .u8 0, .int .u8 0, .int .u8 0, .int .u8 0, .int .u8 0, .int .u8 0, .int .u8 0, .int .u8 0, .int .u8 0, .int .u8 0, .int .u8 0, .int .u8 0, .int .u8 0, .int .u8 0, .int .u8 0, .int .u8 0, .int .u8 0, .int .u8 0, .int .u8 0, .int .u8 0, .int .u8 0, .int .u8 0] 191)) := ((Below.refl _ _).alloc (Nat.le_refl _) _).alloc (by simp) _
  have VV : Kept (BytesV (.slice p n c) ((w.alloc (.cells #[.int .u64 0, .int .u64 0, .int .u64 0] 144)).alloc (.cells #[.int .u8 0, .int .u8 0, .int .u8 0, .int .u8 0, .int .u8 0, .int .u8 0, .int .u8 0, .int .u8 0, .int .u8 0, .int .u8 0, .int .u8 0, .int .u8 0, .int .u8 0, .int .u8 0, .int .u8 0, .int .u8 0, .int .u8 0, .int .u8 0, .int .u8 0, .int .u8 0, .int .u8 0, .int .u8 0, .int .u8 0, .int .u8 0] 191)) b) := ⟨hv.under Q0⟩
  have hn24 : n < 24 := by omega
  have hmin : Kept (n = Nat.min n 24) := ⟨(Nat.min_eq_left (by omega)).symm⟩
  clear hZ0 hB1 hB2 hZZ hv e hn V2 EB2
  go_enter Tryz.func90, Tryz.ntmps90
  go_wp2_with (first | ((with_reducible refine wv_val (d := 4) ?hd ?hw (.slice (some ⟨w.heap.size + 1, 0, none⟩) 24 24) ?hr ?_); (case hd => rfl); (case hw => kernel_rfl); (case hr => intro w; exact arr_all_run rfl (by kernel_rfl) Tryz.underlying191 sz_u8 (by decide) w); simp only [Act.put, List.setIfInBounds_toArray, List.set_cons_succ, List.set_cons_zero]) | (refine wl_copyV rfl (.tmp 4) (.tmp 5) 34 34 rfl Tryz.underlying34 (w.heap.size + 1) 0 24 24 rfl p n c rfl _ A1 b VV.out n hmin.out (by rw [ints_size, LZ0.out]; omega) ?_))
  intro w2 B1' P2
  rw [HB1.out] at B1'
  have B0' := P2.blk A0 (by omega)
  have Q2 := Q0.trans (P2.below (by omega))
  clear A0 A1 Q0 P2 HB1 VV hmin
  go_wp2_with (first | ((with_reducible refine wv_val (d := 9) ?hd ?hw (.pointer (some ⟨w.heap.size + 1, n, none⟩)) ?hr ?_); (case hd => rfl); (case hw => kernel_rfl); (case hr => intro w; exact run_idx rfl (by kernel_rfl) (by kernel_rfl) Tryz.underlying191 hn24 sz_u8 w); simp only [Act.put, List.setIfInBounds_toArray, List.set_cons_succ, List.set_cons_zero]) | (refine wl_setElem rfl 5 sz_u8 (.tmp 9) (.const (.int .u8 1)) rfl (w.heap.size + 1) n .u8 ((1 : Nat) : Int) rfl rfl _ B1' (by rw [ints_size, L1.out]; exact hn24) ?_))
  intro w4 D1 P4
  have D1 : Blk w4 (w.heap.size + 1) 191 (ints .u8 B2) := by rw [← HB2.out, ← ints_set]; exact D1
  have D0 := P4.blk B0' (by omega)
  have Q4 := Q2.trans (P4.below (by omega))
  have C0 : Kept (∀ w', Below w4.heap.size w4 w' → Calls Tryz.prog 122 [.slice (some ⟨w.heap.size + 1, 0, none⟩) 8 24].toArray w' fun e w2 => e = .returned (.int .u64 (x0 : Int)) ∧ Below w'.heap.size w' w2) := ⟨fun w' hb => wordD (w.heap.size + 1) 0 24 _ B2 w' (D1.under hb) Y2.out (by rw [L2.out]; decide) x0 hx0⟩
  have C1 : Kept (∀ w', Below w4.heap.size w4 w' → Calls Tryz.prog 122 [.slice (some ⟨w.heap.size + 1, 8, none⟩) 8 16].toArray w' fun e w2 => e = .returned (.int .u64 (x1 : Int)) ∧ Below w'.heap.size w' w2) := ⟨fun w' hb => wordD (w.heap.size + 1) 8 16 _ B2 w' (D1.under hb) Y2.out (by rw [L2.out]; decide) x1 hx1⟩
  have C2 : Kept (∀ w', Below w4.heap.size w4 w' → Calls Tryz.prog 122 [.slice (some ⟨w.heap.size + 1, 16, none⟩) 8 8].toArray w' fun e w2 => e = .returned (.int .u64 (x2 : Int)) ∧ Below w'.heap.size w' w2) := ⟨fun w' hb => wordD (w.heap.size + 1) 16 8 _ B2 w' (D1.under hb) Y2.out (by rw [L2.out]; decide) x2 hx2⟩
  clear B0' B1' Q2 P4 HB2 hx0 hx1 hx2
  go_wp2_with fail
  refine region_ownL w4 7 [(10, .slice (some ⟨w.heap.size + 1, 0, none⟩) 8 24), (11, .int .u64 (x0 : Int)), (12, .slice (some ⟨w.heap.size + 1, 8, none⟩) 8 16), (13, .int .u64 (x1 : Int)), (14, .slice (some ⟨w.heap.size + 1, 16, none⟩) 8 8), (15, .int .u64 (x2 : Int)), (16, .agg (ints .u64 [x0, x1, x2]))] [] [] [] rfl (by kernel_rfl) (by kernel_rfl) (by kernel_rfl) (by kernel_rfl) (by kernel_rfl) (by kernel_rfl) (by kernel_rfl) (by kernel_rfl) (by kernel_rfl) (by kernel_rfl) (by kernel_rfl) ?hst1 ?hst2 (Below.refl _ _) (fun hA => ⟨ow_val hA (wants_none rfl) 10 (.slice (some ⟨w.heap.size + 1, 0, none⟩) 8 24) (by kernel_rfl) rfl rfl rfl rfl (by kernel_rfl) (fun w => arr_ft_run 0 8 rfl (by kernel_rfl) Tryz.underlying191 sz_u8 (by decide) (by decide) (by decide) w), ow_calld hA (wants_none rfl) 11 (.int .u64 (x0 : Int)) (by kernel_rfl) rfl rfl rfl rfl (by kernel_rfl) 122 Tryz.f122 _ [.tmp 10] _ [.slice (some ⟨w.heap.size + 1, 0, none⟩) 8 24] rfl (by kernel_rfl) Tryz.func122 (by kernel_rfl) rfl (C0.out), ow_val hA (wants_none rfl) 12 (.slice (some ⟨w.heap.size + 1, 8, none⟩) 8 16) (by kernel_rfl) rfl rfl rfl rfl (by kernel_rfl) (fun w => arr_ft_run 8 16 rfl (by kernel_rfl) Tryz.underlying191 sz_u8 (by decide) (by decide) (by decide) w), ow_calld hA (wants_none rfl) 13 (.int .u64 (x1 : Int)) (by kernel_rfl) rfl rfl rfl rfl (by kernel_rfl) 122 Tryz.f122 _ [.tmp 12] _ [.slice (some ⟨w.heap.size + 1, 8, none⟩) 8 16] rfl (by kernel_rfl) Tryz.func122 (by kernel_rfl) rfl (C1.out), ow_val hA (wants_none rfl) 14 (.slice (some ⟨w.heap.size + 1, 16, none⟩) 8 8) (by kernel_rfl) rfl rfl rfl rfl (by kernel_rfl) (fun w => arr_ft_run 16 24 rfl (by kernel_rfl) Tryz.underlying191 sz_u8 (by decide) (by decide) (by decide) w), ow_calld hA (wants_none rfl) 15 (.int .u64 (x2 : Int)) (by kernel_rfl) rfl rfl rfl rfl (by kernel_rfl) 122 Tryz.f122 _ [.tmp 14] _ [.slice (some ⟨w.heap.size + 1, 16, none⟩) 8 8] rfl (by kernel_rfl) Tryz.func122 (by kernel_rfl) rfl (C2.out), ow_val hA (wants_none rfl) 16 (.agg (ints .u64 [x0, x1, x2])) (by kernel_rfl) rfl rfl rfl rfl (by kernel_rfl) (fun w => run_build3 rfl (by kernel_rfl) (by kernel_rfl) (by kernel_rfl) w), trivial⟩) ?_
  case hst1 => intro q hq; cases hq
  case hst2 => intro q hq; cases hq
  intro fv w6 hf hD hb6
  simp only [putR, List.foldl_cons, List.foldl_nil, List.map_cons, List.map_nil, Act.put, List.setIfInBounds_toArray, List.set_cons_succ, List.set_cons_zero]
  refine wl_store rfl 144 (.tmp 2) (.tmp 16) rfl w.heap.size (ints .u64 [x0, x1, x2]) (by kernel_rfl) (by kernel_rfl) _ (D0.under hb6) (by rw [ints_size]; exact nt_info) (by rw [ints_size, LZ.out]; rfl) (ints_one _ _) ?_
  intro w7 A7 P7
  go_wp2
  exact bodyPost_ret (v := .agg (ints .u64 [x0, x1, x2])) (results_cell_row Tryz.results90 _ _ _ 144 (ints .u64 [x0, x1, x2]) (0, 0) _ rfl A7 Tryz.underlying144 rfl (by rw [ints_size]; exact nt_info)) rfl ⟨rfl, (Q4.trans (hb6.mono Q4.size)).trans (P7.below (Nat.le_refl _))⟩
end Go.Proofs.YtjkdonjcngmjeaaGreatDoor.sh
/-
  The tag of bytes, by the program.
-/
namespace Go.Proofs.YtjkdonjcngmjeaaGreatDoor.sh
open Go Go.RowKit
set_option linter.unusedVariables false
set_option linter.unusedSimpArgs false

theorem cut_fr {o : Oper} {a : Act} {x y : Operand} {p pf : Option Addr} {l c k mm cc : Nat} {t e : TypeId} (ho : o.op = .slice t x (some y) none none) (hx : a.eval x = .slice p l c) (hy : a.eval y = .int .i64 (k : Int)) (ht : Tryz.prog.underlying t = some (.slice e)) (sz : ∀ w, (sizeOf e).run Tryz.prog w = .ok 1 w) (hk : k ≤ l) (hpf : pf = if c = k then p else p.map (·.add k)) (hmm : mm = l - k) (hcc : cc = c - k) (w : World) :
    (execOp a.eval o).run Tryz.prog w = .ok (.value (.slice pf mm cc)) w := by
  rw [hpf, hmm, hcc]
  exact cut_run ho hx hy ht sz hk w
theorem z3_eq : (#[.int .u64 0, .int .u64 0, .int .u64 0] : Array Value) = ints .u64 (nw 0) := by kernel_rfl
set_option maxRecDepth 100000 in
set_option maxHeartbeats 2000000 in
theorem SumD (key b : List Nat) (v : Value) (w : World) (hk : key.length = 32) (hy : Bytes key) (hyb : Bytes b) (hv : BytesV v w b) :
    Calls Tryz.prog 62 #[.agg (ints .u8 key), v] w fun e w' => e = .returned (.agg (ints .u8 (tagL key b))) ∧ Below w.heap.size w w' := by
  have LK : Kept _ := ⟨hk⟩
  have KYB : Kept _ := ⟨hyb⟩
  have CF : Kept (∀ w', Calls Tryz.prog 88 #[.agg (ints .u8 key)] w' fun e w2 => e = .returned (.agg (ints .u64 (nw2 (rN key)))) ∧ Below w'.heap.size w' w2) := ⟨fun w' => factorD key w' hk hy⟩
  obtain ⟨r, hr⟩ : ∃ r, r = rN key := ⟨_, rfl⟩
  have BR : Kept (r < 21267647932558653966460912964485513216) := ⟨by rw [hr]; exact rN_lt key hk hy⟩
  have BR0 : Kept (wd r 0 < 1152921504606846976) := ⟨by rw [hr]; exact rN_low key hk hy⟩
  obtain ⟨KK, hKK⟩ : ∃ n, n = (b.length + 15) / 16 := ⟨_, rfl⟩
  obtain ⟨L, hL⟩ : ∃ L, L = tagL key b := ⟨_, rfl⟩
  have EL : Kept (L = digs (polyT r b KK % 1361129467683753853853498429727072845819 + sN key) 16) := ⟨by rw [hL, hr, hKK]; rfl⟩
  have LL : Kept (L.length = 16) := ⟨by rw [hL]; exact tagL_len _ _⟩
  have HS : Kept (sN key < 340282366920938463463374607431768211456) := ⟨sN_lt key hk hy⟩
  have CAd : Kept (∀ w', Calls Tryz.prog 93 #[.agg (ints .u8 key)] w' fun e w2 => e = .returned (.agg (ints .u64 (nw (sN key)))) ∧ Below w'.heap.size w' w2) := ⟨fun w' => addendD key w' hk hy⟩
  obtain ⟨p0, c0, rfl, hc0, _⟩ := id hv
  have KV : Kept _ := ⟨hv⟩
  rw [← hL]
  rw [← hr] at CF
  obtain ⟨R2, hR2⟩ : ∃ l, l = nw2 r := ⟨_, rfl⟩
  rw [← hR2] at CF
  have LR2 : Kept (R2.length = 2) := ⟨by rw [hR2]; rfl⟩
  have ER2 : Kept _ := ⟨hR2⟩
  obtain ⟨n, hn⟩ : ∃ n, n = b.length := ⟨_, rfl⟩
  rw [← hn] at KV hKK ⊢
  have EN : Kept _ := ⟨hn⟩
  have EK : Kept _ := ⟨hKK⟩
  obtain ⟨Z0, hZ0⟩ : ∃ Z, Z = List.replicate 16 0 := ⟨_, rfl⟩
  have LZ : Kept (Z0.length = 16) := ⟨by rw [hZ0]; rfl⟩
  have A0 : Blk ((w.alloc (.cells (ints .u8 key) 30)).alloc (.cells #[.int .u8 0, .int .u8 0, .int .u8 0, .int .u8 0, .int .u8 0, .int .u8 0, .int .u8 0, .int .u8 0, .int .u8 0, .int .u8 0, .int .u8 0, .int .u8 0, .int .u8 0, .int .u8 0, .int .u8 0, .int .u8 0] 83)) w.heap.size 30 (ints .u8 key) := (blk_new w _ _).alloc _
  have A1 : Blk ((w.alloc (.cells (ints .u8 key) 30)).alloc (.cells #[.int .u8 0, .int .u8 0, .int .u8 0, .int .u8 0, .int .u8 0, .int .u8 0, .int .u8 0, .int .u8 0, .int .u8 0, .int .u8 0, .int .u8 0, .int .u8 0, .int .u8 0, .int .u8 0, .int .u8 0, .int .u8 0] 83)) (w.heap.size + 1) 83 (ints .u8 Z0) := by rw [hZ0, ← z16b_eq]; exact blk_top _ _ _ _ (by simp)
  have Q0 : Below w.heap.size w ((w.alloc (.cells (ints .u8 key) 30)).alloc (.cells #[.int .u8 0, .int .u8 0, .int .u8 0, .int .u8 0, .int .u8 0, .int .u8 0, .int .u8 0, .int .u8 0, .int .u8 0, .int .u8 0, .int .u8 0, .int .u8 0, .int .u8 0, .int .u8 0, .int .u8 0, .int .u8 0] 83)) := ((Below.refl _ _).alloc (Nat.le_refl _) _).alloc (by simp) _
  clear hk hy hyb hr hKK hL hv hR2 hn hZ0 hc0
  go_enter Tryz.func62, Tryz.ntmps62
  go_wp2_with (first | ((with_reducible refine wv_row (d := 8) ?hd ?hw 30 (.tmp 2) ?ho (w.heap.size) ?hx (t' := 30) (ints .u8 key) _ _ Tryz.underlying30 ?hs ?hg ?_); (case hd => rfl); (case hw => kernel_rfl); (case ho => rfl); (case hx => kernel_rfl); (case hs => rw [ints_size, LK.out]; exact t32_info); (case hg => exact A0); simp only [Act.put, List.setIfInBounds_toArray, List.set_cons_succ, List.set_cons_zero]))
  refine (CF.out _).mono ?_
  rintro e w1 ⟨rfl, hb1⟩
  have B0 := A0.under hb1
  have B1 := A1.under hb1
  have Q1 := Q0.trans (hb1.mono Q0.size)
  have hl1 : w.heap.size + 1 < w1.heap.size := B1.lt
  clear A0 A1 Q0 hb1 CF
  go_wp2_with (first | (refine wl_store rfl 141 (.tmp 5) (.tmp 9) rfl w1.heap.size (ints .u64 R2) rfl rfl _ (blk_new w1 _ _) (by rw [ints_size, LR2.out]; exact a2_info) (by rw [ints_size, LR2.out]; rfl) (ints_one _ _) ?_))
  intro w2 A5 P2
  have C0 := P2.blk (B0.alloc _) (by omega)
  have C1 := P2.blk (B1.alloc _) (by omega)
  have Q2 := (Q1.alloc Q1.size _).trans (P2.below (by omega))
  generalize hg5 : w1.heap.size = g5 at *
  have hl2 : g5 < w2.heap.size := A5.lt
  clear B0 B1 Q1 P2 hg5
  go_wp2_with fail
  have D6 : Blk (w2.alloc (.cells #[.int .u64 0, .int .u64 0, .int .u64 0] 144)) w2.heap.size 144 (ints .u64 (nw (polyT r b 0))) := by rw [show polyT r b 0 = 0 from rfl, ← z3_eq]; exact blk_new w2 _ _
  have D0 := C0.alloc (.cells #[.int .u64 0, .int .u64 0, .int .u64 0] 144)
  have D1 := C1.alloc (.cells #[.int .u64 0, .int .u64 0, .int .u64 0] 144)
  have D5 := A5.alloc (.cells #[.int .u64 0, .int .u64 0, .int .u64 0] 144)
  have Q3 := Q2.alloc Q2.size (.cells #[.int .u64 0, .int .u64 0, .int .u64 0] 144)
  generalize hW : w2.alloc (.cells #[.int .u64 0, .int .u64 0, .int .u64 0] 144) = wa at *
  generalize hg6 : w2.heap.size = g6 at *
  clear C0 C1 A5 Q2 hW hg6
  go_loopg [1] KK (fun gk s1 wr => ∃ (k m : Nat) (p : Option Addr) (c : Nat), k + gk = KK ∧ s1 = .slice p m c ∧ Kept (m = n - 16 * k) ∧ Kept (BytesV (.slice p m c) w (b.drop (16 * k))) ∧ Below w.heap.size w wr ∧ Blk wr w.heap.size 30 (ints .u8 key) ∧ Blk wr (w.heap.size + 1) 83 (ints .u8 Z0) ∧ Blk wr g5 141 (ints .u64 R2) ∧ Blk wr g6 144 (ints .u64 (nw (polyT r b k))))
  case atStart => exact ⟨0, n, p0, c0, by omega, rfl, ⟨by omega⟩, ⟨KV.out⟩, Q3, D0, D1, D5, D6⟩
  case round =>
    obtain ⟨k, m, p, c, hik, rfl, Em, KB, HB, A0, A1, A5, A6⟩ := hrel
    clear Q3 D0 D1 D5 D6
    obtain ⟨PN, hPN⟩ : ∃ l, l = nw (polyT r b k) := ⟨_, rfl⟩
    have LPN : Kept (PN.length = 3) := ⟨by rw [hPN]; rfl⟩
    rw [← hPN] at A6
    have PB := polyT_lt r b BR.out KYB.out k
    by_cases hm : 0 < m
    case pos =>
      have hmi : (0 : Int) < (m : Int) := by omega
      obtain ⟨z, hz⟩ : ∃ z, z = min m 16 := ⟨_, rfl⟩
      obtain ⟨pc, hpc⟩ : ∃ l, l = (b.drop (16 * k)).take z := ⟨_, rfl⟩
      have hzm : z ≤ m := by omega
      have hlm : (b.drop (16 * k)).length = m := by rw [List.length_drop, ← EN.out, Em.out]
      have lpc : pc.length = z := by rw [hpc, List.length_take, hlm]; omega
      have hmc : m ≤ c := by obtain ⟨_, _, e1, h2, _⟩ := KB.out; rw [hlm] at e1 h2; cases e1; exact h2
      have zc : z ≤ c := by omega
      have VP : BytesV (.slice p z c) w pc := by
        rw [hpc]
        exact (bytesV_ints KB.out).take (by rw [hlm]; exact hzm)
      have YP : Bytes pc := by rw [hpc]; exact (KYB.out.drop _).take _
      have epc : pc = (b.drop (16 * k)).take 16 := by
        rw [hpc]
        by_cases h16 : m ≤ 16
        · rw [List.take_of_length_le (by rw [hlm]; omega), List.take_of_length_le (by rw [hlm]; omega)]
        · rw [show z = 16 by omega]
      obtain ⟨RD, hRD⟩ : ∃ l, l = nw (val (pc ++ [1])) := ⟨_, rfl⟩
      obtain ⟨SU, hSU⟩ : ∃ l, l = nw (polyT r b k + val (pc ++ [1])) := ⟨_, rfl⟩
      obtain ⟨TN, hTN⟩ : ∃ l, l = nw (polyT r b (k + 1)) := ⟨_, rfl⟩
      have LTN : Kept (TN.length = 3) := ⟨by rw [hTN]; rfl⟩
      have PL := piece_lt pc YP (by omega)
      have CR : Kept (∀ w', Below wr.heap.size wr w' → Calls Tryz.prog 90 [.slice p z c].toArray w' fun e w2 => e = .returned (.agg (ints .u64 RD)) ∧ Below w'.heap.size w' w2) := ⟨fun w' hb => by
        rw [hRD]
        have := readD pc p c w' (by omega) YP (by rw [lpc]; exact VP.under (HB.trans (hb.mono HB.size)))
        rw [lpc] at this
        exact this⟩
      have CP : Kept (∀ w', Below wr.heap.size wr w' → Calls Tryz.prog 89 [.agg (ints .u64 PN), .agg (ints .u64 RD)].toArray w' fun e w2 => e = .returned (.agg (ints .u64 SU)) ∧ Below w'.heap.size w' w2) := ⟨fun w' hb => by rw [hPN, hRD, hSU]; exact plusD _ _ w' (by omega)⟩
      have CT : Kept (∀ w', Below wr.heap.size wr w' → Calls Tryz.prog 91 [.agg (ints .u64 SU), .agg (ints .u64 R2)].toArray w' fun e w2 => e = .returned (.agg (ints .u64 TN)) ∧ Below w'.heap.size w' w2) := ⟨fun w' hb => by
        rw [hSU, hTN, ER2.out]
        show Calls _ _ _ _ fun e w2 => e = .returned (.agg (ints .u64 (nw (timesN (polyT r b k + val ((b.drop (16 * k)).take 16 ++ [1])) r)))) ∧ _
        rw [← epc]
        exact timesD _ r w' (by omega) BR.out BR0.out⟩
      have VD : Kept (BytesV (.slice (if c = z then p else p.map (·.add z)) (m - z) (c - z)) w (b.drop (16 * (k + 1)))) := ⟨by
        have h1 := KB.out
        rw [← hlm] at h1
        have h2 := h1.cut (k := z) (by rw [hlm]; exact hzm)
        rw [hlm, List.drop_drop] at h2
        have e : b.drop (16 * k + z) = b.drop (16 * (k + 1)) := by
          by_cases h16 : m ≤ 16
          · have h3 := Em.out; have h4 := EN.out
            rw [List.drop_of_length_le (by omega), List.drop_of_length_le (by omega)]
          · rw [show z = 16 by omega, Nat.mul_add]
        rw [e] at h2
        exact h2⟩
      obtain ⟨pf, hpf⟩ : ∃ q, q = if c = z then p else p.map (·.add z) := ⟨_, rfl⟩
      obtain ⟨mz, hmz⟩ : ∃ q, q = m - z := ⟨_, rfl⟩
      obtain ⟨cz, hcz⟩ : ∃ q, q = c - z := ⟨_, rfl⟩
      rw [← hpf, ← hmz, ← hcz] at VD
      have Em2 : Kept (mz = n - 16 * (k + 1)) := ⟨by have := Em.out; omega⟩
      have Hpf : Kept _ := ⟨hpf⟩
      have Hmz : Kept _ := ⟨hmz⟩
      have Hcz : Kept _ := ⟨hcz⟩
      clear hpf hmz hcz
      have hgk : gk ≠ 0 := by have h1 := Em.out; have h2 := EK.out; omega
      have Hz : Kept _ := ⟨hz⟩
      have zm : Kept (z ≤ m) := ⟨hzm⟩
      have ETN : Kept _ := ⟨hTN⟩
      clear hz hpc hlm lpc hmc VP YP epc hRD hSU hTN PL PB hPN hzm KB
      go_wp2_with (first | ((with_reducible refine wv_val (d := 15) ?hd ?hw (.int .i64 (z : Int)) ?hr ?_); (case hd => rfl); (case hw => kernel_rfl); (case hr => intro w; exact run_min2 (n := 16) rfl (by kernel_rfl) (by kernel_rfl) Hz.out w); simp only [Act.put, List.setIfInBounds_toArray, List.set_cons_succ, List.set_cons_zero]))
      refine region_ownL wr 8 [(16, .agg (ints .u64 PN)), (17, .slice p m c), (18, .int .i64 (z : Int)), (19, .slice p z c), (20, .agg (ints .u64 RD)), (21, .agg (ints .u64 SU)), (22, .agg (ints .u64 R2)), (23, .agg (ints .u64 TN))] [] [] [] rfl (by kernel_rfl) (by kernel_rfl) (by kernel_rfl) (by kernel_rfl) (by kernel_rfl) (by kernel_rfl) (by kernel_rfl) (by kernel_rfl) (by kernel_rfl) (by kernel_rfl) (by kernel_rfl) ?hst1 ?hst2 (Below.refl _ _) (fun hA => ⟨ow_row hA (wants_none rfl) 16 (.agg (ints .u64 PN)) (by kernel_rfl) rfl rfl rfl rfl (by kernel_rfl) 144 (.tmp 6) rfl (g6) (by kernel_rfl) 144 (ints .u64 PN) 3 22 Tryz.underlying144 ((by rw [ints_size, LPN.out]; exact nt_info)) (fun w1 hb => A6.under hb) rfl, ow_val hA (wants_none rfl) 17 (.slice p m c) (by kernel_rfl) rfl rfl rfl rfl (by kernel_rfl) (fun w => by kernel_rfl), ow_val hA (wants_none rfl) 18 (.int .i64 (z : Int)) (by kernel_rfl) rfl rfl rfl rfl (by kernel_rfl) (fun w => by kernel_rfl), ow_val hA (wants_none rfl) 19 (.slice p z c) (by kernel_rfl) rfl rfl rfl rfl (by kernel_rfl) (fun w => cutTo_run (l := m) rfl (by kernel_rfl) (by kernel_rfl) Tryz.underlying34 sz_u8 zc w), ow_calld hA (wants_none rfl) 20 (.agg (ints .u64 RD)) (by kernel_rfl) rfl rfl rfl rfl (by kernel_rfl) 90 Tryz.f90 _ [.tmp 19] _ [.slice p z c] rfl (by kernel_rfl) Tryz.func90 (by kernel_rfl) rfl (CR.out), ow_calld hA (wants_none rfl) 21 (.agg (ints .u64 SU)) (by kernel_rfl) rfl rfl rfl rfl (by kernel_rfl) 89 Tryz.f89 _ [.tmp 16, .tmp 20] _ [.agg (ints .u64 PN), .agg (ints .u64 RD)] rfl (by kernel_rfl) Tryz.func89 (by kernel_rfl) rfl (CP.out), ow_row hA (wants_none rfl) 22 (.agg (ints .u64 R2)) (by kernel_rfl) rfl rfl rfl rfl (by kernel_rfl) 141 (.tmp 5) rfl (g5) (by kernel_rfl) 141 (ints .u64 R2) 2 22 Tryz.underlying141 ((by rw [ints_size, LR2.out]; exact a2_info)) (fun w1 hb => A5.under hb) rfl, ow_calld hA (wants_none rfl) 23 (.agg (ints .u64 TN)) (by kernel_rfl) rfl rfl rfl rfl (by kernel_rfl) 91 Tryz.f91 _ [.tmp 21, .tmp 22] _ [.agg (ints .u64 SU), .agg (ints .u64 R2)] rfl (by kernel_rfl) Tryz.func91 (by kernel_rfl) rfl (CT.out), trivial⟩) ?_
      case hst1 => intro q hq; cases hq
      case hst2 => intro q hq; cases hq
      intro fv wt hf hD hwt
      simp only [putR, List.foldl_cons, List.foldl_nil, List.map_cons, List.map_nil, Act.put, List.setIfInBounds_toArray, List.set_cons_succ, List.set_cons_zero]
      have B0 := A0.under hwt
      have B1 := A1.under hwt
      have B5 := A5.under hwt
      have B6 := A6.under hwt
      have HB2 := HB.trans (hwt.mono HB.size)
      clear hf hD CR CP CT A0 A1 A5 A6 HB hwt
      refine wl_store rfl 144 (.tmp 6) (.tmp 23) rfl g6 (ints .u64 TN) (by kernel_rfl) (by kernel_rfl) _ B6 (by rw [ints_size, LTN.out]; exact nt_info) (by rw [ints_size, ints_size, LTN.out, LPN.out]) (ints_one _ _) ?_
      intro w4 E6 P4
      rw [ETN.out] at E6
      have E0 := P4.blk B0 (by omega)
      have E1 := P4.blk B1 (by omega)
      have E5 := P4.blk B5 (by omega)
      have HB4 := HB2.trans (P4.below (by omega))
      clear B0 B1 B5 B6 HB2 P4 ETN
      go_wp2_with (first | ((with_reducible refine wv_val (d := 26) ?hd ?hw (.slice pf mz cz) ?hr ?_); (case hd => rfl); (case hw => kernel_rfl); (case hr => intro w; exact cut_fr rfl (by kernel_rfl) (by kernel_rfl) Tryz.underlying34 sz_u8 zm.out Hpf.out Hmz.out Hcz.out w); simp only [Act.put, List.setIfInBounds_toArray, List.set_cons_succ, List.set_cons_zero]))
      go_roundg (gk - 1)
      case measure => omega
      case rel => exact ⟨k + 1, _, _, _, by omega, rfl, Em2, VD, HB4, E0, E1, E5, E6⟩
    case neg =>
      have hmi : ¬ (0 : Int) < (m : Int) := by omega
      have hkK : k = KK := by have h1 := Em.out; have h2 := EK.out; omega
      subst hkK
      obtain ⟨RE, hRE⟩ : ∃ l, l = nw (polyT r b k % 1361129467683753853853498429727072845819) := ⟨_, rfl⟩
      obtain ⟨AD, hAD⟩ : ∃ l, l = nw (sN key) := ⟨_, rfl⟩
      obtain ⟨SU, hSU⟩ : ∃ l, l = nw (polyT r b k % 1361129467683753853853498429727072845819 + sN key) := ⟨_, rfl⟩
      have CR : Kept (∀ w', Below wr.heap.size wr w' → Calls Tryz.prog 92 [.agg (ints .u64 PN)].toArray w' fun e w2 => e = .returned (.agg (ints .u64 RE)) ∧ Below w'.heap.size w' w2) := ⟨fun w' hb => by rw [hPN, hRE]; exact reducedD _ w' (by omega)⟩
      have CA : Kept (∀ w', Below wr.heap.size wr w' → Calls Tryz.prog 93 [.agg (ints .u8 key)].toArray w' fun e w2 => e = .returned (.agg (ints .u64 AD)) ∧ Below w'.heap.size w' w2) := ⟨fun w' hb => by rw [hAD]; exact CAd.out w'⟩
      have CP : Kept (∀ w', Below wr.heap.size wr w' → Calls Tryz.prog 89 [.agg (ints .u64 RE), .agg (ints .u64 AD)].toArray w' fun e w2 => e = .returned (.agg (ints .u64 SU)) ∧ Below w'.heap.size w' w2) := ⟨fun w' hb => by
        rw [hRE, hAD, hSU]
        have := HS.out
        exact plusD _ _ w' (by omega)⟩
      have CB : Kept (∀ w', Below wr.heap.size wr w' → Calls Tryz.prog 94 [.agg (ints .u64 SU)].toArray w' fun e w2 => e = .returned (.agg (ints .u8 L)) ∧ Below w'.heap.size w' w2) := ⟨fun w' hb => by rw [hSU, EL.out]; exact bytesD _ w'⟩
      clear hRE hAD hSU hPN PB EL CAd HS KB Em
      go_wp2_with fail
      refine region_ownL wr 6 [(27, .agg (ints .u64 PN)), (28, .agg (ints .u64 RE)), (29, .agg (ints .u8 key)), (30, .agg (ints .u64 AD)), (31, .agg (ints .u64 SU)), (32, .agg (ints .u8 L))] [] [] [] rfl (by kernel_rfl) (by kernel_rfl) (by kernel_rfl) (by kernel_rfl) (by kernel_rfl) (by kernel_rfl) (by kernel_rfl) (by kernel_rfl) (by kernel_rfl) (by kernel_rfl) (by kernel_rfl) ?hst1 ?hst2 (Below.refl _ _) (fun hA => ⟨ow_row hA (wants_none rfl) 27 (.agg (ints .u64 PN)) (by kernel_rfl) rfl rfl rfl rfl (by kernel_rfl) 144 (.tmp 6) rfl (g6) (by kernel_rfl) 144 (ints .u64 PN) 3 22 Tryz.underlying144 ((by rw [ints_size, LPN.out]; exact nt_info)) (fun w1 hb => A6.under hb) rfl, ow_calld hA (wants_none rfl) 28 (.agg (ints .u64 RE)) (by kernel_rfl) rfl rfl rfl rfl (by kernel_rfl) 92 Tryz.f92 _ [.tmp 27] _ [.agg (ints .u64 PN)] rfl (by kernel_rfl) Tryz.func92 (by kernel_rfl) rfl (CR.out), ow_row hA (wants_none rfl) 29 (.agg (ints .u8 key)) (by kernel_rfl) rfl rfl rfl rfl (by kernel_rfl) 30 (.tmp 2) rfl (w.heap.size) (by kernel_rfl) 30 (ints .u8 key) 32 5 Tryz.underlying30 ((by rw [ints_size, LK.out]; exact t32_info)) (fun w1 hb => A0.under hb) rfl, ow_calld hA (wants_none rfl) 30 (.agg (ints .u64 AD)) (by kernel_rfl) rfl rfl rfl rfl (by kernel_rfl) 93 Tryz.f93 _ [.tmp 29] _ [.agg (ints .u8 key)] rfl (by kernel_rfl) Tryz.func93 (by kernel_rfl) rfl (CA.out), ow_calld hA (wants_none rfl) 31 (.agg (ints .u64 SU)) (by kernel_rfl) rfl rfl rfl rfl (by kernel_rfl) 89 Tryz.f89 _ [.tmp 28, .tmp 30] _ [.agg (ints .u64 RE), .agg (ints .u64 AD)] rfl (by kernel_rfl) Tryz.func89 (by kernel_rfl) rfl (CP.out), ow_calld hA (wants_none rfl) 32 (.agg (ints .u8 L)) (by kernel_rfl) rfl rfl rfl rfl (by kernel_rfl) 94 Tryz.f94 _ [.tmp 31] _ [.agg (ints .u64 SU)] rfl (by kernel_rfl) Tryz.func94 (by kernel_rfl) rfl (CB.out), trivial⟩) ?_
      case hst1 => intro q hq; cases hq
      case hst2 => intro q hq; cases hq
      intro fv wt hf hD hwt
      simp only [putR, List.foldl_cons, List.foldl_nil, List.map_cons, List.map_nil, Act.put, List.setIfInBounds_toArray, List.set_cons_succ, List.set_cons_zero]
      refine wl_store rfl 83 (.tmp 4) (.tmp 32) rfl (w.heap.size + 1) (ints .u8 L) (by kernel_rfl) (by kernel_rfl) _ (A1.under hwt) (by rw [ints_size, LL.out]; exact a16_info) (by rw [ints_size, ints_size, LL.out, LZ.out]) (ints_one _ _) ?_
      intro w5 B1 P5
      go_wp2
      exact bodyPost_ret (v := .agg (ints .u8 L)) (results_cell_row Tryz.results62 _ _ _ 83 (ints .u8 L) (0, 0) _ rfl B1 Tryz.underlying83 rfl (by rw [ints_size, LL.out]; exact a16_info)) rfl ⟨rfl, (HB.trans (hwt.mono HB.size)).trans (P5.below (by omega))⟩
end Go.Proofs.YtjkdonjcngmjeaaGreatDoor.sh
