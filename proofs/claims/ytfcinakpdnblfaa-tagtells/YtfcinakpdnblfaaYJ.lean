/-
  TagBlocks and TagOne, walked.
-/
import Derived.Test.YtfcinakpdnblfaaYI
namespace Go.Proofs.Ytfcinakpdnblfaa.sh
open Go Go.RowKit
set_option linter.unusedVariables false
set_option linter.unusedSimpArgs false

theorem eg16 : Try.prog.eqGuardType Try.prog.depth 25 = false := by kernel_rfl
theorem timesN_zero (N : Nat) : timesN N 0 = 0 := by simp [timesN]
theorem polyT_zero (b : List Nat) : ∀ k, polyT 0 b k = 0
  | 0 => rfl
  | k + 1 => timesN_zero _
theorem tag_none (o b : List Nat) (hl : o.length = 16) (hy : Bytes o) : tagL (List.replicate 16 0 ++ o) b = o := by
  have h0 : rN (List.replicate 16 0 ++ o) = 0 := by
    rw [rN_and _ (by simp [hl]) ((bytes_zero 16).append hy), List.take_left' (by simp), val_zeros, Nat.zero_and]
  have h1 : sN (List.replicate 16 0 ++ o) = val o := by
    unfold sN
    rw [List.drop_left' (by simp)]
  unfold tagL
  rw [h0, h1, polyT_zero, Nat.zero_mod, Nat.zero_add, ← hl]
  exact digs_val o hy.all
theorem z32b_eq : (#[.int .u8 0, .int .u8 0, .int .u8 0, .int .u8 0, .int .u8 0, .int .u8 0, .int .u8 0, .int .u8 0, .int .u8 0, .int .u8 0, .int .u8 0, .int .u8 0, .int .u8 0, .int .u8 0, .int .u8 0, .int .u8 0, .int .u8 0, .int .u8 0, .int .u8 0, .int .u8 0, .int .u8 0, .int .u8 0, .int .u8 0, .int .u8 0, .int .u8 0, .int .u8 0, .int .u8 0, .int .u8 0, .int .u8 0, .int .u8 0, .int .u8 0, .int .u8 0] : Array Value) = ints .u8 (List.replicate 32 0) := by kernel_rfl
theorem splice_half (o : List Nat) (hl : o.length = 16) : splice (List.replicate 32 0) 16 o = List.replicate 16 0 ++ o := by
  unfold splice
  rw [List.take_replicate, hl, List.drop_replicate]
  simp

set_option maxRecDepth 100000 in
set_option maxHeartbeats 2000000 in
theorem blocks6 (o : List Nat) (v : Value) (b : List Nat) (w : World) (hl : o.length = 16) (hy : Bytes o) (hv : BytesV v w b) (hyb : Bytes b) (hm : b.length ≤ maxLen) :
    Calls Try.prog 7 #[.agg (ints .u8 o), v] w fun e w' => e = .returned (.bool true) ∧ Below w.heap.size w w' := by
  obtain ⟨KL, hKL⟩ : ∃ l, l = List.replicate 16 0 ++ o := ⟨_, rfl⟩
  have YK : Bytes KL := by rw [hKL]; exact (bytes_zero 16).append hy
  have LKL : Kept (KL.length = 32) := ⟨by rw [hKL]; simp [hl]⟩
  have ET : tagL KL b = o := by rw [hKL]; exact tag_none o b hl hy
  have CSU : Kept (∀ w' v, BytesV v w' b → Calls Try.prog 10 #[.agg (ints .u8 KL), v] w' fun e w2 => e = .returned (.agg (ints .u8 o)) ∧ Below w'.heap.size w' w2) := ⟨fun w' v hv => by
    have := SumD KL b v w' LKL.out YK hyb hv
    rw [ET] at this
    exact this⟩
  have LO : Kept _ := ⟨hl⟩
  obtain ⟨Z0, hZ0⟩ : ∃ Z, Z = List.replicate 32 0 := ⟨_, rfl⟩
  have LZ : Kept (Z0.length = 32) := ⟨by rw [hZ0]; rfl⟩
  have EZ : Kept ((#[.int .u8 0, .int .u8 0, .int .u8 0, .int .u8 0, .int .u8 0, .int .u8 0, .int .u8 0, .int .u8 0, .int .u8 0, .int .u8 0, .int .u8 0, .int .u8 0, .int .u8 0, .int .u8 0, .int .u8 0, .int .u8 0, .int .u8 0, .int .u8 0, .int .u8 0, .int .u8 0, .int .u8 0, .int .u8 0, .int .u8 0, .int .u8 0, .int .u8 0, .int .u8 0, .int .u8 0, .int .u8 0, .int .u8 0, .int .u8 0, .int .u8 0, .int .u8 0] : Array Value) = ints .u8 Z0) := ⟨by rw [hZ0]; exact z32b_eq⟩
  have ES : Kept ((splice (ints .u8 Z0).toList 16 (ints .u8 (o.take 16)).toList).toArray = ints .u8 KL) := ⟨by rw [splice_ints, List.take_of_length_le (by omega), hZ0, splice_half o hl, ← hKL]⟩
  have KV : Kept _ := ⟨hv⟩
  obtain ⟨p, c, rfl, _, _⟩ := hv
  obtain ⟨n, hn⟩ : ∃ n, n = b.length := ⟨_, rfl⟩
  rw [← hn] at KV hm ⊢
  have A0 : Blk (w.alloc (.cells (ints .u8 o) 25)) w.heap.size 25 (ints .u8 o) := blk_new w _ _
  have Q0 : Below w.heap.size w (w.alloc (.cells (ints .u8 o) 25)) := (Below.refl _ _).alloc (Nat.le_refl _) _
  clear hKL YK ET hl hy hyb hZ0 hn
  go_enter Try.func7, Try.ntmps7
  go_wp2_with fail
  refine (alive6 _).mono ?_
  rintro e w1 ⟨rfl, hb1⟩
  have B0 := A0.under hb1
  have Q1 := Q0.trans (hb1.mono Q0.size)
  clear A0 Q0 hb1
  by_cases h1000 : n ≤ 1000
  case neg =>
    have hi : (1000 : Int) < (n : Int) := by omega
    go_wp2_with fail
    go_ret
    exact ⟨rfl, Q1⟩
  case pos =>
    have hi : ¬ (1000 : Int) < (n : Int) := by omega
    have sz1 : w.heap.size < w1.heap.size := B0.lt
    go_wp2_with fail
    have B5 : Blk (w1.alloc (.cells #[.int .u8 0, .int .u8 0, .int .u8 0, .int .u8 0, .int .u8 0, .int .u8 0, .int .u8 0, .int .u8 0, .int .u8 0, .int .u8 0, .int .u8 0, .int .u8 0, .int .u8 0, .int .u8 0, .int .u8 0, .int .u8 0, .int .u8 0, .int .u8 0, .int .u8 0, .int .u8 0, .int .u8 0, .int .u8 0, .int .u8 0, .int .u8 0, .int .u8 0, .int .u8 0, .int .u8 0, .int .u8 0, .int .u8 0, .int .u8 0, .int .u8 0, .int .u8 0] 22)) w1.heap.size 22 (ints .u8 Z0) := by rw [← EZ.out]; exact blk_new w1 _ _
    have B0' := B0.alloc (.cells #[.int .u8 0, .int .u8 0, .int .u8 0, .int .u8 0, .int .u8 0, .int .u8 0, .int .u8 0, .int .u8 0, .int .u8 0, .int .u8 0, .int .u8 0, .int .u8 0, .int .u8 0, .int .u8 0, .int .u8 0, .int .u8 0, .int .u8 0, .int .u8 0, .int .u8 0, .int .u8 0, .int .u8 0, .int .u8 0, .int .u8 0, .int .u8 0, .int .u8 0, .int .u8 0, .int .u8 0, .int .u8 0, .int .u8 0, .int .u8 0, .int .u8 0, .int .u8 0] 22)
    have Q2 := Q1.alloc Q1.size (.cells #[.int .u8 0, .int .u8 0, .int .u8 0, .int .u8 0, .int .u8 0, .int .u8 0, .int .u8 0, .int .u8 0, .int .u8 0, .int .u8 0, .int .u8 0, .int .u8 0, .int .u8 0, .int .u8 0, .int .u8 0, .int .u8 0, .int .u8 0, .int .u8 0, .int .u8 0, .int .u8 0, .int .u8 0, .int .u8 0, .int .u8 0, .int .u8 0, .int .u8 0, .int .u8 0, .int .u8 0, .int .u8 0, .int .u8 0, .int .u8 0, .int .u8 0, .int .u8 0] 22)
    generalize hW : w1.alloc (.cells #[.int .u8 0, .int .u8 0, .int .u8 0, .int .u8 0, .int .u8 0, .int .u8 0, .int .u8 0, .int .u8 0, .int .u8 0, .int .u8 0, .int .u8 0, .int .u8 0, .int .u8 0, .int .u8 0, .int .u8 0, .int .u8 0, .int .u8 0, .int .u8 0, .int .u8 0, .int .u8 0, .int .u8 0, .int .u8 0, .int .u8 0, .int .u8 0, .int .u8 0, .int .u8 0, .int .u8 0, .int .u8 0, .int .u8 0, .int .u8 0, .int .u8 0, .int .u8 0] 22) = w2 at *
    generalize hg5 : w1.heap.size = g5 at *
    clear B0 Q1 hW hg5
    have VO : Kept (BytesV (.slice (some ⟨w.heap.size, 0, none⟩) 16 16) w2 o) := ⟨arr_bytes B0' LO.out⟩
    refine region_ownL w2 2 [(11, .slice (some ⟨g5, 16, none⟩) 16 16), (12, .slice (some ⟨w.heap.size, 0, none⟩) 16 16)] [] [] [] rfl (by kernel_rfl) (by kernel_rfl) (by kernel_rfl) (by kernel_rfl) (by kernel_rfl) (by kernel_rfl) (by kernel_rfl) (by kernel_rfl) (by kernel_rfl) (by kernel_rfl) (by kernel_rfl) ?hst1 ?hst2 (Below.refl _ _) (fun hA => ⟨ow_val hA (wants_none rfl) 11 (.slice (some ⟨g5, 16, none⟩) 16 16) (by kernel_rfl) rfl rfl rfl rfl (by kernel_rfl) (fun w => arr_from_run 16 rfl (by kernel_rfl) Try.underlying22 sz_u8 (by decide) w), ow_val hA (wants_none rfl) 12 (.slice (some ⟨w.heap.size, 0, none⟩) 16 16) (by kernel_rfl) rfl rfl rfl rfl (by kernel_rfl) (fun w => arr_all_run rfl (by kernel_rfl) Try.underlying25 sz_u8 (by decide) w), trivial⟩) ?_
    case hst1 => intro q hq; cases hq
    case hst2 => intro q hq; cases hq
    intro fv w3 hf hD hb3
    simp only [putR, List.foldl_cons, List.foldl_nil, List.map_cons, List.map_nil, Act.put, List.setIfInBounds_toArray, List.set_cons_succ, List.set_cons_zero]
    refine wl_copyV rfl (.tmp 11) (.tmp 12) 23 23 rfl Try.underlying23 g5 16 16 16 (by kernel_rfl) (some ⟨w.heap.size, 0, none⟩) 16 16 (by kernel_rfl) _ (B5.under hb3) o (VO.out.under hb3) 16 rfl (by rw [ints_size, LZ.out]; decide) ?_
    intro w4 C5 P4
    rw [ES.out] at C5
    have C0 := P4.blk (B0'.under hb3) (by omega)
    have Q4 := (Q2.trans (hb3.mono Q2.size)).trans (P4.below (by omega))
    have CS : Kept (∀ w', Below w4.heap.size w4 w' → Calls Try.prog 10 [.agg (ints .u8 KL), .slice p n c].toArray w' fun e w2 => e = .returned (.agg (ints .u8 o)) ∧ Below w'.heap.size w' w2) := ⟨fun w' hb => CSU.out w' _ (KV.out.under (Q4.trans (hb.mono Q4.size)))⟩
    clear hf hD B5 B0' Q2 VO ES hb3 P4 CSU
    go_wp2_with fail
    refine region_ownL w4 5 [(14, .agg (ints .u8 KL)), (15, .slice p n c), (16, .agg (ints .u8 o)), (17, .agg (ints .u8 o)), (18, .bool true)] [] [] [] rfl (by kernel_rfl) (by kernel_rfl) (by kernel_rfl) (by kernel_rfl) (by kernel_rfl) (by kernel_rfl) (by kernel_rfl) (by kernel_rfl) (by kernel_rfl) (by kernel_rfl) (by kernel_rfl) ?hst1 ?hst2 (Below.refl _ _) (fun hA => ⟨ow_row hA (wants_none rfl) 14 (.agg (ints .u8 KL)) (by kernel_rfl) rfl rfl rfl rfl (by kernel_rfl) 22 (.tmp 5) rfl (g5) (by kernel_rfl) 22 (ints .u8 KL) 32 5 Try.underlying22 ((by rw [ints_size, LKL.out]; exact t32_info)) (fun w1 hb => C5.under hb) rfl, ow_val hA (wants_none rfl) 15 (.slice p n c) (by kernel_rfl) rfl rfl rfl rfl (by kernel_rfl) (fun w => by kernel_rfl), ow_calld hA (wants_none rfl) 16 (.agg (ints .u8 o)) (by kernel_rfl) rfl rfl rfl rfl (by kernel_rfl) 10 Try.f10 _ [.tmp 14, .tmp 15] _ [.agg (ints .u8 KL), .slice p n c] rfl (by kernel_rfl) Try.func10 (by kernel_rfl) rfl (CS.out), ow_row hA (wants_none rfl) 17 (.agg (ints .u8 o)) (by kernel_rfl) rfl rfl rfl rfl (by kernel_rfl) 25 (.tmp 2) rfl (w.heap.size) (by kernel_rfl) 25 (ints .u8 o) 16 5 Try.underlying25 ((by rw [ints_size, LO.out]; exact a16_info)) (fun w1 hb => C0.under hb) rfl, ow_val hA (wants_none rfl) 18 (.bool true) (by kernel_rfl) rfl rfl rfl rfl (by kernel_rfl) (fun w => by rw [run_eql_row (o) (o) rfl (by kernel_rfl) (by kernel_rfl) LO.out LO.out Try.underlying25 Try.underlying5 sz_u8 ag_u8 eg16]; rw [decide_eq_true rfl]), trivial⟩) ?_
    case hst1 => intro q hq; cases hq
    case hst2 => intro q hq; cases hq
    intro fv w5 hf hD hb5
    simp only [putR, List.foldl_cons, List.foldl_nil, List.map_cons, List.map_nil, Act.put, List.setIfInBounds_toArray, List.set_cons_succ, List.set_cons_zero]
    go_wp2_with fail
    go_ret
    exact ⟨rfl, Q4.trans (hb5.mono Q4.size)⟩

def oneK : List Nat := 1 :: List.replicate 31 0
theorem timesN_one (N : Nat) (h : N < 1361129467683753853853498429727072845824) : timesN N 1 = N := by
  unfold timesN
  rw [Nat.mul_one]
  omega
theorem oneK_r : rN oneK = 1 := by kernel_rfl
theorem oneK_s : sN oneK = 0 := by kernel_rfl
theorem pad_bytes (b : List Nat) (hy : Bytes b) (n : Nat) : Bytes (b ++ [1] ++ List.replicate n 0) := (hy.append (bytes_of_all (by decide))).append (bytes_zero _)
theorem tag_one (b : List Nat) (hy : Bytes b) (h0 : 0 < b.length) (h15 : b.length ≤ 15) : tagL oneK b = b ++ [1] ++ List.replicate (15 - b.length) 0 := by
  unfold tagL
  rw [oneK_r, oneK_s, show (b.length + 15) / 16 = 1 by omega]
  have hp := piece_lt b hy (by omega)
  have e : polyT 1 b 1 = val (b ++ [1]) := by
    show timesN (0 + val ((b.drop 0).take 16 ++ [1])) 1 = _
    rw [List.drop_zero, List.take_of_length_le (by omega), Nat.zero_add, timesN_one _ (by omega)]
  have hd := digs_val _ (pad_bytes b hy (15 - b.length)).all
  have h16 : (b ++ [1] ++ List.replicate (15 - b.length) 0).length = 16 := by simp; omega
  rw [h16, val_append, val_zeros, Nat.mul_zero, Nat.add_zero] at hd
  rw [e, Nat.mod_eq_of_lt (by omega), Nat.add_zero]
  exact hd
theorem tag_one0 : tagL oneK [] = List.replicate 16 0 := by kernel_rfl
theorem splice_front (b : List Nat) (h : b.length ≤ 15) : splice (List.replicate 16 0) 0 b = b ++ List.replicate (16 - b.length) 0 := by
  unfold splice
  rw [List.take_zero, List.nil_append, Nat.zero_add, List.drop_replicate]
theorem set_front (b : List Nat) (h : b.length ≤ 15) : (b ++ List.replicate (16 - b.length) 0).set b.length 1 = b ++ [1] ++ List.replicate (15 - b.length) 0 := by
  rw [List.set_append_right _ _ (Nat.le_refl _), Nat.sub_self, show 16 - b.length = (15 - b.length) + 1 by omega, List.replicate_succ, List.set_cons_zero, List.append_assoc]
  rfl

set_option maxRecDepth 100000 in
set_option maxHeartbeats 2000000 in
theorem one6 (v : Value) (b : List Nat) (w : World) (hv : BytesV v w b) (hyb : Bytes b) (hm : b.length ≤ maxLen) :
    Calls Try.prog 8 #[v] w fun e w' => e = .returned (.bool true) ∧ Below w.heap.size w w' := by
  obtain ⟨KL, hKL⟩ : ∃ l, l = oneK := ⟨_, rfl⟩
  have YK : Bytes KL := by rw [hKL]; exact bytes_of_all (by decide)
  have LKL : Kept (KL.length = 32) := ⟨by rw [hKL]; rfl⟩
  have CSU : Kept (∀ w' v, BytesV v w' b → Calls Try.prog 10 #[.agg (ints .u8 KL), v] w' fun e w2 => e = .returned (.agg (ints .u8 (tagL KL b))) ∧ Below w'.heap.size w' w2) := ⟨fun w' v hv => SumD KL b v w' LKL.out YK hyb hv⟩
  have HK : Kept (∀ {o : Oper} {a : Act}, o.op = .build 22 #[(0, .const (.int .u8 1))] → ∀ w, (execOp a.eval o).run Try.prog w = .ok (.value (.agg (ints .u8 KL))) w) := ⟨fun {o a} ho w => by
    have hb : (Instr.build 22 #[(0, .int .u8 1)]).run Try.prog w = .ok (.agg (ints .u8 KL)) w := by rw [hKL]; kernel_rfl
    unfold execOp
    simp only [ho, List.map_toArray, List.map_cons, List.map_nil, Act.eval]
    simp [hb]⟩
  obtain ⟨Z0, hZ0⟩ : ∃ Z, Z = List.replicate 16 0 := ⟨_, rfl⟩
  have LZ : Kept (Z0.length = 16) := ⟨by rw [hZ0]; rfl⟩
  have EZ : Kept ((#[.int .u8 0, .int .u8 0, .int .u8 0, .int .u8 0, .int .u8 0, .int .u8 0, .int .u8 0, .int .u8 0, .int .u8 0, .int .u8 0, .int .u8 0, .int .u8 0, .int .u8 0, .int .u8 0, .int .u8 0, .int .u8 0] : Array Value) = ints .u8 Z0) := ⟨by rw [hZ0]; exact z16b_eq⟩
  have KV : Kept _ := ⟨hv⟩
  obtain ⟨p, c, rfl, _, _⟩ := hv
  obtain ⟨n, hn⟩ : ∃ n, n = b.length := ⟨_, rfl⟩
  rw [← hn] at KV hm ⊢
  have Q0 : Below w.heap.size w w := Below.refl _ _
  go_enter Try.func8, Try.ntmps8
  go_wp2_with fail
  refine (alive6 _).mono ?_
  rintro e w1 ⟨rfl, hb1⟩
  have Q1 := Q0.trans (hb1.mono Q0.size)
  clear Q0 hb1
  by_cases h15 : n ≤ 15
  case neg =>
    have hi : (15 : Int) < (n : Int) := by omega
    go_wp2_with fail
    go_ret
    exact ⟨rfl, Q1⟩
  case pos =>
    have hi : ¬ (15 : Int) < (n : Int) := by omega
    have B3 : Blk (w1.alloc (.cells #[.int .u8 0, .int .u8 0, .int .u8 0, .int .u8 0, .int .u8 0, .int .u8 0, .int .u8 0, .int .u8 0, .int .u8 0, .int .u8 0, .int .u8 0, .int .u8 0, .int .u8 0, .int .u8 0, .int .u8 0, .int .u8 0] 25)) w1.heap.size 25 (ints .u8 Z0) := by rw [← EZ.out]; exact blk_new w1 _ _
    have Q2 := Q1.alloc Q1.size (.cells #[.int .u8 0, .int .u8 0, .int .u8 0, .int .u8 0, .int .u8 0, .int .u8 0, .int .u8 0, .int .u8 0, .int .u8 0, .int .u8 0, .int .u8 0, .int .u8 0, .int .u8 0, .int .u8 0, .int .u8 0, .int .u8 0] 25)
    have VB : Kept (BytesV (.slice p n c) (w1.alloc (.cells #[.int .u8 0, .int .u8 0, .int .u8 0, .int .u8 0, .int .u8 0, .int .u8 0, .int .u8 0, .int .u8 0, .int .u8 0, .int .u8 0, .int .u8 0, .int .u8 0, .int .u8 0, .int .u8 0, .int .u8 0, .int .u8 0] 25)) b) := ⟨KV.out.under Q2⟩
    have g3w := Q1.size
    have hmin : Kept (n = Nat.min n 16) := ⟨(Nat.min_eq_left (by omega)).symm⟩
    obtain ⟨S1, hS1⟩ : ∃ l, l = b ++ List.replicate (16 - b.length) 0 := ⟨_, rfl⟩
    have LS1 : Kept (S1.length = 16) := ⟨by rw [hS1]; simp; omega⟩
    have ES : Kept ((splice (ints .u8 Z0).toList 0 (ints .u8 (b.take n)).toList).toArray = ints .u8 S1) := ⟨by rw [splice_ints, List.take_of_length_le (by omega), hZ0, splice_front b (by omega), ← hS1]⟩
    by_cases h0 : 0 < n
    case pos =>
      have h0i : (0 : Int) < (n : Int) := by omega
      obtain ⟨WT, hWT⟩ : ∃ l, l = b ++ [1] ++ List.replicate (15 - b.length) 0 := ⟨_, rfl⟩
      have EW : Kept (S1.set n 1 = WT) := ⟨by rw [hS1, hWT, hn]; exact set_front b (by omega)⟩
      have LW : Kept (WT.length = 16) := ⟨by rw [hWT]; simp; omega⟩
      have ET : Kept (tagL KL b = WT) := ⟨by rw [hKL, hWT]; exact tag_one b hyb (by omega) (by omega)⟩
      rw [ET.out] at CSU
      have n16 : n < 16 := by omega
      clear hKL YK hZ0 hn hS1 hWT hyb
      go_wp2_with (first | ((with_reducible refine wv_val (d := 9) ?hd ?hw (.slice (some ⟨w1.heap.size, 0, none⟩) 16 16) ?hr ?_); (case hd => rfl); (case hw => kernel_rfl); (case hr => intro w; exact arr_all_run rfl (by kernel_rfl) Try.underlying25 sz_u8 (by decide) w); simp only [Act.put, List.setIfInBounds_toArray, List.set_cons_succ, List.set_cons_zero]) | (refine wl_copyV rfl (.tmp 9) (.tmp 10) 23 23 rfl Try.underlying23 w1.heap.size 0 16 16 rfl p n c rfl _ B3 b VB.out n hmin.out (by rw [ints_size, LZ.out]; omega) ?_))
      intro w3 C3 P3
      rw [ES.out] at C3
      have Q3 := Q2.trans (P3.below g3w)
      generalize hg3 : w1.heap.size = g3 at *
      clear B3 Q2 P3 ES VB hmin hg3 Q1
      go_wp2_with (first | ((with_reducible refine wv_val (d := 17) ?hd ?hw (.pointer (some ⟨g3, n, none⟩)) ?hr ?_); (case hd => rfl); (case hw => kernel_rfl); (case hr => intro w; exact run_idx rfl (by kernel_rfl) (by kernel_rfl) Try.underlying25 n16 sz_u8 w); simp only [Act.put, List.setIfInBounds_toArray, List.set_cons_succ, List.set_cons_zero]) | (refine wl_setElem rfl 5 sz_u8 (.tmp 17) (.const (.int .u8 1)) rfl g3 n .u8 ((1 : Nat) : Int) rfl rfl _ C3 (by rw [ints_size, LS1.out]; exact n16) ?_))
      intro w4 C4 P4
      have C3 : Blk w4 g3 25 (ints .u8 WT) := by rw [← EW.out, ← ints_set]; exact C4
      have Q4 := Q3.trans (P4.below g3w)
      have CS : Kept (∀ w', Below w4.heap.size w4 w' → Calls Try.prog 10 [.agg (ints .u8 KL), .slice p n c].toArray w' fun e w2 => e = .returned (.agg (ints .u8 WT)) ∧ Below w'.heap.size w' w2) := ⟨fun w' hb => CSU.out w' _ (KV.out.under (Q4.trans (hb.mono Q4.size)))⟩
      clear C4 P4 Q3 EW
      go_wp2_with fail
      refine region_ownL w4 5 [(18, .agg (ints .u8 KL)), (19, .slice p n c), (20, .agg (ints .u8 WT)), (21, .agg (ints .u8 WT)), (22, .bool true)] [] [] [] rfl (by kernel_rfl) (by kernel_rfl) (by kernel_rfl) (by kernel_rfl) (by kernel_rfl) (by kernel_rfl) (by kernel_rfl) (by kernel_rfl) (by kernel_rfl) (by kernel_rfl) (by kernel_rfl) ?hst1 ?hst2 (Below.refl _ _) (fun hA => ⟨ow_val hA (wants_none rfl) 18 (.agg (ints .u8 KL)) (by kernel_rfl) rfl rfl rfl rfl (by kernel_rfl) (fun w => HK.out rfl w), ow_val hA (wants_none rfl) 19 (.slice p n c) (by kernel_rfl) rfl rfl rfl rfl (by kernel_rfl) (fun w => by kernel_rfl), ow_calld hA (wants_none rfl) 20 (.agg (ints .u8 WT)) (by kernel_rfl) rfl rfl rfl rfl (by kernel_rfl) 10 Try.f10 _ [.tmp 18, .tmp 19] _ [.agg (ints .u8 KL), .slice p n c] rfl (by kernel_rfl) Try.func10 (by kernel_rfl) rfl (CS.out), ow_row hA (wants_none rfl) 21 (.agg (ints .u8 WT)) (by kernel_rfl) rfl rfl rfl rfl (by kernel_rfl) 25 (.tmp 3) rfl (g3) (by kernel_rfl) 25 (ints .u8 WT) 16 5 Try.underlying25 ((by rw [ints_size, LW.out]; exact a16_info)) (fun w1 hb => C3.under hb) rfl, ow_val hA (wants_none rfl) 22 (.bool true) (by kernel_rfl) rfl rfl rfl rfl (by kernel_rfl) (fun w => by rw [run_eql_row (WT) (WT) rfl (by kernel_rfl) (by kernel_rfl) LW.out LW.out Try.underlying25 Try.underlying5 sz_u8 ag_u8 eg16]; rw [decide_eq_true rfl]), trivial⟩) ?_
      case hst1 => intro q hq; cases hq
      case hst2 => intro q hq; cases hq
      intro fv w5 hf hD hb5
      simp only [putR, List.foldl_cons, List.foldl_nil, List.map_cons, List.map_nil, Act.put, List.setIfInBounds_toArray, List.set_cons_succ, List.set_cons_zero]
      go_wp2_with fail
      go_ret
      exact ⟨rfl, Q4.trans (hb5.mono Q4.size)⟩
    case neg =>
      have h0i : ¬ (0 : Int) < (n : Int) := by omega
      have eb : b = [] := List.length_eq_zero_iff.1 (by omega)
      obtain ⟨WT, hWT⟩ : ∃ l, l = S1 := ⟨_, rfl⟩
      have LW : Kept (WT.length = 16) := ⟨by rw [hWT]; exact LS1.out⟩
      have ET : Kept (tagL KL b = WT) := ⟨by rw [hKL, hWT, hS1, eb]; exact tag_one0⟩
      rw [ET.out] at CSU
      rw [← hWT] at ES
      clear hKL YK hZ0 hn hS1 hWT hyb eb
      go_wp2_with (first | ((with_reducible refine wv_val (d := 9) ?hd ?hw (.slice (some ⟨w1.heap.size, 0, none⟩) 16 16) ?hr ?_); (case hd => rfl); (case hw => kernel_rfl); (case hr => intro w; exact arr_all_run rfl (by kernel_rfl) Try.underlying25 sz_u8 (by decide) w); simp only [Act.put, List.setIfInBounds_toArray, List.set_cons_succ, List.set_cons_zero]) | (refine wl_copyV rfl (.tmp 9) (.tmp 10) 23 23 rfl Try.underlying23 w1.heap.size 0 16 16 rfl p n c rfl _ B3 b VB.out n hmin.out (by rw [ints_size, LZ.out]; omega) ?_))
      intro w4 C3 P3
      rw [ES.out] at C3
      have Q4 := Q2.trans (P3.below g3w)
      generalize hg3 : w1.heap.size = g3 at *
      clear B3 Q2 P3 ES VB hmin hg3 Q1
      have CS : Kept (∀ w', Below w4.heap.size w4 w' → Calls Try.prog 10 [.agg (ints .u8 KL), .slice p n c].toArray w' fun e w2 => e = .returned (.agg (ints .u8 WT)) ∧ Below w'.heap.size w' w2) := ⟨fun w' hb => CSU.out w' _ (KV.out.under (Q4.trans (hb.mono Q4.size)))⟩
      go_wp2_with fail
      refine region_ownL w4 5 [(18, .agg (ints .u8 KL)), (19, .slice p n c), (20, .agg (ints .u8 WT)), (21, .agg (ints .u8 WT)), (22, .bool true)] [] [] [] rfl (by kernel_rfl) (by kernel_rfl) (by kernel_rfl) (by kernel_rfl) (by kernel_rfl) (by kernel_rfl) (by kernel_rfl) (by kernel_rfl) (by kernel_rfl) (by kernel_rfl) (by kernel_rfl) ?hst1 ?hst2 (Below.refl _ _) (fun hA => ⟨ow_val hA (wants_none rfl) 18 (.agg (ints .u8 KL)) (by kernel_rfl) rfl rfl rfl rfl (by kernel_rfl) (fun w => HK.out rfl w), ow_val hA (wants_none rfl) 19 (.slice p n c) (by kernel_rfl) rfl rfl rfl rfl (by kernel_rfl) (fun w => by kernel_rfl), ow_calld hA (wants_none rfl) 20 (.agg (ints .u8 WT)) (by kernel_rfl) rfl rfl rfl rfl (by kernel_rfl) 10 Try.f10 _ [.tmp 18, .tmp 19] _ [.agg (ints .u8 KL), .slice p n c] rfl (by kernel_rfl) Try.func10 (by kernel_rfl) rfl (CS.out), ow_row hA (wants_none rfl) 21 (.agg (ints .u8 WT)) (by kernel_rfl) rfl rfl rfl rfl (by kernel_rfl) 25 (.tmp 3) rfl (g3) (by kernel_rfl) 25 (ints .u8 WT) 16 5 Try.underlying25 ((by rw [ints_size, LW.out]; exact a16_info)) (fun w1 hb => C3.under hb) rfl, ow_val hA (wants_none rfl) 22 (.bool true) (by kernel_rfl) rfl rfl rfl rfl (by kernel_rfl) (fun w => by rw [run_eql_row (WT) (WT) rfl (by kernel_rfl) (by kernel_rfl) LW.out LW.out Try.underlying25 Try.underlying5 sz_u8 ag_u8 eg16]; rw [decide_eq_true rfl]), trivial⟩) ?_
      case hst1 => intro q hq; cases hq
      case hst2 => intro q hq; cases hq
      intro fv w5 hf hD hb5
      simp only [putR, List.foldl_cons, List.foldl_nil, List.map_cons, List.map_nil, Act.put, List.setIfInBounds_toArray, List.set_cons_succ, List.set_cons_zero]
      go_wp2_with fail
      go_ret
      exact ⟨rfl, Q4.trans (hb5.mono Q4.size)⟩
end Go.Proofs.Ytfcinakpdnblfaa.sh
