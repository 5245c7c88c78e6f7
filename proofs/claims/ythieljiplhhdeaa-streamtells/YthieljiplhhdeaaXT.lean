/-
  StreamTells: blocks, and bytes turned by them, are what the reference says, or refused.
-/
import Derived.Test.YthieljiplhhdeaaXS
namespace Go.Proofs.Ythieljiplhhdeaa.sh
open Go Go.RowKit
set_option linter.unusedVariables false
set_option linter.unusedSimpArgs false

theorem eg64 : Try.prog.eqGuardType Try.prog.depth 34 = false := by kernel_rfl
theorem run_eql64 {o : Oper} {a : Act} {x y : Operand} {u : TypeId} (l : List Nat) (ho : o.op = .binOp .eql 34 x y u) (hx : a.eval x = .agg (ints .u8 l)) (hy : a.eval y = .agg (ints .u8 l)) (hl : l.length = 64) (w : World) : (execOp a.eval o).run Try.prog w = .ok (.value (.bool true)) w := by
  rw [run_eql_row l l ho hx hy hl hl Try.underlying34 Try.underlying5 sz_u8 ag_u8 eg64, decide_eq_true rfl]
theorem run_eqlI {o : Oper} {a : Act} {x y : Operand} {r : Int} (ho : o.op = .binOp .eql 3 x y 3) (hx : a.eval x = .int .i64 r) (hy : a.eval y = .int .i64 r) (w : World) : (execOp a.eval o).run Try.prog w = .ok (.value (.bool true)) w := by
  unfold execOp
  simp only [ho, hx, hy]
  simp [go_sem]
theorem nil_bytesV (w : World) : BytesV (.slice none 0 0) w [] := ⟨none, 0, rfl, Nat.le_refl _, fun h => absurd rfl h⟩
/-- Both sides answer the same list and the same number. -/
theorem xor_two (key nonce b : List Nat) (count : Nat) (hk : key.length = 32) (hy : Bytes key) (hnl : nonce.length = 12) (hyn : Bytes nonce) (hyb : Bytes b) (hc : count < 4294967296) (h : b.length ≤ 65536) :
    ∃ (T : List Nat) (r : Int), (∀ (w : World) (vb : Value), BytesV vb w b → Calls Try.prog 9 #[.agg (ints .u8 key), .agg (ints .u8 nonce), .int .u32 (count : Int), vb] w fun e w' => ∃ v, e = .returned (.tuple #[v, .int .i64 r]) ∧ BytesV v w' T ∧ Below w.heap.size w w') ∧
      (∀ (w : World) (vb : Value), BytesV vb w b → Calls Try.prog 10 #[.agg (ints .u8 key), .agg (ints .u8 nonce), .int .u32 (count : Int), vb] w fun e w' => ∃ v, e = .returned (.tuple #[v, .int .i64 r]) ∧ BytesV v w' T ∧ Below w.heap.size w w') := by
  by_cases he : count + (b.length + 63) / 64 ≤ 4294967296
  · refine ⟨encL key nonce count b, 0, fun w vb hv => ?_, fun w vb hv => rXor_ok key nonce b count vb w hk hy hnl hyn hyb hv hc h he⟩
    refine (Xor_ok key nonce b count vb w hk hy hnl hyn hyb hv hc h he).mono ?_
    rintro e w' ⟨v, rfl, hr, hb⟩
    exact ⟨v, rfl, row_bytes hr, hb⟩
  · refine ⟨[], 12, fun w vb hv => ?_, fun w vb hv => ?_⟩
    · refine (Xor_end key nonce b count vb w hv hc h (by omega)).mono ?_
      rintro e w' ⟨rfl, hb⟩
      exact ⟨_, rfl, nil_bytesV _, hb⟩
    · refine (rXor_end key nonce b count vb w hv hc h (by omega)).mono ?_
      rintro e w' ⟨rfl, hb⟩
      exact ⟨_, rfl, nil_bytesV _, hb⟩

set_option maxRecDepth 100000 in
set_option maxHeartbeats 2000000 in
theorem tells5_any (key nonce : List Nat) (count : Nat) (vb : Value) (b : List Nat) (w : World) (hk : key.length = 32) (hy : Bytes key) (hnl : nonce.length = 12) (hyn : Bytes nonce) (hc : count < 4294967296) (hvb : BytesV vb w b) (hyb : Bytes b) (hlb : b.length ≤ maxLen) :
    Calls Try.prog 3 #[.agg (placeA key nonce count), vb] w fun e w' => e = .returned (.bool true) ∧ Below w.heap.size w w' := by
  have KV : Kept _ := ⟨hvb⟩
  obtain ⟨pb, cb, rfl, hlc, _⟩ := hvb
  obtain ⟨n, hn⟩ : ∃ n, n = b.length := ⟨_, rfl⟩
  rw [← hn] at KV ⊢
  have LK : Kept _ := ⟨hk⟩
  have LN : Kept _ := ⟨hnl⟩
  have A0 : Blk (w.alloc (.cells (placeA key nonce count) 26)) w.heap.size 26 (placeA key nonce count) := blk_new _ _ _
  have Q0 := place_below w (placeA key nonce count)
  by_cases h20 : 2000 < n
  case pos =>
    have h20' : (2000 : Int) < (n : Int) := by omega
    clear hk hy hnl hyn hyb hn hlc hlb
    go_enter Try.func3, Try.ntmps3
    go_wp2_with fail
    refine (alive5_any _).mono ?_
    rintro e w1 ⟨rfl, hb1⟩
    go_wp2_with fail
    go_ret
    exact ⟨rfl, Q0.trans (hb1.mono Q0.size)⟩
  case neg =>
    have h20' : ¬ (2000 : Int) < (n : Int) := by omega
    obtain ⟨T, r, hX1, hX2⟩ := xor_two key nonce b count hk hy hnl hyn hyb hc (by omega)
    have CX1 : Kept _ := ⟨hX1⟩
    have CX2 : Kept _ := ⟨hX2⟩
    obtain ⟨KB, hKB⟩ : ∃ K, K = blockL key nonce count := ⟨_, rfl⟩
    have LKB : Kept (KB.length = 64) := ⟨by rw [hKB]; exact blockL_len _ _ _⟩
    have BK1 : Kept (∀ w', Calls Try.prog 11 #[.agg (ints .u8 key), .agg (ints .u8 nonce), .int .u32 (count : Int)] w' fun e w2 => e = .returned (.agg (ints .u8 KB)) ∧ Below w'.heap.size w' w2) := ⟨fun w' => by rw [hKB]; exact Block_any key nonce count w' hk hy hnl hyn hc⟩
    have BK2 : Kept (∀ w', Calls Try.prog 12 #[.agg (ints .u8 key), .agg (ints .u8 nonce), .int .u32 (count : Int)] w' fun e w2 => e = .returned (.agg (ints .u8 KB)) ∧ Below w'.heap.size w' w2) := ⟨fun w' => by rw [hKB]; exact rBlock_any key nonce count w' hk hy hnl hyn hc⟩
    clear hk hy hnl hyn hyb hn hlc hlb hX1 hX2 hKB
    go_enter Try.func3, Try.ntmps3
    go_wp2_with fail
    generalize hW : w.alloc (.cells (placeA key nonce count) 26) = wa at *
    clear hW
    refine (alive5_any wa).mono ?_
    rintro e w1 ⟨rfl, hb1⟩
    have B0 := A0.under hb1
    have Q1 := Q0.trans (hb1.mono Q0.size)
    clear A0 Q0 hb1
    go_wp2_with (first | ((with_reducible refine wv_val (d := 15) ?hd ?hw (.pointer (some ⟨w.heap.size, 0, none⟩)) ?hr ?_); (case hd => rfl); (case hw => kernel_rfl); (case hr => intro w; kernel_rfl); simp only [Act.put, List.setIfInBounds_toArray, List.set_cons_succ, List.set_cons_zero]) | ((with_reducible refine wv_partA (d := 16) ?hd ?hw 22 (.tmp 15) ?ho (w.heap.size) 0 ?hx (t' := 26) (placeA key nonce count) (ints .u8 key) 32 5 Try.underlying22 ?hs ?hg ?hp ?_); (case hd => rfl); (case hw => kernel_rfl); (case ho => rfl); (case hx => kernel_rfl); (case hs => rw [ints_size, LK.out]; exact t32_info); (case hg => exact B0); (case hp => exact place_key _ _ _); simp only [Act.put, List.setIfInBounds_toArray, List.set_cons_succ, List.set_cons_zero]) | ((with_reducible refine wv_val (d := 17) ?hd ?hw (.pointer (some ⟨w.heap.size, 32, none⟩)) ?hr ?_); (case hd => rfl); (case hw => kernel_rfl); (case hr => intro w; kernel_rfl); simp only [Act.put, List.setIfInBounds_toArray, List.set_cons_succ, List.set_cons_zero]) | ((with_reducible refine wv_partA (d := 18) ?hd ?hw 23 (.tmp 17) ?ho (w.heap.size) 32 ?hx (t' := 26) (placeA key nonce count) (ints .u8 nonce) 12 5 Try.underlying23 ?hs ?hg ?hp ?_); (case hd => rfl); (case hw => kernel_rfl); (case ho => rfl); (case hx => kernel_rfl); (case hs => rw [ints_size, LN.out]; exact i12_info); (case hg => exact B0); (case hp => exact place_non _ _ _ LK.out); simp only [Act.put, List.setIfInBounds_toArray, List.set_cons_succ, List.set_cons_zero]) | ((with_reducible refine wv_val (d := 19) ?hd ?hw (.pointer (some ⟨w.heap.size, 44, none⟩)) ?hr ?_); (case hd => rfl); (case hw => kernel_rfl); (case hr => intro w; kernel_rfl); simp only [Act.put, List.setIfInBounds_toArray, List.set_cons_succ, List.set_cons_zero]) | ((with_reducible refine wv_elem (d := 20) ?hd ?hw 24 ag_u32 (.tmp 19) ?ho (⟨w.heap.size, 44, none⟩) ?hx (.int .u32 (count : Int)) ?hc ?_); (case hd => rfl); (case hw => kernel_rfl); (case ho => rfl); (case hx => kernel_rfl); (case hc => exact B0.cell (place_cnt _ _ _ LK.out LN.out)); simp only [Act.put, List.setIfInBounds_toArray, List.set_cons_succ, List.set_cons_zero]))
    refine (CX1.out w1 _ (KV.out.under Q1)).mono ?_
    rintro e w2 ⟨v1, rfl, hv1, hb2⟩
    have B2 := B0.under hb2
    have Q2 := Q1.trans (hb2.mono Q1.size)
    have V1' : Kept _ := ⟨hv1⟩
    clear B0 Q1 hb2 CX1 hv1
    go_wp2_with (first | ((with_reducible refine wv_val (d := 26) ?hd ?hw (.pointer (some ⟨w.heap.size, 0, none⟩)) ?hr ?_); (case hd => rfl); (case hw => kernel_rfl); (case hr => intro w; kernel_rfl); simp only [Act.put, List.setIfInBounds_toArray, List.set_cons_succ, List.set_cons_zero]) | ((with_reducible refine wv_partA (d := 27) ?hd ?hw 22 (.tmp 26) ?ho (w.heap.size) 0 ?hx (t' := 26) (placeA key nonce count) (ints .u8 key) 32 5 Try.underlying22 ?hs ?hg ?hp ?_); (case hd => rfl); (case hw => kernel_rfl); (case ho => rfl); (case hx => kernel_rfl); (case hs => rw [ints_size, LK.out]; exact t32_info); (case hg => exact B2); (case hp => exact place_key _ _ _); simp only [Act.put, List.setIfInBounds_toArray, List.set_cons_succ, List.set_cons_zero]) | ((with_reducible refine wv_val (d := 28) ?hd ?hw (.pointer (some ⟨w.heap.size, 32, none⟩)) ?hr ?_); (case hd => rfl); (case hw => kernel_rfl); (case hr => intro w; kernel_rfl); simp only [Act.put, List.setIfInBounds_toArray, List.set_cons_succ, List.set_cons_zero]) | ((with_reducible refine wv_partA (d := 29) ?hd ?hw 23 (.tmp 28) ?ho (w.heap.size) 32 ?hx (t' := 26) (placeA key nonce count) (ints .u8 nonce) 12 5 Try.underlying23 ?hs ?hg ?hp ?_); (case hd => rfl); (case hw => kernel_rfl); (case ho => rfl); (case hx => kernel_rfl); (case hs => rw [ints_size, LN.out]; exact i12_info); (case hg => exact B2); (case hp => exact place_non _ _ _ LK.out); simp only [Act.put, List.setIfInBounds_toArray, List.set_cons_succ, List.set_cons_zero]) | ((with_reducible refine wv_val (d := 30) ?hd ?hw (.pointer (some ⟨w.heap.size, 44, none⟩)) ?hr ?_); (case hd => rfl); (case hw => kernel_rfl); (case hr => intro w; kernel_rfl); simp only [Act.put, List.setIfInBounds_toArray, List.set_cons_succ, List.set_cons_zero]) | ((with_reducible refine wv_elem (d := 31) ?hd ?hw 24 ag_u32 (.tmp 30) ?ho (⟨w.heap.size, 44, none⟩) ?hx (.int .u32 (count : Int)) ?hc ?_); (case hd => rfl); (case hw => kernel_rfl); (case ho => rfl); (case hx => kernel_rfl); (case hc => exact B2.cell (place_cnt _ _ _ LK.out LN.out)); simp only [Act.put, List.setIfInBounds_toArray, List.set_cons_succ, List.set_cons_zero]))
    refine (CX2.out w2 _ (KV.out.under Q2)).mono ?_
    rintro e w4 ⟨v2, rfl, hv2, hb4⟩
    have C0 := B2.under hb4
    have Q4 := Q2.trans (hb4.mono Q2.size)
    have V1 : Kept _ := ⟨V1'.out.under hb4⟩
    have V2 : Kept _ := ⟨hv2⟩
    clear B2 Q2 hb4 CX2 hv2 V1'
    obtain ⟨s, hs⟩ : ∃ s, s = strOf T := ⟨_, rfl⟩
    have ES : Kept (Value.string s = .string (strOf T)) := ⟨by rw [hs]⟩
    have CB1 : Kept (∀ w', Below w4.heap.size w4 w' → Calls Try.prog 11 [.agg (ints .u8 key), .agg (ints .u8 nonce), .int .u32 (count : Int)].toArray w' fun e w2 => e = .returned (.agg (ints .u8 KB)) ∧ Below w'.heap.size w' w2) := ⟨fun w' _ => BK1.out w'⟩
    have CB2 : Kept (∀ w', Below w4.heap.size w4 w' → Calls Try.prog 12 [.agg (ints .u8 key), .agg (ints .u8 nonce), .int .u32 (count : Int)].toArray w' fun e w2 => e = .returned (.agg (ints .u8 KB)) ∧ Below w'.heap.size w' w2) := ⟨fun w' _ => BK2.out w'⟩
    clear hs BK1 BK2
    go_wp2_with fail
    refine region_ownL w4 28 [(36, .pointer (some ⟨w.heap.size, 0, none⟩)), (37, .agg (ints .u8 key)), (38, .pointer (some ⟨w.heap.size, 32, none⟩)), (39, .agg (ints .u8 nonce)), (40, .pointer (some ⟨w.heap.size, 44, none⟩)), (41, .int .u32 (count : Int)), (42, .agg (ints .u8 KB)), (43, .pointer (some ⟨w.heap.size, 0, none⟩)), (44, .agg (ints .u8 key)), (45, .pointer (some ⟨w.heap.size, 32, none⟩)), (46, .agg (ints .u8 nonce)), (47, .pointer (some ⟨w.heap.size, 44, none⟩)), (48, .int .u32 (count : Int)), (49, .agg (ints .u8 KB)), (50, .bool true), (51, .bool true), (52, v1), (53, .string s), (54, v2), (55, .string s), (56, .bool true), (57, .bool true), (58, .bool true), (59, .int .i64 r), (60, .int .i64 r), (61, .bool true), (62, .bool true), (4, .bool true)] [] [] [] rfl (by kernel_rfl) (by kernel_rfl) (by kernel_rfl) (by kernel_rfl) (by kernel_rfl) (by kernel_rfl) (by kernel_rfl) (by kernel_rfl) (by kernel_rfl) (by kernel_rfl) (by kernel_rfl) ?hst1 ?hst2 (Below.refl _ _) (fun hA => ⟨ow_val hA (wants_none rfl) 36 (.pointer (some ⟨w.heap.size, 0, none⟩)) (by kernel_rfl) rfl rfl rfl rfl (by kernel_rfl) (fun w => by kernel_rfl), ow_partA hA (wants_none rfl) 37 (.agg (ints .u8 key)) (by kernel_rfl) rfl rfl rfl rfl (by kernel_rfl) 22 (.tmp 36) rfl (w.heap.size) 0 (by kernel_rfl) 26 (placeA key nonce count) (ints .u8 key) 32 5 Try.underlying22 (by rw [ints_size, LK.out]; exact t32_info) (fun w1 hb => C0.under hb) (place_key _ _ _) rfl, ow_val hA (wants_none rfl) 38 (.pointer (some ⟨w.heap.size, 32, none⟩)) (by kernel_rfl) rfl rfl rfl rfl (by kernel_rfl) (fun w => by kernel_rfl), ow_partA hA (wants_none rfl) 39 (.agg (ints .u8 nonce)) (by kernel_rfl) rfl rfl rfl rfl (by kernel_rfl) 23 (.tmp 38) rfl (w.heap.size) 32 (by kernel_rfl) 26 (placeA key nonce count) (ints .u8 nonce) 12 5 Try.underlying23 (by rw [ints_size, LN.out]; exact i12_info) (fun w1 hb => C0.under hb) (place_non _ _ _ LK.out) rfl, ow_val hA (wants_none rfl) 40 (.pointer (some ⟨w.heap.size, 44, none⟩)) (by kernel_rfl) rfl rfl rfl rfl (by kernel_rfl) (fun w => by kernel_rfl), ow_elem hA (wants_none rfl) 41 (.int .u32 (count : Int)) (by kernel_rfl) rfl rfl rfl rfl (by kernel_rfl) 24 ag_u32 (.tmp 40) rfl (⟨w.heap.size, 44, none⟩) (by kernel_rfl) (fun w1 hb => (C0.under hb).cell (place_cnt _ _ _ LK.out LN.out)), ow_calld hA (wants_none rfl) 42 (.agg (ints .u8 KB)) (by kernel_rfl) rfl rfl rfl rfl (by kernel_rfl) 11 Try.f11 _ [.tmp 37, .tmp 39, .tmp 41] _ [.agg (ints .u8 key), .agg (ints .u8 nonce), .int .u32 (count : Int)] rfl (by kernel_rfl) Try.func11 (by kernel_rfl) rfl (CB1.out), ow_val hA (wants_none rfl) 43 (.pointer (some ⟨w.heap.size, 0, none⟩)) (by kernel_rfl) rfl rfl rfl rfl (by kernel_rfl) (fun w => by kernel_rfl), ow_partA hA (wants_none rfl) 44 (.agg (ints .u8 key)) (by kernel_rfl) rfl rfl rfl rfl (by kernel_rfl) 22 (.tmp 43) rfl (w.heap.size) 0 (by kernel_rfl) 26 (placeA key nonce count) (ints .u8 key) 32 5 Try.underlying22 (by rw [ints_size, LK.out]; exact t32_info) (fun w1 hb => C0.under hb) (place_key _ _ _) rfl, ow_val hA (wants_none rfl) 45 (.pointer (some ⟨w.heap.size, 32, none⟩)) (by kernel_rfl) rfl rfl rfl rfl (by kernel_rfl) (fun w => by kernel_rfl), ow_partA hA (wants_none rfl) 46 (.agg (ints .u8 nonce)) (by kernel_rfl) rfl rfl rfl rfl (by kernel_rfl) 23 (.tmp 45) rfl (w.heap.size) 32 (by kernel_rfl) 26 (placeA key nonce count) (ints .u8 nonce) 12 5 Try.underlying23 (by rw [ints_size, LN.out]; exact i12_info) (fun w1 hb => C0.under hb) (place_non _ _ _ LK.out) rfl, ow_val hA (wants_none rfl) 47 (.pointer (some ⟨w.heap.size, 44, none⟩)) (by kernel_rfl) rfl rfl rfl rfl (by kernel_rfl) (fun w => by kernel_rfl), ow_elem hA (wants_none rfl) 48 (.int .u32 (count : Int)) (by kernel_rfl) rfl rfl rfl rfl (by kernel_rfl) 24 ag_u32 (.tmp 47) rfl (⟨w.heap.size, 44, none⟩) (by kernel_rfl) (fun w1 hb => (C0.under hb).cell (place_cnt _ _ _ LK.out LN.out)), ow_calld hA (wants_none rfl) 49 (.agg (ints .u8 KB)) (by kernel_rfl) rfl rfl rfl rfl (by kernel_rfl) 12 Try.f12 _ [.tmp 44, .tmp 46, .tmp 48] _ [.agg (ints .u8 key), .agg (ints .u8 nonce), .int .u32 (count : Int)] rfl (by kernel_rfl) Try.func12 (by kernel_rfl) rfl (CB2.out), ow_val hA (wants_none rfl) 50 (.bool true) (by kernel_rfl) rfl rfl rfl rfl (by kernel_rfl) (fun w => run_eql64 KB rfl (by kernel_rfl) (by kernel_rfl) LKB.out w), ow_val hA (wants_none rfl) 51 (.bool true) (by kernel_rfl) rfl rfl rfl rfl (by kernel_rfl) (fun w => by kernel_rfl), ow_val hA (wants_at hA 15 true 51 rfl rfl (by kernel_rfl) rfl rfl (by kernel_rfl)) 52 (v1) (by kernel_rfl) rfl rfl rfl rfl (by kernel_rfl) (fun w => by kernel_rfl), ow_str hA (wants_at hA 15 true 51 rfl rfl (by kernel_rfl) rfl rfl (by kernel_rfl)) 53 (.string s) (by kernel_rfl) rfl rfl rfl rfl (by kernel_rfl) (.tmp 52) rfl _ (by kernel_rfl) T (fun w1 hb => V1.out.under hb) ES.out, ow_val hA (wants_at hA 15 true 51 rfl rfl (by kernel_rfl) rfl rfl (by kernel_rfl)) 54 (v2) (by kernel_rfl) rfl rfl rfl rfl (by kernel_rfl) (fun w => by kernel_rfl), ow_str hA (wants_at hA 15 true 51 rfl rfl (by kernel_rfl) rfl rfl (by kernel_rfl)) 55 (.string s) (by kernel_rfl) rfl rfl rfl rfl (by kernel_rfl) (.tmp 54) rfl _ (by kernel_rfl) T (fun w1 hb => V2.out.under hb) ES.out, ow_val hA (wants_at hA 15 true 51 rfl rfl (by kernel_rfl) rfl rfl (by kernel_rfl)) 56 (.bool true) (by kernel_rfl) rfl rfl rfl rfl (by kernel_rfl) (fun w => run_eql_str (s := s) rfl (by kernel_rfl) (by kernel_rfl) w), ow_val hA (wants_none rfl) 57 (.bool true) (by kernel_rfl) rfl rfl rfl rfl (by kernel_rfl) (fun w => by kernel_rfl), ow_val hA (wants_none rfl) 58 (.bool true) (by kernel_rfl) rfl rfl rfl rfl (by kernel_rfl) (fun w => by kernel_rfl), ow_val hA (wants_at hA 22 true 58 rfl rfl (by kernel_rfl) rfl rfl (by kernel_rfl)) 59 (.int .i64 r) (by kernel_rfl) rfl rfl rfl rfl (by kernel_rfl) (fun w => by kernel_rfl), ow_val hA (wants_at hA 22 true 58 rfl rfl (by kernel_rfl) rfl rfl (by kernel_rfl)) 60 (.int .i64 r) (by kernel_rfl) rfl rfl rfl rfl (by kernel_rfl) (fun w => by kernel_rfl), ow_val hA (wants_at hA 22 true 58 rfl rfl (by kernel_rfl) rfl rfl (by kernel_rfl)) 61 (.bool true) (by kernel_rfl) rfl rfl rfl rfl (by kernel_rfl) (fun w => run_eqlI (r := r) rfl (by kernel_rfl) (by kernel_rfl) w), ow_val hA (wants_none rfl) 62 (.bool true) (by kernel_rfl) rfl rfl rfl rfl (by kernel_rfl) (fun w => by kernel_rfl), ow_val hA (wants_none rfl) 4 (.bool true) (by kernel_rfl) rfl rfl rfl rfl (by kernel_rfl) (fun w => by kernel_rfl), trivial⟩) ?_
    case hst1 => intro q hq; cases hq
    case hst2 => intro q hq; cases hq
    intro fv w7 hf hD hb7
    simp only [putR, List.foldl_cons, List.foldl_nil, List.map_cons, List.map_nil, Act.put, List.setIfInBounds_toArray, List.set_cons_succ, List.set_cons_zero]
    clear hf hD CB1 CB2
    refine (show wpList _ _ _ [] _ _ from ?_)
    refine wpList_nil ?_
    go_wp2_with fail
    go_ret
    exact ⟨rfl, Q4.trans (hb7.mono Q4.size)⟩
end Go.Proofs.Ythieljiplhhdeaa.sh
