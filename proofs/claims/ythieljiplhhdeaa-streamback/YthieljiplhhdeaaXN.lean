/-
  StreamBlocks: bytes are turned by blocks that are told one by one.
-/
import Derived.Test.YthieljiplhhdeaaXL
namespace Go.Proofs.Ythieljiplhhdeaa.sh
open Go Go.RowKit
set_option linter.unusedVariables false
set_option linter.unusedSimpArgs false

theorem run_neq8 {o : Oper} {a : Act} {x y : Operand} {m : Nat} (ho : o.op = .binOp .neq 5 x y 5) (hx : a.eval x = .int .u8 (m : Int)) (hy : a.eval y = .int .u8 (m : Int)) (w : World) : (execOp a.eval o).run Try.prog w = .ok (.value (.bool false)) w := by
  unfold execOp
  simp only [ho, hx, hy]
  simp [go_sem]
theorem bytes_at {p : Option Addr} {n c : Nat} {w : World} {bs : List Nat} (h : BytesV (.slice p n c) w bs) {i x : Nat} (hx : bs[i]? = some x) : ∃ A, p = some A ∧ A.block < w.heap.size ∧ w.cell? (A.add i) = some (.int .u8 (x : Int)) := by
  obtain ⟨p', c', e1, _, e3⟩ := h
  cases e1
  obtain ⟨A, e4, e6, e5⟩ := e3 (by intro e; rw [e] at hx; cases hx)
  exact ⟨A, e4, e6, e5 i x hx⟩
theorem bytes_cell {A : Addr} {n c : Nat} {w : World} {bs : List Nat} (h : BytesV (.slice (some A) n c) w bs) {i x : Nat} (hx : bs[i]? = some x) : w.cell? (A.add i) = some (.int .u8 (x : Int)) := by
  obtain ⟨A', e1, _, e2⟩ := bytes_at h hx
  cases e1
  exact e2
theorem place_below (w : World) (A : Array Value) : Below w.heap.size w (w.alloc (.cells A 26)) := (Below.refl _ _).alloc (Nat.le_refl _) _
/-- What Xor answers. -/
theorem Xor_any (key nonce b : List Nat) (count : Nat) (vb : Value) (w : World) (hk : key.length = 32) (hy : Bytes key) (hnl : nonce.length = 12) (hyn : Bytes nonce) (hyb : Bytes b) (hvb : BytesV vb w b) (hc : count < 4294967296) (h : b.length ≤ 65536) :
    Calls Try.prog 9 #[.agg (ints .u8 key), .agg (ints .u8 nonce), .int .u32 (count : Int), vb] w fun e w' => Below w.heap.size w w' ∧ ∃ v : Value, ((count + (b.length + 63) / 64 ≤ 4294967296 ∧ e = .returned (.tuple #[v, .int .i64 0]) ∧ BytesV v w' (encL key nonce count b)) ∨ (4294967296 < count + (b.length + 63) / 64 ∧ e = .returned (.tuple #[v, .int .i64 12]) ∧ v = .slice none 0 0)) := by
  by_cases he : count + (b.length + 63) / 64 ≤ 4294967296
  · refine (Xor_ok key nonce b count vb w hk hy hnl hyn hyb hvb hc h he).mono ?_
    rintro e w' ⟨v, rfl, hr, hb⟩
    exact ⟨hb, v, .inl ⟨he, rfl, row_bytes hr⟩⟩
  · refine (Xor_end key nonce b count vb w hvb hc h (by omega)).mono ?_
    rintro e w' ⟨rfl, hb⟩
    exact ⟨hb, _, .inr ⟨by omega, rfl, rfl⟩⟩

set_option maxRecDepth 100000 in
set_option maxHeartbeats 2000000 in
theorem blocks5_any (key nonce : List Nat) (count : Nat) (vb : Value) (b : List Nat) (w : World) (hk : key.length = 32) (hy : Bytes key) (hnl : nonce.length = 12) (hyn : Bytes nonce) (hc : count < 4294967296) (hvb : BytesV vb w b) (hyb : Bytes b) (hlb : b.length ≤ maxLen) :
    Calls Try.prog 7 #[.agg (placeA key nonce count), vb] w fun e w' => e = .returned (.bool true) ∧ Below w.heap.size w w' := by
  have KV : Kept _ := ⟨hvb⟩
  obtain ⟨pb, cb, rfl, hlc, _⟩ := hvb
  obtain ⟨n, hn⟩ : ∃ n, n = b.length := ⟨_, rfl⟩
  rw [← hn] at KV ⊢
  have EN : Kept _ := ⟨hn⟩
  have LK : Kept _ := ⟨hk⟩
  have LN : Kept _ := ⟨hnl⟩
  have KYB : Kept _ := ⟨hyb⟩
  have A0 : Blk (w.alloc (.cells (placeA key nonce count) 26)) w.heap.size 26 (placeA key nonce count) := blk_new _ _ _
  have Q0 := place_below w (placeA key nonce count)
  have CBK : Kept (∀ (ct : Nat) (w' : World), ct < 4294967296 → Calls Try.prog 11 #[.agg (ints .u8 key), .agg (ints .u8 nonce), .int .u32 (ct : Int)] w' fun e w2 => e = .returned (.agg (ints .u8 (blockL key nonce ct))) ∧ Below w'.heap.size w' w2) := ⟨fun ct w' h => Block_any key nonce ct w' hk hy hnl hyn h⟩
  have CX : Kept (∀ w', Below w.heap.size w w' → n ≤ 65536 → Calls Try.prog 9 #[.agg (ints .u8 key), .agg (ints .u8 nonce), .int .u32 (count : Int), .slice pb n cb] w' fun e w2 => Below w'.heap.size w' w2 ∧ ∃ v : Value, ((count + (n + 63) / 64 ≤ 4294967296 ∧ e = .returned (.tuple #[v, .int .i64 0]) ∧ BytesV v w2 (encL key nonce count b)) ∨ (4294967296 < count + (n + 63) / 64 ∧ e = .returned (.tuple #[v, .int .i64 12]) ∧ v = .slice none 0 0))) := ⟨fun w' hb hle => by
    have h := Xor_any key nonce b count (.slice pb n cb) w' hk hy hnl hyn hyb (KV.out.under hb) hc (by rw [← hn]; exact hle)
    rw [← hn] at h
    exact h⟩
  clear hk hy hnl hyn hyb hn hlc hlb
  by_cases h20 : 2000 < n
  case pos =>
    have h20' : (2000 : Int) < (n : Int) := by omega
    go_enter Try.func7, Try.ntmps7
    go_wp2_with fail
    refine (alive5_any _).mono ?_
    rintro e w1 ⟨rfl, hb1⟩
    go_wp2_with fail
    go_ret
    exact ⟨rfl, Q0.trans (hb1.mono Q0.size)⟩
  case neg =>
    have h20' : ¬ (2000 : Int) < (n : Int) := by omega
    go_enter Try.func7, Try.ntmps7
    go_wp2_with fail
    generalize hW : w.alloc (.cells (placeA key nonce count) 26) = wa at *
    clear hW
    refine (alive5_any wa).mono ?_
    rintro e w1 ⟨rfl, hb1⟩
    have B0 := A0.under hb1
    have Q1 := Q0.trans (hb1.mono Q0.size)
    clear A0 Q0 hb1
    go_wp2_with (first | ((with_reducible refine wv_val (d := 15) ?hd ?hw (.pointer (some ⟨w.heap.size, 0, none⟩)) ?hr ?_); (case hd => rfl); (case hw => kernel_rfl); (case hr => intro w; kernel_rfl); simp only [Act.put, List.setIfInBounds_toArray, List.set_cons_succ, List.set_cons_zero]) | ((with_reducible refine wv_partA (d := 16) ?hd ?hw 22 (.tmp 15) ?ho (w.heap.size) 0 ?hx (t' := 26) (placeA key nonce count) (ints .u8 key) 32 5 Try.underlying22 ?hs ?hg ?hp ?_); (case hd => rfl); (case hw => kernel_rfl); (case ho => rfl); (case hx => kernel_rfl); (case hs => rw [ints_size, LK.out]; exact t32_info); (case hg => exact B0); (case hp => exact place_key _ _ _); simp only [Act.put, List.setIfInBounds_toArray, List.set_cons_succ, List.set_cons_zero]) | ((with_reducible refine wv_val (d := 17) ?hd ?hw (.pointer (some ⟨w.heap.size, 32, none⟩)) ?hr ?_); (case hd => rfl); (case hw => kernel_rfl); (case hr => intro w; kernel_rfl); simp only [Act.put, List.setIfInBounds_toArray, List.set_cons_succ, List.set_cons_zero]) | ((with_reducible refine wv_partA (d := 18) ?hd ?hw 23 (.tmp 17) ?ho (w.heap.size) 32 ?hx (t' := 26) (placeA key nonce count) (ints .u8 nonce) 12 5 Try.underlying23 ?hs ?hg ?hp ?_); (case hd => rfl); (case hw => kernel_rfl); (case ho => rfl); (case hx => kernel_rfl); (case hs => rw [ints_size, LN.out]; exact i12_info); (case hg => exact B0); (case hp => exact place_non _ _ _ LK.out); simp only [Act.put, List.setIfInBounds_toArray, List.set_cons_succ, List.set_cons_zero]) | ((with_reducible refine wv_val (d := 19) ?hd ?hw (.pointer (some ⟨w.heap.size, 44, none⟩)) ?hr ?_); (case hd => rfl); (case hw => kernel_rfl); (case hr => intro w; kernel_rfl); simp only [Act.put, List.setIfInBounds_toArray, List.set_cons_succ, List.set_cons_zero]) | ((with_reducible refine wv_elem (d := 20) ?hd ?hw 24 ag_u32 (.tmp 19) ?ho (⟨w.heap.size, 44, none⟩) ?hx (.int .u32 (count : Int)) ?hc ?_); (case hd => rfl); (case hw => kernel_rfl); (case ho => rfl); (case hx => kernel_rfl); (case hc => exact B0.cell (place_cnt _ _ _ LK.out LN.out)); simp only [Act.put, List.setIfInBounds_toArray, List.set_cons_succ, List.set_cons_zero]))
    refine (CX.out w1 Q1 (by omega)).mono ?_
    rintro e w2 ⟨hb2, v, ⟨hok, rfl, hv⟩ | ⟨hend, rfl, rfl⟩⟩
    case inr =>
      go_wp2_with fail
      go_ret
      exact ⟨rfl, Q1.trans (hb2.mono Q1.size)⟩
    case inl =>
      have C0 := B0.under hb2
      have Q2 := Q1.trans (hb2.mono Q1.size)
      have VX : Kept _ := ⟨hv⟩
      obtain ⟨px, cx, rfl, _, _⟩ := hv
      rw [encL_len, ← EN.out] at VX ⊢
      obtain ⟨X, hX⟩ : ∃ X, X = encL key nonce count b := ⟨_, rfl⟩
      rw [← hX] at VX
      have EX : Kept _ := ⟨hX⟩
      clear B0 Q1 hb2 hX CX
      go_wp2_with fail
      go_loopg [31] n (fun k s31 wr => ∃ i : Nat, i + k = n ∧ s31 = .int .i64 (i : Int) ∧ Below w.heap.size w wr ∧ Blk wr w.heap.size 26 (placeA key nonce count) ∧ Kept (BytesV (.slice px n cx) wr X))
      case atStart => exact ⟨0, by omega, rfl, Q2, C0, VX⟩
      case round =>
        clear C0 Q2 VX
        obtain ⟨i, hik, rfl, HB, C0, VX⟩ := hrel
        by_cases hi : i < n
        case pos =>
          have hi' : (i : Int) < (n : Int) := by omega
          obtain ⟨x, hx⟩ : ∃ x, b[i]? = some x := ⟨_, List.getElem?_eq_getElem (by have := EN.out; omega)⟩
          obtain ⟨q, hq⟩ : ∃ q, q = i / 64 := ⟨_, rfl⟩
          obtain ⟨r, hr⟩ : ∃ q, q = i % 64 := ⟨_, rfl⟩
          obtain ⟨ci, hci⟩ : ∃ z, z = (count + q) % 4294967296 := ⟨_, rfl⟩
          have hci2 : ci = count + q := by rw [hci]; exact Nat.mod_eq_of_lt (by omega)
          have hci4 : ci < 4294967296 := by omega
          have hq32 : q < 4294967296 := by omega
          have r64 : r < 64 := by omega
          obtain ⟨KB, hKB⟩ : ∃ K, K = blockL key nonce ci := ⟨_, rfl⟩
          obtain ⟨y, hy⟩ : ∃ y, y = KB.getD r 0 := ⟨_, rfl⟩
          obtain ⟨z, hz⟩ : ∃ z, z = x ^^^ y := ⟨_, rfl⟩
          have hx8 : x < 256 := KYB.out i x hx
          have hy8 : y < 256 := by rw [hy, hKB]; exact byte_getD (blockL_bytes _ _ _) _
          have LKB : Kept (KB.length = 64) := ⟨by rw [hKB]; exact blockL_len _ _ _⟩
          have GY : Kept ((ints .u8 KB)[r]? = some (.int .u8 (y : Int))) := ⟨ints_get (by rw [hy, List.getD_eq_getElem?_getD, List.getElem?_eq_getElem (by rw [LKB.out]; exact r64)]; rfl)⟩
          have gz : X[i]? = some z := by
            rw [EX.out, encL_get _ _ _ _ _ _ hx, hz, hy, hKB, hci2, hq, hr]
            rfl
          obtain ⟨AX, rfl, _, _⟩ := bytes_at VX.out gz
          obtain ⟨AB, rfl, _, _⟩ := bytes_at KV.out hx
          have Cbk : Kept (Calls Try.prog 11 #[.agg (ints .u8 key), .agg (ints .u8 nonce), .int .u32 (ci : Int)] wr fun e w2 => e = .returned (.agg (ints .u8 KB)) ∧ Below wr.heap.size wr w2) := ⟨by rw [hKB]; exact CBK.out ci wr hci4⟩
          have Eq : Kept _ := ⟨hq⟩
          have Er : Kept _ := ⟨hr⟩
          have Ec : Kept _ := ⟨hci⟩
          have Ez : Kept _ := ⟨hz⟩
          have Gx : Kept _ := ⟨hx⟩
          have Gz : Kept _ := ⟨gz⟩
          clear hx hq hr hci hci2 hKB hy hz gz
          go_wp2_with (first | ((with_reducible refine wv_val (d := 34) ?hd ?hw (.pointer (some ⟨w.heap.size, 0, none⟩)) ?hr ?_); (case hd => rfl); (case hw => kernel_rfl); (case hr => intro w; kernel_rfl); simp only [Act.put, List.setIfInBounds_toArray, List.set_cons_succ, List.set_cons_zero]) | ((with_reducible refine wv_partA (d := 35) ?hd ?hw 22 (.tmp 34) ?ho (w.heap.size) 0 ?hx (t' := 26) (placeA key nonce count) (ints .u8 key) 32 5 Try.underlying22 ?hs ?hg ?hp ?_); (case hd => rfl); (case hw => kernel_rfl); (case ho => rfl); (case hx => kernel_rfl); (case hs => rw [ints_size, LK.out]; exact t32_info); (case hg => exact C0); (case hp => exact place_key _ _ _); simp only [Act.put, List.setIfInBounds_toArray, List.set_cons_succ, List.set_cons_zero]) | ((with_reducible refine wv_val (d := 36) ?hd ?hw (.pointer (some ⟨w.heap.size, 32, none⟩)) ?hr ?_); (case hd => rfl); (case hw => kernel_rfl); (case hr => intro w; kernel_rfl); simp only [Act.put, List.setIfInBounds_toArray, List.set_cons_succ, List.set_cons_zero]) | ((with_reducible refine wv_partA (d := 37) ?hd ?hw 23 (.tmp 36) ?ho (w.heap.size) 32 ?hx (t' := 26) (placeA key nonce count) (ints .u8 nonce) 12 5 Try.underlying23 ?hs ?hg ?hp ?_); (case hd => rfl); (case hw => kernel_rfl); (case ho => rfl); (case hx => kernel_rfl); (case hs => rw [ints_size, LN.out]; exact i12_info); (case hg => exact C0); (case hp => exact place_non _ _ _ LK.out); simp only [Act.put, List.setIfInBounds_toArray, List.set_cons_succ, List.set_cons_zero]) | ((with_reducible refine wv_val (d := 38) ?hd ?hw (.pointer (some ⟨w.heap.size, 44, none⟩)) ?hr ?_); (case hd => rfl); (case hw => kernel_rfl); (case hr => intro w; kernel_rfl); simp only [Act.put, List.setIfInBounds_toArray, List.set_cons_succ, List.set_cons_zero]) | ((with_reducible refine wv_elem (d := 39) ?hd ?hw 24 ag_u32 (.tmp 38) ?ho (⟨w.heap.size, 44, none⟩) ?hx (.int .u32 (count : Int)) ?hc ?_); (case hd => rfl); (case hw => kernel_rfl); (case ho => rfl); (case hx => kernel_rfl); (case hc => exact C0.cell (place_cnt _ _ _ LK.out LN.out)); simp only [Act.put, List.setIfInBounds_toArray, List.set_cons_succ, List.set_cons_zero]) | ((with_reducible refine wv_val (d := 41) ?hd ?hw (.int .i64 (q : Int)) ?hr ?_); (case hd => rfl); (case hw => kernel_rfl); (case hr => intro w; exact run_quo64 rfl (by kernel_rfl) Eq.out (by omega) w); simp only [Act.put, List.setIfInBounds_toArray, List.set_cons_succ, List.set_cons_zero]) | ((with_reducible refine wv_val (d := 42) ?hd ?hw (.int .u32 (q : Int)) ?hr ?_); (case hd => rfl); (case hw => kernel_rfl); (case hr => intro w; exact run_c332 rfl (by kernel_rfl) hq32 w); simp only [Act.put, List.setIfInBounds_toArray, List.set_cons_succ, List.set_cons_zero]) | ((with_reducible refine wv_val (d := 43) ?hd ?hw (.int .u32 (ci : Int)) ?hr ?_); (case hd => rfl); (case hw => kernel_rfl); (case hr => intro w; exact run_add32 rfl (by kernel_rfl) (by kernel_rfl) Ec.out w); simp only [Act.put, List.setIfInBounds_toArray, List.set_cons_succ, List.set_cons_zero]))
          refine Cbk.out.mono ?_
          rintro e w4 ⟨rfl, hb4⟩
          have D0 := C0.under hb4
          have HB4 := HB.trans (hb4.mono HB.size)
          have VX4 : Kept _ := ⟨VX.out.under hb4⟩
          have sz4 : w.heap.size < w4.heap.size := D0.lt
          clear C0 HB hb4 VX Cbk
          go_wp2_with (first | (refine wl_store rfl 34 (.tmp 8) (.tmp 44) rfl w4.heap.size (ints .u8 KB) rfl rfl _ (blk_new w4 _ _) (by rw [ints_size, LKB.out]; exact i64_inf2) (by rw [ints_size, LKB.out]; rfl) (ints_one _ _) ?_))
          intro w6 D8 P6
          have E0 := P6.blk (D0.alloc _) (by omega)
          have HB6 := (HB4.alloc HB4.size _).trans (P6.below (by omega))
          have VX6 : Kept (BytesV (.slice (some AX) n cx) w6 X) := ⟨VX4.out.under (((Below.refl w4.heap.size w4).alloc (Nat.le_refl _) _).trans (P6.below (Nat.le_refl _)))⟩
          generalize hg8 : w4.heap.size = g8 at *
          clear D0 HB4 VX4 P6
          have CX : Kept (∀ w', Below w6.heap.size w6 w' → w'.cell? (AX.add i) = some (.int .u8 (z : Int))) := ⟨fun w' hb => bytes_cell (VX6.out.under hb) Gz.out⟩
          have CB : Kept (∀ w', Below w6.heap.size w6 w' → w'.cell? (AB.add i) = some (.int .u8 (x : Int))) := ⟨fun w' hb => bytes_cell ((KV.out.under HB6).under hb) Gx.out⟩
          go_wp2_with fail
          refine region_ownL w6 14 [(45, .slice (some AX) n cx), (46, .int .i64 (i : Int)), (47, .pointer (some (AX.add i))), (48, .int .u8 (z : Int)), (49, .slice (some AB) n cb), (50, .int .i64 (i : Int)), (51, .pointer (some (AB.add i))), (52, .int .u8 (x : Int)), (53, .int .i64 (i : Int)), (54, .int .i64 (r : Int)), (55, .pointer (some ⟨g8, r, none⟩)), (56, .int .u8 (y : Int)), (57, .int .u8 (z : Int)), (58, .bool false)] [] [] [] rfl (by kernel_rfl) (by kernel_rfl) (by kernel_rfl) (by kernel_rfl) (by kernel_rfl) (by kernel_rfl) (by kernel_rfl) (by kernel_rfl) (by kernel_rfl) (by kernel_rfl) (by kernel_rfl) ?hst1 ?hst2 (Below.refl _ _) (fun hA => ⟨ow_val hA (wants_none rfl) 45 (.slice (some AX) n cx) (by kernel_rfl) rfl rfl rfl rfl (by kernel_rfl) (fun w => by kernel_rfl), ow_val hA (wants_none rfl) 46 (.int .i64 (i : Int)) (by kernel_rfl) rfl rfl rfl rfl (by kernel_rfl) (fun w => by kernel_rfl), ow_val hA (wants_none rfl) 47 (.pointer (some (AX.add i))) (by kernel_rfl) rfl rfl rfl rfl (by kernel_rfl) (fun w => run_idxS (A := AX) (i := i) (l := n) (c := cx) rfl (by kernel_rfl) (by kernel_rfl) Try.underlying27 hi sz_u8 w), ow_elem hA (wants_none rfl) 48 (.int .u8 (z : Int)) (by kernel_rfl) rfl rfl rfl rfl (by kernel_rfl) 5 ag_u8 (.tmp 47) rfl (AX.add i) (by kernel_rfl) (fun w1 hb => CX.out w1 hb), ow_val hA (wants_none rfl) 49 (.slice (some AB) n cb) (by kernel_rfl) rfl rfl rfl rfl (by kernel_rfl) (fun w => by kernel_rfl), ow_val hA (wants_none rfl) 50 (.int .i64 (i : Int)) (by kernel_rfl) rfl rfl rfl rfl (by kernel_rfl) (fun w => by kernel_rfl), ow_val hA (wants_none rfl) 51 (.pointer (some (AB.add i))) (by kernel_rfl) rfl rfl rfl rfl (by kernel_rfl) (fun w => run_idxS (A := AB) (i := i) (l := n) (c := cb) rfl (by kernel_rfl) (by kernel_rfl) Try.underlying27 hi sz_u8 w), ow_elem hA (wants_none rfl) 52 (.int .u8 (x : Int)) (by kernel_rfl) rfl rfl rfl rfl (by kernel_rfl) 5 ag_u8 (.tmp 51) rfl (AB.add i) (by kernel_rfl) (fun w1 hb => CB.out w1 hb), ow_val hA (wants_none rfl) 53 (.int .i64 (i : Int)) (by kernel_rfl) rfl rfl rfl rfl (by kernel_rfl) (fun w => by kernel_rfl), ow_val hA (wants_none rfl) 54 (.int .i64 (r : Int)) (by kernel_rfl) rfl rfl rfl rfl (by kernel_rfl) (fun w => run_rem64 (i := i) rfl (by kernel_rfl) Er.out (by omega) w), ow_val hA (wants_none rfl) 55 (.pointer (some ⟨g8, r, none⟩)) (by kernel_rfl) rfl rfl rfl rfl (by kernel_rfl) (fun w => run_idx (i := r) rfl (by kernel_rfl) (by kernel_rfl) Try.underlying34 r64 sz_u8 w), ow_elem hA (wants_none rfl) 56 (.int .u8 (y : Int)) (by kernel_rfl) rfl rfl rfl rfl (by kernel_rfl) 5 ag_u8 (.tmp 55) rfl (⟨g8, r, none⟩) (by kernel_rfl) (fun w1 hb => (D8.under hb).cell GY.out), ow_val hA (wants_none rfl) 57 (.int .u8 (z : Int)) (by kernel_rfl) rfl rfl rfl rfl (by kernel_rfl) (fun w => run_xorV (m := x) (n := y) rfl (by kernel_rfl) (by kernel_rfl) hx8 hy8 Ez.out w), ow_val hA (wants_none rfl) 58 (.bool false) (by kernel_rfl) rfl rfl rfl rfl (by kernel_rfl) (fun w => run_neq8 (m := z) rfl (by kernel_rfl) (by kernel_rfl) w), trivial⟩) ?_
          case hst1 => intro q hq; cases hq
          case hst2 => intro q hq; cases hq
          intro fv w7 hf hD hb7
          simp only [putR, List.foldl_cons, List.foldl_nil, List.map_cons, List.map_nil, Act.put, List.setIfInBounds_toArray, List.set_cons_succ, List.set_cons_zero]
          clear hf hD CX CB
          have F0 := E0.under hb7
          have HB7 := HB6.trans (hb7.mono HB6.size)
          have VX7 : Kept _ := ⟨VX6.out.under hb7⟩
          clear E0 HB6 VX6 hb7 D8
          refine (show wpList _ _ _ [] _ _ from ?_)
          refine wpList_nil ?_
          go_wp2_with fail
          go_roundg (gk - 1)
          case measure => omega
          case rel => exact ⟨i + 1, by omega, by simp, HB7, F0, VX7⟩
        case neg =>
          have hi' : ¬ (i : Int) < (n : Int) := by omega
          clear C0 VX
          go_wp2_with fail
          go_ret
          exact ⟨rfl, HB⟩
end Go.Proofs.Ythieljiplhhdeaa.sh
