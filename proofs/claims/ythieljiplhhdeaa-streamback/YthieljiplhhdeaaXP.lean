/-
  StreamBack: turned twice bytes are as they were; beginnings are turned alike, and pieces of whole blocks one by one.
-/
import Derived.Test.YthieljiplhhdeaaXN
import Derived.Test.YthieljiplhhdeaaXU
namespace Go.Proofs.Ythieljiplhhdeaa.sh
open Go Go.RowKit
set_option linter.unusedVariables false
set_option linter.unusedSimpArgs false

theorem run_rem20 {o : Oper} {a : Act} {x : Operand} {i z : Nat} (ho : o.op = .binOp .rem 5 x (.const (.int .u8 20)) 5) (hx : a.eval x = .int .u8 (i : Int)) (hz : z = i % 20) (w : World) : (execOp a.eval o).run Try.prog w = .ok (.value (.int .u8 (z : Int))) w := by
  have e3 : a.eval (.const (.int .u8 20)) = .int .u8 20 := rfl
  have h3 : (i : Int).tmod 20 = (z : Int) := by rw [hz, Int.tmod_eq_emod_of_nonneg (by omega)]; omega
  unfold execOp
  simp only [ho, hx, e3]
  simp [go_sem, h3]
theorem cut_from {o : Oper} {a : Act} {x y : Operand} {p pf : Option Addr} {l c k mm cc : Nat} {t e : TypeId} (ho : o.op = .slice t x (some y) none none) (hx : a.eval x = .slice p l c) (hy : a.eval y = .int .i64 (k : Int)) (ht : Try.prog.underlying t = some (.slice e)) (sz : ∀ w, (sizeOf e).run Try.prog w = .ok 1 w) (hk : k ≤ l) (hpf : pf = if c = k then p else p.map (·.add k)) (hmm : mm = l - k) (hcc : cc = c - k) (w : World) :
    (execOp a.eval o).run Try.prog w = .ok (.value (.slice pf mm cc)) w := by
  rw [hpf, hmm, hcc]
  exact cut_run ho hx hy ht sz hk w
theorem nat_u8 {y : Int} (h : (Lit.int .u8 y).wf = true) : ∃ a : Nat, y = (a : Int) ∧ a < 256 := by
  have := bounds_u8 h
  exact ⟨y.toNat, by omega, by omega⟩
theorem slice_len {p : Option Addr} {n c : Nat} {w : World} {bs : List Nat} (h : BytesV (.slice p n c) w bs) : bs.length = n ∧ n ≤ c := by
  obtain ⟨p', c', e1, e2, _⟩ := h
  simp only [Value.slice.injEq] at e1
  omega
set_option maxRecDepth 100000 in
set_option maxHeartbeats 4000000 in
theorem back5_any (key nonce : List Nat) (count : Nat) (vb : Value) (b : List Nat) (y2 : Int) (w : World) (hk : key.length = 32) (hy : Bytes key) (hnl : nonce.length = 12) (hyn : Bytes nonce) (hc : count < 4294967296) (hvb : BytesV vb w b) (hyb : Bytes b) (hlb : b.length ≤ maxLen) (h2 : (Lit.int .u8 y2).wf = true) :
    Calls Try.prog 4 #[.agg (placeA key nonce count), vb, .int .u8 y2] w fun e w' => e = .returned (.bool true) ∧ Below w.heap.size w w' := by
  obtain ⟨y, rfl, hy8⟩ := nat_u8 h2
  have KV : Kept _ := ⟨hvb⟩
  obtain ⟨pb, cb, rfl, hlc, _⟩ := hvb
  obtain ⟨n, hn⟩ : ∃ n, n = b.length := ⟨_, rfl⟩
  rw [← hn] at KV hlc ⊢
  have EN : Kept _ := ⟨hn⟩
  have LK : Kept _ := ⟨hk⟩
  have LN : Kept _ := ⟨hnl⟩
  have A0 : Blk (w.alloc (.cells (placeA key nonce count) 26)) w.heap.size 26 (placeA key nonce count) := blk_new _ _ _
  have Q0 := place_below w (placeA key nonce count)
  have CX : Kept (∀ (w' : World) (v : Value) (l : List Nat) (ct : Nat), BytesV v w' l → Bytes l → ct < 4294967296 → l.length ≤ 65536 → ct + (l.length + 63) / 64 ≤ 4294967296 → Calls Try.prog 9 #[.agg (ints .u8 key), .agg (ints .u8 nonce), .int .u32 (ct : Int), v] w' fun e w2 => ∃ v, e = .returned (.tuple #[v, .int .i64 0]) ∧ BytesV v w2 (encL key nonce ct l) ∧ Below w'.heap.size w' w2) := ⟨fun w' v l ct h1 h2 h3 h4 h5 => by
    refine (Xor_ok key nonce l ct v w' hk hy hnl hyn h2 h1 h3 h4 h5).mono ?_
    rintro e w2 ⟨v, rfl, hr, hb⟩
    exact ⟨v, rfl, row_bytes hr, hb⟩⟩
  have KYB : Kept _ := ⟨hyb⟩
  by_cases h20 : 2000 < n
  case pos =>
    have h20' : (2000 : Int) < (n : Int) := by omega
    clear hk hy hnl hyn hyb hn hlc hlb h2
    go_enter Try.func4, Try.ntmps4
    go_wp2_with fail
    refine (alive5_any _).mono ?_
    rintro e w1 ⟨rfl, hb1⟩
    go_wp2_with fail
    go_ret
    exact ⟨rfl, Q0.trans (hb1.mono Q0.size)⟩
  case neg =>
  have h20' : ¬ (2000 : Int) < (n : Int) := by omega
  by_cases hend : 4294967296 < count + (n + 63) / 64
  case pos =>
    obtain ⟨n3, h3⟩ : ∃ q, q = n + 63 := ⟨_, rfl⟩
    obtain ⟨B, hB⟩ : ∃ B, B = n3 / 64 := ⟨_, rfl⟩
    obtain ⟨S, hS⟩ : ∃ S, S = count + B := ⟨_, rfl⟩
    have hBB : Kept (true = decide (4294967296 < S)) := ⟨(decide_eq_true (by omega)).symm⟩
    have HS : Kept _ := ⟨hS⟩
    have HB : Kept _ := ⟨hB⟩
    have E3 : Kept _ := ⟨h3⟩
    have n362 : n3 < 4611686018427387904 := by omega
    have hB62 : B < 4611686018427387904 := by omega
    have hS62 : S < 4611686018427387904 := by omega
    have CE : Kept (∀ (w' : World), Below w.heap.size w w' → Calls Try.prog 9 #[.agg (ints .u8 key), .agg (ints .u8 nonce), .int .u32 (count : Int), .slice pb n cb] w' fun e w2 => e = .returned (.tuple #[.slice none 0 0, .int .i64 12]) ∧ Below w'.heap.size w' w2) := ⟨fun w' hb => Xor_end key nonce b count _ w' (KV.out.under hb) hc (by omega) (by rw [← hn]; exact hend)⟩
    clear hk hy hnl hyn hyb hn hlc hlb h2 h3 hB hS hend CX
    go_enter Try.func4, Try.ntmps4
    go_wp2_with fail
    generalize hW : w.alloc (.cells (placeA key nonce count) 26) = wa at *
    clear hW
    refine (alive5_any wa).mono ?_
    rintro e w1 ⟨rfl, hb1⟩
    have B0 := A0.under hb1
    have Q1 := Q0.trans (hb1.mono Q0.size)
    clear A0 Q0 hb1
    go_wp2_with (first | ((with_reducible refine wv_val (d := 22) ?hd ?hw (.pointer (some ⟨w.heap.size, 0, none⟩)) ?hr ?_); (case hd => rfl); (case hw => kernel_rfl); (case hr => intro w; kernel_rfl); simp only [Act.put, List.setIfInBounds_toArray, List.set_cons_succ, List.set_cons_zero]) | ((with_reducible refine wv_partA (d := 23) ?hd ?hw 22 (.tmp 22) ?ho (w.heap.size) 0 ?hx (t' := 26) (placeA key nonce count) (ints .u8 key) 32 5 Try.underlying22 ?hs ?hg ?hp ?_); (case hd => rfl); (case hw => kernel_rfl); (case ho => rfl); (case hx => kernel_rfl); (case hs => rw [ints_size, LK.out]; exact t32_info); (case hg => exact B0); (case hp => exact place_key _ _ _); simp only [Act.put, List.setIfInBounds_toArray, List.set_cons_succ, List.set_cons_zero]) | ((with_reducible refine wv_val (d := 24) ?hd ?hw (.pointer (some ⟨w.heap.size, 32, none⟩)) ?hr ?_); (case hd => rfl); (case hw => kernel_rfl); (case hr => intro w; kernel_rfl); simp only [Act.put, List.setIfInBounds_toArray, List.set_cons_succ, List.set_cons_zero]) | ((with_reducible refine wv_partA (d := 25) ?hd ?hw 23 (.tmp 24) ?ho (w.heap.size) 32 ?hx (t' := 26) (placeA key nonce count) (ints .u8 nonce) 12 5 Try.underlying23 ?hs ?hg ?hp ?_); (case hd => rfl); (case hw => kernel_rfl); (case ho => rfl); (case hx => kernel_rfl); (case hs => rw [ints_size, LN.out]; exact i12_info); (case hg => exact B0); (case hp => exact place_non _ _ _ LK.out); simp only [Act.put, List.setIfInBounds_toArray, List.set_cons_succ, List.set_cons_zero]) | ((with_reducible refine wv_val (d := 26) ?hd ?hw (.pointer (some ⟨w.heap.size, 44, none⟩)) ?hr ?_); (case hd => rfl); (case hw => kernel_rfl); (case hr => intro w; kernel_rfl); simp only [Act.put, List.setIfInBounds_toArray, List.set_cons_succ, List.set_cons_zero]) | ((with_reducible refine wv_elem (d := 27) ?hd ?hw 24 ag_u32 (.tmp 26) ?ho (⟨w.heap.size, 44, none⟩) ?hx (.int .u32 (count : Int)) ?hc ?_); (case hd => rfl); (case hw => kernel_rfl); (case ho => rfl); (case hx => kernel_rfl); (case hc => exact B0.cell (place_cnt _ _ _ LK.out LN.out)); simp only [Act.put, List.setIfInBounds_toArray, List.set_cons_succ, List.set_cons_zero]))
    refine (CE.out w1 Q1).mono ?_
    rintro e w2 ⟨rfl, hb2⟩
    have C0 := B0.under hb2
    have Q2 := Q1.trans (hb2.mono Q1.size)
    clear B0 Q1 hb2 CE
    go_wp2_with (first | ((with_reducible refine wv_val (d := 36) ?hd ?hw (.pointer (some ⟨w.heap.size, 44, none⟩)) ?hr ?_); (case hd => rfl); (case hw => kernel_rfl); (case hr => intro w; kernel_rfl); simp only [Act.put, List.setIfInBounds_toArray, List.set_cons_succ, List.set_cons_zero]) | ((with_reducible refine wv_elem (d := 37) ?hd ?hw 24 ag_u32 (.tmp 36) ?ho (⟨w.heap.size, 44, none⟩) ?hx (.int .u32 (count : Int)) ?hc ?_); (case hd => rfl); (case hw => kernel_rfl); (case ho => rfl); (case hx => kernel_rfl); (case hc => exact C0.cell (place_cnt _ _ _ LK.out LN.out)); simp only [Act.put, List.setIfInBounds_toArray, List.set_cons_succ, List.set_cons_zero]) | ((with_reducible refine wv_val (d := 45) ?hd ?hw (.bool true) ?hr ?_); (case hd => rfl); (case hw => kernel_rfl); (case hr => intro w; exact run_gtr64c rfl (by kernel_rfl) hBB.out w); simp only [Act.put, List.setIfInBounds_toArray, List.set_cons_succ, List.set_cons_zero]) | ((with_reducible refine wv_val (d := 38) ?hd ?hw (.int .u64 (count : Int)) ?hr ?_); (case hd => rfl); (case hw => kernel_rfl); (case hr => intro w; exact run_c3264 rfl (by kernel_rfl) hc w); simp only [Act.put, List.setIfInBounds_toArray, List.set_cons_succ, List.set_cons_zero]) | ((with_reducible refine wv_val (d := 41) ?hd ?hw (.int .i64 (n3 : Int)) ?hr ?_); (case hd => rfl); (case hw => kernel_rfl); (case hr => intro w; exact run_addZ 63 rfl (by kernel_rfl) E3.out n362 w); simp only [Act.put, List.setIfInBounds_toArray, List.set_cons_succ, List.set_cons_zero]) | ((with_reducible refine wv_val (d := 42) ?hd ?hw (.int .i64 (B : Int)) ?hr ?_); (case hd => rfl); (case hw => kernel_rfl); (case hr => intro w; exact run_quo64 rfl (by kernel_rfl) HB.out n362 w); simp only [Act.put, List.setIfInBounds_toArray, List.set_cons_succ, List.set_cons_zero]) | ((with_reducible refine wv_val (d := 43) ?hd ?hw (.int .u64 (B : Int)) ?hr ?_); (case hd => rfl); (case hw => kernel_rfl); (case hr => intro w; exact run_c364 rfl (by kernel_rfl) hB62 w); simp only [Act.put, List.setIfInBounds_toArray, List.set_cons_succ, List.set_cons_zero]) | ((with_reducible refine wv_val (d := 44) ?hd ?hw (.int .u64 (S : Int)) ?hr ?_); (case hd => rfl); (case hw => kernel_rfl); (case hr => intro w; exact run_add64 rfl (by kernel_rfl) (by kernel_rfl) HS.out hS62 w); simp only [Act.put, List.setIfInBounds_toArray, List.set_cons_succ, List.set_cons_zero]))
    go_ret
    exact ⟨rfl, Q2⟩
  case neg =>
    obtain ⟨X, hX⟩ : ∃ X, X = encL key nonce count b := ⟨_, rfl⟩
    have LX : Kept (X.length = n) := ⟨by rw [hX, encL_len, ← hn]⟩
    have YX : Kept (Bytes X) := ⟨by rw [hX]; exact encL_bytes _ _ _ hyb⟩
    have EX : Kept _ := ⟨hX⟩
    obtain ⟨c20, hc20⟩ : ∃ c, c = y % 20 := ⟨_, rfl⟩
    obtain ⟨q, hq⟩ : ∃ q, q = 64 * c20 := ⟨_, rfl⟩
    obtain ⟨k, hk'⟩ : ∃ k, k = min q n := ⟨_, rfl⟩
    have Ec20 : Kept _ := ⟨hc20⟩
    have Eq64 : Kept _ := ⟨hq⟩
    have Ek : Kept _ := ⟨hk'⟩
    have c20lt : c20 < 20 := by omega
    have q62 : q < 2000 := by omega
    have hkn : k ≤ n := by omega
    have hkcb : k ≤ cb := by omega
    obtain ⟨UU, hUU⟩ : ∃ U, U = encL key nonce count (b.take k) := ⟨_, rfl⟩
    have EUX : Kept (UU = X.take k) := ⟨by rw [hUU, hX, encL_take]⟩
    have EUU : Kept _ := ⟨hUU⟩
    have hok : Kept (count + (n + 63) / 64 ≤ 4294967296) := ⟨by omega⟩
    have HC : Kept (count < 4294967296) := ⟨hc⟩
    clear hk hy hnl hyn hyb hn hlc hlb h2 hX hc20 hq hk' hUU hend
    go_enter Try.func4, Try.ntmps4
    go_wp2_with fail
    generalize hW : w.alloc (.cells (placeA key nonce count) 26) = wa at *
    clear hW
    refine (alive5_any wa).mono ?_
    rintro e w1 ⟨rfl, hb1⟩
    have B0 := A0.under hb1
    have Q1 := Q0.trans (hb1.mono Q0.size)
    clear A0 Q0 hb1
    go_wp2_with (first | ((with_reducible refine wv_val (d := 22) ?hd ?hw (.pointer (some ⟨w.heap.size, 0, none⟩)) ?hr ?_); (case hd => rfl); (case hw => kernel_rfl); (case hr => intro w; kernel_rfl); simp only [Act.put, List.setIfInBounds_toArray, List.set_cons_succ, List.set_cons_zero]) | ((with_reducible refine wv_partA (d := 23) ?hd ?hw 22 (.tmp 22) ?ho (w.heap.size) 0 ?hx (t' := 26) (placeA key nonce count) (ints .u8 key) 32 5 Try.underlying22 ?hs ?hg ?hp ?_); (case hd => rfl); (case hw => kernel_rfl); (case ho => rfl); (case hx => kernel_rfl); (case hs => rw [ints_size, LK.out]; exact t32_info); (case hg => exact B0); (case hp => exact place_key _ _ _); simp only [Act.put, List.setIfInBounds_toArray, List.set_cons_succ, List.set_cons_zero]) | ((with_reducible refine wv_val (d := 24) ?hd ?hw (.pointer (some ⟨w.heap.size, 32, none⟩)) ?hr ?_); (case hd => rfl); (case hw => kernel_rfl); (case hr => intro w; kernel_rfl); simp only [Act.put, List.setIfInBounds_toArray, List.set_cons_succ, List.set_cons_zero]) | ((with_reducible refine wv_partA (d := 25) ?hd ?hw 23 (.tmp 24) ?ho (w.heap.size) 32 ?hx (t' := 26) (placeA key nonce count) (ints .u8 nonce) 12 5 Try.underlying23 ?hs ?hg ?hp ?_); (case hd => rfl); (case hw => kernel_rfl); (case ho => rfl); (case hx => kernel_rfl); (case hs => rw [ints_size, LN.out]; exact i12_info); (case hg => exact B0); (case hp => exact place_non _ _ _ LK.out); simp only [Act.put, List.setIfInBounds_toArray, List.set_cons_succ, List.set_cons_zero]) | ((with_reducible refine wv_val (d := 26) ?hd ?hw (.pointer (some ⟨w.heap.size, 44, none⟩)) ?hr ?_); (case hd => rfl); (case hw => kernel_rfl); (case hr => intro w; kernel_rfl); simp only [Act.put, List.setIfInBounds_toArray, List.set_cons_succ, List.set_cons_zero]) | ((with_reducible refine wv_elem (d := 27) ?hd ?hw 24 ag_u32 (.tmp 26) ?ho (⟨w.heap.size, 44, none⟩) ?hx (.int .u32 (count : Int)) ?hc ?_); (case hd => rfl); (case hw => kernel_rfl); (case ho => rfl); (case hx => kernel_rfl); (case hc => exact B0.cell (place_cnt _ _ _ LK.out LN.out)); simp only [Act.put, List.setIfInBounds_toArray, List.set_cons_succ, List.set_cons_zero]))
    refine (CX.out w1 _ b count (KV.out.under Q1) KYB.out HC.out (by rw [← EN.out]; omega) (by rw [← EN.out]; exact hok.out)).mono ?_
    rintro e w2 ⟨v, rfl, hv, hb2⟩
    rw [← EX.out] at hv
    have C0 := B0.under hb2
    have Q2 := Q1.trans (hb2.mono Q1.size)
    have VX2 : Kept _ := ⟨hv⟩
    obtain ⟨px, cx, rfl, hlx, _⟩ := hv
    rw [LX.out] at VX2 hlx ⊢
    have hkcx : k ≤ cx := by omega
    clear B0 Q1 hb2 hlx
    go_wp2_with (first | ((with_reducible refine wv_val (d := 53) ?hd ?hw (.pointer (some ⟨w.heap.size, 0, none⟩)) ?hr ?_); (case hd => rfl); (case hw => kernel_rfl); (case hr => intro w; kernel_rfl); simp only [Act.put, List.setIfInBounds_toArray, List.set_cons_succ, List.set_cons_zero]) | ((with_reducible refine wv_partA (d := 54) ?hd ?hw 22 (.tmp 53) ?ho (w.heap.size) 0 ?hx (t' := 26) (placeA key nonce count) (ints .u8 key) 32 5 Try.underlying22 ?hs ?hg ?hp ?_); (case hd => rfl); (case hw => kernel_rfl); (case ho => rfl); (case hx => kernel_rfl); (case hs => rw [ints_size, LK.out]; exact t32_info); (case hg => exact C0); (case hp => exact place_key _ _ _); simp only [Act.put, List.setIfInBounds_toArray, List.set_cons_succ, List.set_cons_zero]) | ((with_reducible refine wv_val (d := 55) ?hd ?hw (.pointer (some ⟨w.heap.size, 32, none⟩)) ?hr ?_); (case hd => rfl); (case hw => kernel_rfl); (case hr => intro w; kernel_rfl); simp only [Act.put, List.setIfInBounds_toArray, List.set_cons_succ, List.set_cons_zero]) | ((with_reducible refine wv_partA (d := 56) ?hd ?hw 23 (.tmp 55) ?ho (w.heap.size) 32 ?hx (t' := 26) (placeA key nonce count) (ints .u8 nonce) 12 5 Try.underlying23 ?hs ?hg ?hp ?_); (case hd => rfl); (case hw => kernel_rfl); (case ho => rfl); (case hx => kernel_rfl); (case hs => rw [ints_size, LN.out]; exact i12_info); (case hg => exact C0); (case hp => exact place_non _ _ _ LK.out); simp only [Act.put, List.setIfInBounds_toArray, List.set_cons_succ, List.set_cons_zero]) | ((with_reducible refine wv_val (d := 57) ?hd ?hw (.pointer (some ⟨w.heap.size, 44, none⟩)) ?hr ?_); (case hd => rfl); (case hw => kernel_rfl); (case hr => intro w; kernel_rfl); simp only [Act.put, List.setIfInBounds_toArray, List.set_cons_succ, List.set_cons_zero]) | ((with_reducible refine wv_elem (d := 58) ?hd ?hw 24 ag_u32 (.tmp 57) ?ho (⟨w.heap.size, 44, none⟩) ?hx (.int .u32 (count : Int)) ?hc ?_); (case hd => rfl); (case hw => kernel_rfl); (case ho => rfl); (case hx => kernel_rfl); (case hc => exact C0.cell (place_cnt _ _ _ LK.out LN.out)); simp only [Act.put, List.setIfInBounds_toArray, List.set_cons_succ, List.set_cons_zero]))
    refine (CX.out w2 _ X count VX2.out YX.out HC.out (by rw [LX.out]; omega) (by rw [LX.out]; exact hok.out)).mono ?_
    rintro e w4 ⟨u9, rfl, hu9, hb4⟩
    have V94 : Kept (BytesV u9 w4 b) := ⟨by rw [EX.out, encL_back] at hu9; exact hu9⟩
    have D0 := C0.under hb4
    have Q4 := Q2.trans (hb4.mono Q2.size)
    have VX4 : Kept _ := ⟨VX2.out.under hb4⟩
    clear C0 Q2 hb4 hu9 VX2
    have CU : Kept (∀ w', Below w4.heap.size w4 w' → Calls Try.prog 9 [.agg (ints .u8 key), .agg (ints .u8 nonce), .int .u32 (count : Int), .slice pb k cb].toArray w' fun e w2 => ∃ v, e = .returned (.tuple #[v, .int .i64 0]) ∧ BytesV v w2 UU ∧ Below w'.heap.size w' w2) := ⟨fun w' hb => by
      rw [EUU.out]
      exact CX.out w' _ (b.take k) count (IntsV.take ((KV.out.under Q4).under hb) (by rw [← EN.out]; exact hkn)) (KYB.out.take k) HC.out (by rw [List.length_take, ← EN.out]; omega) (by rw [List.length_take, ← EN.out]; have := hok.out; omega)⟩
    go_wp2_with (first | ((with_reducible refine wv_val (d := 64) ?hd ?hw (.int .u8 (c20 : Int)) ?hr ?_); (case hd => rfl); (case hw => kernel_rfl); (case hr => intro w; exact run_rem20 rfl (by kernel_rfl) Ec20.out w); simp only [Act.put, List.setIfInBounds_toArray, List.set_cons_succ, List.set_cons_zero]) | ((with_reducible refine wv_val (d := 65) ?hd ?hw (.int .i64 (c20 : Int)) ?hr ?_); (case hd => rfl); (case hw => kernel_rfl); (case hr => intro w; exact run_conv83 rfl (by kernel_rfl) (by omega) w); simp only [Act.put, List.setIfInBounds_toArray, List.set_cons_succ, List.set_cons_zero]) | ((with_reducible refine wv_val (d := 66) ?hd ?hw (.int .i64 (q : Int)) ?hr ?_); (case hd => rfl); (case hw => kernel_rfl); (case hr => intro w; exact run_mulC 64 rfl (by kernel_rfl) Eq64.out (by omega) w); simp only [Act.put, List.setIfInBounds_toArray, List.set_cons_succ, List.set_cons_zero]) | ((with_reducible refine wv_val (d := 69) ?hd ?hw (.int .i64 (k : Int)) ?hr ?_); (case hd => rfl); (case hw => kernel_rfl); (case hr => intro w; exact run_min2 rfl (by kernel_rfl) (by kernel_rfl) Ek.out w); simp only [Act.put, List.setIfInBounds_toArray, List.set_cons_succ, List.set_cons_zero]))
    refine region_ownNL w4 15 [(71, .pointer (some ⟨w.heap.size, 0, none⟩)), (72, .agg (ints .u8 key)), (73, .pointer (some ⟨w.heap.size, 32, none⟩)), (74, .agg (ints .u8 nonce)), (75, .pointer (some ⟨w.heap.size, 44, none⟩)), (76, .int .u32 (count : Int)), (77, .slice pb n cb), (78, .int .i64 (k : Int)), (79, .slice pb k cb), (82, .int .i64 0), (13, .int .i64 0)] [(80, PairV 0 UU), (70, PairV 0 UU), (81, BytesS UU), (12, BytesS UU)] [] [] rfl (by kernel_rfl) (by kernel_rfl) (by kernel_rfl) (by kernel_rfl) (by kernel_rfl) (by kernel_rfl) (by kernel_rfl) (by kernel_rfl) (by kernel_rfl) (by kernel_rfl) (by kernel_rfl) ?hst1 ?hst2 (Below.refl _ _) (fun hA => ⟨ow_val hA (wants_none rfl) 71 (.pointer (some ⟨w.heap.size, 0, none⟩)) (by kernel_rfl) rfl rfl rfl rfl (by kernel_rfl) (fun w => by kernel_rfl), ow_partA hA (wants_none rfl) 72 (.agg (ints .u8 key)) (by kernel_rfl) rfl rfl rfl rfl (by kernel_rfl) 22 (.tmp 71) rfl (w.heap.size) 0 (by kernel_rfl) 26 (placeA key nonce count) (ints .u8 key) 32 5 Try.underlying22 (by rw [ints_size, LK.out]; exact t32_info) (fun w1 hb => D0.under hb) (place_key _ _ _) rfl, ow_val hA (wants_none rfl) 73 (.pointer (some ⟨w.heap.size, 32, none⟩)) (by kernel_rfl) rfl rfl rfl rfl (by kernel_rfl) (fun w => by kernel_rfl), ow_partA hA (wants_none rfl) 74 (.agg (ints .u8 nonce)) (by kernel_rfl) rfl rfl rfl rfl (by kernel_rfl) 23 (.tmp 73) rfl (w.heap.size) 32 (by kernel_rfl) 26 (placeA key nonce count) (ints .u8 nonce) 12 5 Try.underlying23 (by rw [ints_size, LN.out]; exact i12_info) (fun w1 hb => D0.under hb) (place_non _ _ _ LK.out) rfl, ow_val hA (wants_none rfl) 75 (.pointer (some ⟨w.heap.size, 44, none⟩)) (by kernel_rfl) rfl rfl rfl rfl (by kernel_rfl) (fun w => by kernel_rfl), ow_elem hA (wants_none rfl) 76 (.int .u32 (count : Int)) (by kernel_rfl) rfl rfl rfl rfl (by kernel_rfl) 24 ag_u32 (.tmp 75) rfl (⟨w.heap.size, 44, none⟩) (by kernel_rfl) (fun w1 hb => (D0.under hb).cell (place_cnt _ _ _ LK.out LN.out)), ow_val hA (wants_none rfl) 77 (.slice pb n cb) (by kernel_rfl) rfl rfl rfl rfl (by kernel_rfl) (fun w => by kernel_rfl), ow_val hA (wants_none rfl) 78 (.int .i64 (k : Int)) (by kernel_rfl) rfl rfl rfl rfl (by kernel_rfl) (fun w => by kernel_rfl), ow_val hA (wants_none rfl) 79 (.slice pb k cb) (by kernel_rfl) rfl rfl rfl rfl (by kernel_rfl) (fun w => cutTo_run (p := pb) (l := n) (c := cb) (m := k) rfl (by kernel_rfl) (by kernel_rfl) Try.underlying27 sz_u8 hkcb w), ow_call (wants_none rfl) 80 9 Try.f9 _ [.tmp 72, .tmp 74, .tmp 76, .tmp 79] _ rfl rfl Try.func9 (by kernel_rfl) rfl (fun a w1 hF hb hgot => by rw [List.map_cons, List.map_cons, List.map_cons, List.map_cons, List.map_nil, gotE_det (v := .agg (ints .u8 key)) hA hgot (by kernel_rfl) rfl rfl (by kernel_rfl), gotE_det (v := .agg (ints .u8 nonce)) hA hgot (by kernel_rfl) rfl rfl (by kernel_rfl), gotE_det (v := .int .u32 (count : Int)) hA hgot (by kernel_rfl) rfl rfl (by kernel_rfl), gotE_det (v := .slice pb k cb) hA hgot (by kernel_rfl) rfl rfl (by kernel_rfl)]; exact (CU.out w1 hb).mono fun e w2 hh => by obtain ⟨u, h1, h2, h3⟩ := hh; exact ⟨_, h1, rel_spec _ rfl ⟨u, rfl, h2⟩, h3, fun h => by cases h⟩), ow_pure (wants_none rfl) 70 80 rfl _ _ rfl rfl (by kernel_rfl) rfl rfl (fun a w1 h1 => mv_pair rfl h1), ow_pure (wants_none rfl) 81 70 rfl _ _ rfl rfl (by kernel_rfl) rfl rfl (fun a w1 h1 => ex_fst rfl h1), ow_pureD hA (wants_none rfl) 82 70 rfl _ (.int .i64 0) rfl rfl (by kernel_rfl) (by kernel_rfl) rfl rfl (fun a w1 h1 => ex_snd rfl h1), ow_pure (wants_none rfl) 12 81 rfl _ _ rfl rfl (by kernel_rfl) rfl rfl (fun a w1 h1 => as_bytes rfl h1), ow_val hA (wants_none rfl) 13 (.int .i64 0) (by kernel_rfl) rfl rfl rfl rfl (by kernel_rfl) (fun w => by kernel_rfl), trivial⟩) ?_
    case hst1 =>
      intro q hq hO v w3 w4 h1 h2 h3 h4
      simp only [List.mem_cons, List.not_mem_nil, or_false] at hq
      rcases hq with rfl | rfl | rfl | rfl
      · exact PairV.under h1 (h4 rfl)
      · exact PairV.under h1 (h4 rfl)
      · exact BytesV.under h1 (h4 rfl)
      · exact BytesV.under h1 (h4 rfl)
    case hst2 => intro q hq hO; cases hO
    intro fv w5 hf hD hb5
    have h12 := (hf 12 _ rfl rfl).1
    simp only [putR, List.foldl_cons, List.foldl_nil, List.map_cons, List.map_nil, Act.put, List.setIfInBounds_toArray, List.set_cons_succ, List.set_cons_zero]
    obtain ⟨u12, e12⟩ : ∃ v, v = fv 12 := ⟨_, rfl⟩
    rw [← e12] at h12 ⊢
    have V12 : Kept (BytesV u12 w5 UU) := ⟨h12⟩
    generalize fv 80 = f80 at *
    generalize fv 70 = f70 at *
    generalize fv 81 = f81 at *
    clear hf hD CU h12 e12
    have F05 := D0.under hb5
    have Q5 := Q4.trans (hb5.mono Q4.size)
    have V9 : Kept _ := ⟨V94.out.under hb5⟩
    have VX : Kept _ := ⟨VX4.out.under hb5⟩
    clear D0 Q4 hb5 V94 VX4
    refine (show wpList _ _ _ [] _ _ from ?_)
    refine wpList_nil ?_
    obtain ⟨sB, hsB⟩ : ∃ s, s = strOf b := ⟨_, rfl⟩
    obtain ⟨sU, hsU⟩ : ∃ s, s = strOf UU := ⟨_, rfl⟩
    have ESB : Kept (Value.string sB = .string (strOf b)) := ⟨by rw [hsB]⟩
    have ESU : Kept (Value.string sU = .string (strOf UU)) := ⟨by rw [hsU]⟩
    have VXK : Kept (BytesV (.slice px k cx) w5 UU) := ⟨by rw [EUX.out]; exact IntsV.take VX.out (by rw [LX.out]; exact hkn)⟩
    clear hsB hsU
    go_wp2_with fail
    refine region_ownL w5 22 [(83, .int .i64 0), (84, .bool false), (85, .bool false), (86, u9), (87, .string sB), (88, .slice pb n cb), (89, .string sB), (90, .bool false), (91, .bool false), (92, .bool false), (93, .int .i64 0), (94, .bool false), (95, .bool false), (96, .bool false), (97, u12), (98, .string sU), (99, .slice px n cx), (100, .int .i64 (k : Int)), (101, .slice px k cx), (102, .string sU), (103, .bool false), (104, .bool false)] [] [] [] rfl (by kernel_rfl) (by kernel_rfl) (by kernel_rfl) (by kernel_rfl) (by kernel_rfl) (by kernel_rfl) (by kernel_rfl) (by kernel_rfl) (by kernel_rfl) (by kernel_rfl) (by kernel_rfl) ?hst1 ?hst2 (Below.refl _ _) (fun hA => ⟨ow_val hA (wants_none rfl) 83 (.int .i64 0) (by kernel_rfl) rfl rfl rfl rfl (by kernel_rfl) (fun w => by kernel_rfl), ow_val hA (wants_none rfl) 84 (.bool false) (by kernel_rfl) rfl rfl rfl rfl (by kernel_rfl) (fun w => by kernel_rfl), ow_val hA (wants_none rfl) 85 (.bool false) (by kernel_rfl) rfl rfl rfl rfl (by kernel_rfl) (fun w => by kernel_rfl), ow_val hA (wants_at hA 2 false 85 rfl rfl (by kernel_rfl) rfl rfl (by kernel_rfl)) 86 (u9) (by kernel_rfl) rfl rfl rfl rfl (by kernel_rfl) (fun w => by kernel_rfl), ow_str hA (wants_at hA 2 false 85 rfl rfl (by kernel_rfl) rfl rfl (by kernel_rfl)) 87 (.string sB) (by kernel_rfl) rfl rfl rfl rfl (by kernel_rfl) (.tmp 86) rfl _ (by kernel_rfl) b (fun w1 hb => V9.out.under hb) ESB.out, ow_val hA (wants_at hA 2 false 85 rfl rfl (by kernel_rfl) rfl rfl (by kernel_rfl)) 88 (.slice pb n cb) (by kernel_rfl) rfl rfl rfl rfl (by kernel_rfl) (fun w => by kernel_rfl), ow_str hA (wants_at hA 2 false 85 rfl rfl (by kernel_rfl) rfl rfl (by kernel_rfl)) 89 (.string sB) (by kernel_rfl) rfl rfl rfl rfl (by kernel_rfl) (.tmp 88) rfl _ (by kernel_rfl) b (fun w1 hb => (KV.out.under Q5).under hb) ESB.out, ow_val hA (wants_at hA 2 false 85 rfl rfl (by kernel_rfl) rfl rfl (by kernel_rfl)) 90 (.bool false) (by kernel_rfl) rfl rfl rfl rfl (by kernel_rfl) (fun w => run_neq_str (s := sB) rfl (by kernel_rfl) (by kernel_rfl) w), ow_val hA (wants_none rfl) 91 (.bool false) (by kernel_rfl) rfl rfl rfl rfl (by kernel_rfl) (fun w => by kernel_rfl), ow_val hA (wants_none rfl) 92 (.bool false) (by kernel_rfl) rfl rfl rfl rfl (by kernel_rfl) (fun w => by kernel_rfl), ow_val hA (wants_at hA 9 false 92 rfl rfl (by kernel_rfl) rfl rfl (by kernel_rfl)) 93 (.int .i64 0) (by kernel_rfl) rfl rfl rfl rfl (by kernel_rfl) (fun w => by kernel_rfl), ow_val hA (wants_at hA 9 false 92 rfl rfl (by kernel_rfl) rfl rfl (by kernel_rfl)) 94 (.bool false) (by kernel_rfl) rfl rfl rfl rfl (by kernel_rfl) (fun w => by kernel_rfl), ow_val hA (wants_none rfl) 95 (.bool false) (by kernel_rfl) rfl rfl rfl rfl (by kernel_rfl) (fun w => by kernel_rfl), ow_val hA (wants_none rfl) 96 (.bool false) (by kernel_rfl) rfl rfl rfl rfl (by kernel_rfl) (fun w => by kernel_rfl), ow_val hA (wants_at hA 13 false 96 rfl rfl (by kernel_rfl) rfl rfl (by kernel_rfl)) 97 (u12) (by kernel_rfl) rfl rfl rfl rfl (by kernel_rfl) (fun w => by kernel_rfl), ow_str hA (wants_at hA 13 false 96 rfl rfl (by kernel_rfl) rfl rfl (by kernel_rfl)) 98 (.string sU) (by kernel_rfl) rfl rfl rfl rfl (by kernel_rfl) (.tmp 97) rfl _ (by kernel_rfl) UU (fun w1 hb => V12.out.under hb) ESU.out, ow_val hA (wants_at hA 13 false 96 rfl rfl (by kernel_rfl) rfl rfl (by kernel_rfl)) 99 (.slice px n cx) (by kernel_rfl) rfl rfl rfl rfl (by kernel_rfl) (fun w => by kernel_rfl), ow_val hA (wants_at hA 13 false 96 rfl rfl (by kernel_rfl) rfl rfl (by kernel_rfl)) 100 (.int .i64 (k : Int)) (by kernel_rfl) rfl rfl rfl rfl (by kernel_rfl) (fun w => by kernel_rfl), ow_val hA (wants_at hA 13 false 96 rfl rfl (by kernel_rfl) rfl rfl (by kernel_rfl)) 101 (.slice px k cx) (by kernel_rfl) rfl rfl rfl rfl (by kernel_rfl) (fun w => cutTo_run (p := px) (l := n) (c := cx) (m := k) rfl (by kernel_rfl) (by kernel_rfl) Try.underlying27 sz_u8 hkcx w), ow_str hA (wants_at hA 13 false 96 rfl rfl (by kernel_rfl) rfl rfl (by kernel_rfl)) 102 (.string sU) (by kernel_rfl) rfl rfl rfl rfl (by kernel_rfl) (.tmp 101) rfl _ (by kernel_rfl) UU (fun w1 hb => VXK.out.under hb) ESU.out, ow_val hA (wants_at hA 13 false 96 rfl rfl (by kernel_rfl) rfl rfl (by kernel_rfl)) 103 (.bool false) (by kernel_rfl) rfl rfl rfl rfl (by kernel_rfl) (fun w => run_neq_str (s := sU) rfl (by kernel_rfl) (by kernel_rfl) w), ow_val hA (wants_none rfl) 104 (.bool false) (by kernel_rfl) rfl rfl rfl rfl (by kernel_rfl) (fun w => by kernel_rfl), trivial⟩) ?_
    case hst1 => intro q hq; cases hq
    case hst2 => intro q hq; cases hq
    intro fv w6 hf hD hb6
    simp only [putR, List.foldl_cons, List.foldl_nil, List.map_cons, List.map_nil, Act.put, List.setIfInBounds_toArray, List.set_cons_succ, List.set_cons_zero]
    clear hf hD
    have F0 := F05.under hb6
    have Q6 := Q5.trans (hb6.mono Q5.size)
    have VX6 : Kept _ := ⟨VX.out.under hb6⟩
    clear F05 Q5 hb6 V9 VX V12 VXK ESB ESU EUX EUU
    refine (show wpList _ _ _ [] _ _ from ?_)
    refine wpList_nil ?_
    by_cases hke : k = n
    case pos =>
      have hke' : ((k : Int) == (n : Int)) = true := by simp; omega
      subst hke
      go_wp2_with fail
      go_ret
      exact ⟨rfl, Q6⟩
    case neg =>
      have hke' : ((k : Int) == (n : Int)) = false := by simp; omega
      have hq2 : k = 64 * c20 := by have := Ek.out; have := Eq64.out; omega
      obtain ⟨ci, hci⟩ : ∃ z, z = (count + c20) % 4294967296 := ⟨_, rfl⟩
      have hci1 : count + c20 < 4294967296 := by have := hok.out; omega
      have hci2 : ci = count + c20 := by rw [hci]; exact Nat.mod_eq_of_lt hci1
      obtain ⟨pk, hpk⟩ : ∃ q, q = if cb = k then pb else pb.map (·.add k) := ⟨_, rfl⟩
      obtain ⟨nk, hnk⟩ : ∃ q, q = n - k := ⟨_, rfl⟩
      obtain ⟨ck, hck⟩ : ∃ q, q = cb - k := ⟨_, rfl⟩
      obtain ⟨pxk, hpxk⟩ : ∃ q, q = if cx = k then px else px.map (·.add k) := ⟨_, rfl⟩
      obtain ⟨cxk, hcxk⟩ : ∃ q, q = cx - k := ⟨_, rfl⟩
      obtain ⟨DD, hDD⟩ : ∃ D, D = X.drop k := ⟨_, rfl⟩
      have EDD : Kept (encL key nonce ci (b.drop k) = DD) := ⟨by rw [hDD, EX.out, hci2, hq2]; exact encL_drop key nonce count b c20⟩
      have hc32 : c20 < 4294967296 := by omega
      have CD : Kept (∀ w', Below w6.heap.size w6 w' → Calls Try.prog 9 [.agg (ints .u8 key), .agg (ints .u8 nonce), .int .u32 (ci : Int), .slice pk nk ck].toArray w' fun e w2 => ∃ v, e = .returned (.tuple #[v, .int .i64 0]) ∧ BytesV v w2 DD ∧ Below w'.heap.size w' w2) := ⟨fun w' hb => by
        have hv : BytesV (.slice pk nk ck) w' (b.drop k) := by
          have h1 := (KV.out.under Q6).under hb
          rw [EN.out] at h1
          have h2 := BytesV.cut h1 (k := k) (by rw [← EN.out]; exact hkn)
          rw [hpk, hnk, hck, EN.out]
          exact h2
        have h3 := CX.out w' _ (b.drop k) ci hv (KYB.out.drop k) (by omega) (by rw [List.length_drop, ← EN.out]; omega) (by rw [List.length_drop, ← EN.out]; have := hok.out; omega)
        rw [EDD.out] at h3
        exact h3⟩
      have VXD6 : Kept (BytesV (.slice pxk nk cxk) w6 DD) := ⟨by
        have h1 := VX6.out
        have e1 := LX.out
        rw [← e1] at h1
        have h2 := BytesV.cut h1 (k := k) (by rw [e1]; exact hkn)
        rw [hpxk, hnk, hcxk, hDD, ← e1]
        exact h2⟩
      have Eq : Kept (c20 = k / 64) := ⟨by omega⟩
      have Eci : Kept _ := ⟨hci⟩
      have Epk : Kept _ := ⟨hpk⟩
      have Enk : Kept _ := ⟨hnk⟩
      have Eck : Kept _ := ⟨hck⟩
      have Epx : Kept _ := ⟨hpxk⟩
      have Ecx : Kept _ := ⟨hcxk⟩
      clear hci hci2 hpk hnk hck hpxk hcxk hDD hq2 hci1 CX VX6
      go_wp2_with fail
      refine region_ownNL w6 19 [(110, .pointer (some ⟨w.heap.size, 0, none⟩)), (111, .agg (ints .u8 key)), (112, .pointer (some ⟨w.heap.size, 32, none⟩)), (113, .agg (ints .u8 nonce)), (114, .pointer (some ⟨w.heap.size, 44, none⟩)), (115, .int .u32 (count : Int)), (116, .int .i64 (k : Int)), (117, .int .i64 (c20 : Int)), (118, .int .u32 (c20 : Int)), (119, .int .u32 (ci : Int)), (120, .slice pb n cb), (121, .int .i64 (k : Int)), (122, .slice pk nk ck), (125, .int .i64 0), (15, .int .i64 0)] [(123, PairV 0 DD), (109, PairV 0 DD), (124, BytesS DD), (14, BytesS DD)] [] [] rfl (by kernel_rfl) (by kernel_rfl) (by kernel_rfl) (by kernel_rfl) (by kernel_rfl) (by kernel_rfl) (by kernel_rfl) (by kernel_rfl) (by kernel_rfl) (by kernel_rfl) (by kernel_rfl) ?hst1 ?hst2 (Below.refl _ _) (fun hA => ⟨ow_val hA (wants_none rfl) 110 (.pointer (some ⟨w.heap.size, 0, none⟩)) (by kernel_rfl) rfl rfl rfl rfl (by kernel_rfl) (fun w => by kernel_rfl), ow_partA hA (wants_none rfl) 111 (.agg (ints .u8 key)) (by kernel_rfl) rfl rfl rfl rfl (by kernel_rfl) 22 (.tmp 110) rfl (w.heap.size) 0 (by kernel_rfl) 26 (placeA key nonce count) (ints .u8 key) 32 5 Try.underlying22 (by rw [ints_size, LK.out]; exact t32_info) (fun w1 hb => F0.under hb) (place_key _ _ _) rfl, ow_val hA (wants_none rfl) 112 (.pointer (some ⟨w.heap.size, 32, none⟩)) (by kernel_rfl) rfl rfl rfl rfl (by kernel_rfl) (fun w => by kernel_rfl), ow_partA hA (wants_none rfl) 113 (.agg (ints .u8 nonce)) (by kernel_rfl) rfl rfl rfl rfl (by kernel_rfl) 23 (.tmp 112) rfl (w.heap.size) 32 (by kernel_rfl) 26 (placeA key nonce count) (ints .u8 nonce) 12 5 Try.underlying23 (by rw [ints_size, LN.out]; exact i12_info) (fun w1 hb => F0.under hb) (place_non _ _ _ LK.out) rfl, ow_val hA (wants_none rfl) 114 (.pointer (some ⟨w.heap.size, 44, none⟩)) (by kernel_rfl) rfl rfl rfl rfl (by kernel_rfl) (fun w => by kernel_rfl), ow_elem hA (wants_none rfl) 115 (.int .u32 (count : Int)) (by kernel_rfl) rfl rfl rfl rfl (by kernel_rfl) 24 ag_u32 (.tmp 114) rfl (⟨w.heap.size, 44, none⟩) (by kernel_rfl) (fun w1 hb => (F0.under hb).cell (place_cnt _ _ _ LK.out LN.out)), ow_val hA (wants_none rfl) 116 (.int .i64 (k : Int)) (by kernel_rfl) rfl rfl rfl rfl (by kernel_rfl) (fun w => by kernel_rfl), ow_val hA (wants_none rfl) 117 (.int .i64 (c20 : Int)) (by kernel_rfl) rfl rfl rfl rfl (by kernel_rfl) (fun w => run_quo64 (i := k) rfl (by kernel_rfl) Eq.out (by omega) w), ow_val hA (wants_none rfl) 118 (.int .u32 (c20 : Int)) (by kernel_rfl) rfl rfl rfl rfl (by kernel_rfl) (fun w => run_c332 (z := c20) rfl (by kernel_rfl) hc32 w), ow_val hA (wants_none rfl) 119 (.int .u32 (ci : Int)) (by kernel_rfl) rfl rfl rfl rfl (by kernel_rfl) (fun w => run_add32 (m := count) (n := c20) rfl (by kernel_rfl) (by kernel_rfl) Eci.out w), ow_val hA (wants_none rfl) 120 (.slice pb n cb) (by kernel_rfl) rfl rfl rfl rfl (by kernel_rfl) (fun w => by kernel_rfl), ow_val hA (wants_none rfl) 121 (.int .i64 (k : Int)) (by kernel_rfl) rfl rfl rfl rfl (by kernel_rfl) (fun w => by kernel_rfl), ow_val hA (wants_none rfl) 122 (.slice pk nk ck) (by kernel_rfl) rfl rfl rfl rfl (by kernel_rfl) (fun w => cut_from (p := pb) (l := n) (c := cb) (k := k) rfl (by kernel_rfl) (by kernel_rfl) Try.underlying27 sz_u8 hkn Epk.out Enk.out Eck.out w), ow_call (wants_none rfl) 123 9 Try.f9 _ [.tmp 111, .tmp 113, .tmp 119, .tmp 122] _ rfl rfl Try.func9 (by kernel_rfl) rfl (fun a w1 hF hb hgot => by rw [List.map_cons, List.map_cons, List.map_cons, List.map_cons, List.map_nil, gotE_det (v := .agg (ints .u8 key)) hA hgot (by kernel_rfl) rfl rfl (by kernel_rfl), gotE_det (v := .agg (ints .u8 nonce)) hA hgot (by kernel_rfl) rfl rfl (by kernel_rfl), gotE_det (v := .int .u32 (ci : Int)) hA hgot (by kernel_rfl) rfl rfl (by kernel_rfl), gotE_det (v := .slice pk nk ck) hA hgot (by kernel_rfl) rfl rfl (by kernel_rfl)]; exact (CD.out w1 hb).mono fun e w2 hh => by obtain ⟨u, h1, h2, h3⟩ := hh; exact ⟨_, h1, rel_spec _ rfl ⟨u, rfl, h2⟩, h3, fun h => by cases h⟩), ow_pure (wants_none rfl) 109 123 rfl _ _ rfl rfl (by kernel_rfl) rfl rfl (fun a w1 h1 => mv_pair rfl h1), ow_pure (wants_none rfl) 124 109 rfl _ _ rfl rfl (by kernel_rfl) rfl rfl (fun a w1 h1 => ex_fst rfl h1), ow_pureD hA (wants_none rfl) 125 109 rfl _ (.int .i64 0) rfl rfl (by kernel_rfl) (by kernel_rfl) rfl rfl (fun a w1 h1 => ex_snd rfl h1), ow_pure (wants_none rfl) 14 124 rfl _ _ rfl rfl (by kernel_rfl) rfl rfl (fun a w1 h1 => as_bytes rfl h1), ow_val hA (wants_none rfl) 15 (.int .i64 0) (by kernel_rfl) rfl rfl rfl rfl (by kernel_rfl) (fun w => by kernel_rfl), trivial⟩) ?_
      case hst1 =>
        intro q hq hO v w3 w4 h1 h2 h3 h4
        simp only [List.mem_cons, List.not_mem_nil, or_false] at hq
        rcases hq with rfl | rfl | rfl | rfl
        · exact PairV.under h1 (h4 rfl)
        · exact PairV.under h1 (h4 rfl)
        · exact BytesV.under h1 (h4 rfl)
        · exact BytesV.under h1 (h4 rfl)
      case hst2 => intro q hq hO; cases hO
      intro fv w7 hf hD hb7
      have h14 := (hf 14 _ rfl rfl).1
      simp only [putR, List.foldl_cons, List.foldl_nil, List.map_cons, List.map_nil, Act.put, List.setIfInBounds_toArray, List.set_cons_succ, List.set_cons_zero]
      obtain ⟨u14, e14⟩ : ∃ v, v = fv 14 := ⟨_, rfl⟩
      rw [← e14] at h14 ⊢
      have V14 : Kept (BytesV u14 w7 DD) := ⟨h14⟩
      generalize fv 123 = f123 at *
      generalize fv 109 = f109 at *
      generalize fv 124 = f124 at *
      clear hf hD CD h14 e14
      have Q7 := Q6.trans (hb7.mono Q6.size)
      have VXD : Kept _ := ⟨VXD6.out.under hb7⟩
      clear F0 Q6 hb7 VXD6
      refine (show wpList _ _ _ [] _ _ from ?_)
      refine wpList_nil ?_
      obtain ⟨sD, hsD⟩ : ∃ s, s = strOf DD := ⟨_, rfl⟩
      have ESD : Kept (Value.string sD = .string (strOf DD)) := ⟨by rw [hsD]⟩
      clear hsD
      go_wp2_with fail
      refine region_ownL w7 12 [(126, .int .i64 0), (127, .bool true), (128, .bool true), (129, u14), (130, .string sD), (131, .slice px n cx), (132, .int .i64 (k : Int)), (133, .slice pxk nk cxk), (134, .string sD), (135, .bool true), (136, .bool true), (6, .bool true)] [] [] [] rfl (by kernel_rfl) (by kernel_rfl) (by kernel_rfl) (by kernel_rfl) (by kernel_rfl) (by kernel_rfl) (by kernel_rfl) (by kernel_rfl) (by kernel_rfl) (by kernel_rfl) (by kernel_rfl) ?hst1 ?hst2 (Below.refl _ _) (fun hA => ⟨ow_val hA (wants_none rfl) 126 (.int .i64 0) (by kernel_rfl) rfl rfl rfl rfl (by kernel_rfl) (fun w => by kernel_rfl), ow_val hA (wants_none rfl) 127 (.bool true) (by kernel_rfl) rfl rfl rfl rfl (by kernel_rfl) (fun w => by kernel_rfl), ow_val hA (wants_none rfl) 128 (.bool true) (by kernel_rfl) rfl rfl rfl rfl (by kernel_rfl) (fun w => by kernel_rfl), ow_val hA (wants_at hA 2 true 128 rfl rfl (by kernel_rfl) rfl rfl (by kernel_rfl)) 129 (u14) (by kernel_rfl) rfl rfl rfl rfl (by kernel_rfl) (fun w => by kernel_rfl), ow_str hA (wants_at hA 2 true 128 rfl rfl (by kernel_rfl) rfl rfl (by kernel_rfl)) 130 (.string sD) (by kernel_rfl) rfl rfl rfl rfl (by kernel_rfl) (.tmp 129) rfl _ (by kernel_rfl) DD (fun w1 hb => V14.out.under hb) ESD.out, ow_val hA (wants_at hA 2 true 128 rfl rfl (by kernel_rfl) rfl rfl (by kernel_rfl)) 131 (.slice px n cx) (by kernel_rfl) rfl rfl rfl rfl (by kernel_rfl) (fun w => by kernel_rfl), ow_val hA (wants_at hA 2 true 128 rfl rfl (by kernel_rfl) rfl rfl (by kernel_rfl)) 132 (.int .i64 (k : Int)) (by kernel_rfl) rfl rfl rfl rfl (by kernel_rfl) (fun w => by kernel_rfl), ow_val hA (wants_at hA 2 true 128 rfl rfl (by kernel_rfl) rfl rfl (by kernel_rfl)) 133 (.slice pxk nk cxk) (by kernel_rfl) rfl rfl rfl rfl (by kernel_rfl) (fun w => cut_from (p := px) (l := n) (c := cx) (k := k) rfl (by kernel_rfl) (by kernel_rfl) Try.underlying27 sz_u8 hkn Epx.out Enk.out Ecx.out w), ow_str hA (wants_at hA 2 true 128 rfl rfl (by kernel_rfl) rfl rfl (by kernel_rfl)) 134 (.string sD) (by kernel_rfl) rfl rfl rfl rfl (by kernel_rfl) (.tmp 133) rfl _ (by kernel_rfl) DD (fun w1 hb => VXD.out.under hb) ESD.out, ow_val hA (wants_at hA 2 true 128 rfl rfl (by kernel_rfl) rfl rfl (by kernel_rfl)) 135 (.bool true) (by kernel_rfl) rfl rfl rfl rfl (by kernel_rfl) (fun w => run_eql_str (s := sD) rfl (by kernel_rfl) (by kernel_rfl) w), ow_val hA (wants_none rfl) 136 (.bool true) (by kernel_rfl) rfl rfl rfl rfl (by kernel_rfl) (fun w => by kernel_rfl), ow_val hA (wants_none rfl) 6 (.bool true) (by kernel_rfl) rfl rfl rfl rfl (by kernel_rfl) (fun w => by kernel_rfl), trivial⟩) ?_
      case hst1 => intro q hq; cases hq
      case hst2 => intro q hq; cases hq
      intro fv w8 hf hD hb8
      simp only [putR, List.foldl_cons, List.foldl_nil, List.map_cons, List.map_nil, Act.put, List.setIfInBounds_toArray, List.set_cons_succ, List.set_cons_zero]
      clear hf hD
      refine (show wpList _ _ _ [] _ _ from ?_)
      refine wpList_nil ?_
      go_wp2_with fail
      go_ret
      exact ⟨rfl, Q7.trans (hb8.mono Q7.size)⟩
end Go.Proofs.Ythieljiplhhdeaa.sh
