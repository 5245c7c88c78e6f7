/-
  The reference: bytes turned by blocks, as a slice that the call owns.
-/
import Derived.Test.YtpamcmhfimnfbaaZB
namespace Go.Proofs.Ytpamcmhfimnfbaa.sh
open Go Go.RowKit
set_option linter.unusedVariables false
set_option linter.unusedSimpArgs false

set_option maxRecDepth 100000 in
set_option maxHeartbeats 4000000 in
theorem rXor_row (key nonce b : List Nat) (count : Nat) (vb : Value) (w : World) (hk : key.length = 32) (hy : Bytes key) (hnl : nonce.length = 12) (hyn : Bytes nonce) (hyb : Bytes b) (hvb : BytesV vb w b) (hc : count < 4294967296) (h : b.length ≤ 65536) (he : count + (b.length + 63) / 64 ≤ 4294967296) :
    Calls Try.prog 16 #[.agg (ints .u8 key), .agg (ints .u8 nonce), .int .u32 (count : Int), vb] w fun e w' => ∃ v, e = .returned (.tuple #[v, .int .i64 0]) ∧ Row w.heap.size 5 .u8 (encL key nonce count b) v w' ∧ Below w.heap.size w w' := by
  have KV : Kept _ := ⟨hvb⟩
  obtain ⟨pb, cb, rfl, _, _⟩ := hvb
  obtain ⟨n, hn⟩ : ∃ n, n = b.length := ⟨_, rfl⟩
  rw [← hn] at h he KV ⊢
  have EN : Kept _ := ⟨hn⟩
  obtain ⟨n3, h3⟩ : ∃ q, q = n + 63 := ⟨_, rfl⟩
  obtain ⟨B, hB⟩ : ∃ B, B = n3 / 64 := ⟨_, rfl⟩
  obtain ⟨S, hS⟩ : ∃ S, S = count + B := ⟨_, rfl⟩
  have hBB : Kept (false = decide (4294967296 < S)) := ⟨(decide_eq_false (by omega)).symm⟩
  have HS : Kept _ := ⟨hS⟩
  have HB : Kept _ := ⟨hB⟩
  have E3 : Kept _ := ⟨h3⟩
  have n362 : n3 < 4611686018427387904 := by omega
  have hB62 : B < 4611686018427387904 := by omega
  have hS62 : S < 4611686018427387904 := by omega
  have hcn : ∀ i, i < n → count + i / 64 < 4294967296 := fun i hi => by omega
  have HCN : Kept _ := ⟨hcn⟩
  obtain ⟨L, hL⟩ : ∃ L, L = encL key nonce count b := ⟨_, rfl⟩
  rw [← hL]
  have EL : Kept _ := ⟨hL⟩
  have LL : Kept (L.length = n) := ⟨by rw [hL, encL_len, ← hn]⟩
  have CBk : Kept (∀ (ct : Nat) (w' : World), ct < 4294967296 → Calls Try.prog 26 #[.agg (ints .u8 key), .agg (ints .u8 nonce), .int .u32 (ct : Int)] w' fun e w2 => e = .returned (.agg (ints .u8 (blockL key nonce ct))) ∧ Below w'.heap.size w' w2) := ⟨fun ct w' h => rBlock_any key nonce ct w' hk hy hnl hyn h⟩
  have LK : Kept _ := ⟨hk⟩
  have LN : Kept _ := ⟨hnl⟩
  have KYB : Kept _ := ⟨hyb⟩
  obtain ⟨Z0, hZ0⟩ : ∃ Z, Z = List.replicate 64 0 := ⟨_, rfl⟩
  have LZ : Kept (Z0.length = 64) := ⟨by rw [hZ0]; rfl⟩
  have EI : Kept ((#[.int .u8 0, .int .u8 0, .int .u8 0, .int .u8 0, .int .u8 0, .int .u8 0, .int .u8 0, .int .u8 0, .int .u8 0, .int .u8 0, .int .u8 0, .int .u8 0, .int .u8 0, .int .u8 0, .int .u8 0, .int .u8 0, .int .u8 0, .int .u8 0, .int .u8 0, .int .u8 0, .int .u8 0, .int .u8 0, .int .u8 0, .int .u8 0, .int .u8 0, .int .u8 0, .int .u8 0, .int .u8 0, .int .u8 0, .int .u8 0, .int .u8 0, .int .u8 0, .int .u8 0, .int .u8 0, .int .u8 0, .int .u8 0, .int .u8 0, .int .u8 0, .int .u8 0, .int .u8 0, .int .u8 0, .int .u8 0, .int .u8 0, .int .u8 0, .int .u8 0, .int .u8 0, .int .u8 0, .int .u8 0, .int .u8 0, .int .u8 0, .int .u8 0, .int .u8 0, .int .u8 0, .int .u8 0, .int .u8 0, .int .u8 0, .int .u8 0, .int .u8 0, .int .u8 0, .int .u8 0, .int .u8 0, .int .u8 0, .int .u8 0, .int .u8 0] : Array Value) = ints .u8 Z0) := ⟨by rw [hZ0]; exact z64_eq2⟩
  have A0 : Blk (((w.alloc (.cells (ints .u8 key) 22)).alloc (.cells (ints .u8 nonce) 36)).alloc (.cells #[.int .u8 0, .int .u8 0, .int .u8 0, .int .u8 0, .int .u8 0, .int .u8 0, .int .u8 0, .int .u8 0, .int .u8 0, .int .u8 0, .int .u8 0, .int .u8 0, .int .u8 0, .int .u8 0, .int .u8 0, .int .u8 0, .int .u8 0, .int .u8 0, .int .u8 0, .int .u8 0, .int .u8 0, .int .u8 0, .int .u8 0, .int .u8 0, .int .u8 0, .int .u8 0, .int .u8 0, .int .u8 0, .int .u8 0, .int .u8 0, .int .u8 0, .int .u8 0, .int .u8 0, .int .u8 0, .int .u8 0, .int .u8 0, .int .u8 0, .int .u8 0, .int .u8 0, .int .u8 0, .int .u8 0, .int .u8 0, .int .u8 0, .int .u8 0, .int .u8 0, .int .u8 0, .int .u8 0, .int .u8 0, .int .u8 0, .int .u8 0, .int .u8 0, .int .u8 0, .int .u8 0, .int .u8 0, .int .u8 0, .int .u8 0, .int .u8 0, .int .u8 0, .int .u8 0, .int .u8 0, .int .u8 0, .int .u8 0, .int .u8 0, .int .u8 0] 50)) w.heap.size 22 (ints .u8 key) := ((blk_new w _ _).alloc _).alloc _
  have A1 : Blk (((w.alloc (.cells (ints .u8 key) 22)).alloc (.cells (ints .u8 nonce) 36)).alloc (.cells #[.int .u8 0, .int .u8 0, .int .u8 0, .int .u8 0, .int .u8 0, .int .u8 0, .int .u8 0, .int .u8 0, .int .u8 0, .int .u8 0, .int .u8 0, .int .u8 0, .int .u8 0, .int .u8 0, .int .u8 0, .int .u8 0, .int .u8 0, .int .u8 0, .int .u8 0, .int .u8 0, .int .u8 0, .int .u8 0, .int .u8 0, .int .u8 0, .int .u8 0, .int .u8 0, .int .u8 0, .int .u8 0, .int .u8 0, .int .u8 0, .int .u8 0, .int .u8 0, .int .u8 0, .int .u8 0, .int .u8 0, .int .u8 0, .int .u8 0, .int .u8 0, .int .u8 0, .int .u8 0, .int .u8 0, .int .u8 0, .int .u8 0, .int .u8 0, .int .u8 0, .int .u8 0, .int .u8 0, .int .u8 0, .int .u8 0, .int .u8 0, .int .u8 0, .int .u8 0, .int .u8 0, .int .u8 0, .int .u8 0, .int .u8 0, .int .u8 0, .int .u8 0, .int .u8 0, .int .u8 0, .int .u8 0, .int .u8 0, .int .u8 0, .int .u8 0] 50)) (w.heap.size + 1) 36 (ints .u8 nonce) := (blk_top _ _ _ _ (by simp)).alloc _
  have A2 : Blk (((w.alloc (.cells (ints .u8 key) 22)).alloc (.cells (ints .u8 nonce) 36)).alloc (.cells #[.int .u8 0, .int .u8 0, .int .u8 0, .int .u8 0, .int .u8 0, .int .u8 0, .int .u8 0, .int .u8 0, .int .u8 0, .int .u8 0, .int .u8 0, .int .u8 0, .int .u8 0, .int .u8 0, .int .u8 0, .int .u8 0, .int .u8 0, .int .u8 0, .int .u8 0, .int .u8 0, .int .u8 0, .int .u8 0, .int .u8 0, .int .u8 0, .int .u8 0, .int .u8 0, .int .u8 0, .int .u8 0, .int .u8 0, .int .u8 0, .int .u8 0, .int .u8 0, .int .u8 0, .int .u8 0, .int .u8 0, .int .u8 0, .int .u8 0, .int .u8 0, .int .u8 0, .int .u8 0, .int .u8 0, .int .u8 0, .int .u8 0, .int .u8 0, .int .u8 0, .int .u8 0, .int .u8 0, .int .u8 0, .int .u8 0, .int .u8 0, .int .u8 0, .int .u8 0, .int .u8 0, .int .u8 0, .int .u8 0, .int .u8 0, .int .u8 0, .int .u8 0, .int .u8 0, .int .u8 0, .int .u8 0, .int .u8 0, .int .u8 0, .int .u8 0] 50)) (w.heap.size + 2) 50 (ints .u8 Z0) := by rw [← EI.out]; exact blk_top _ _ _ _ (by simp)
  have Q0 : Below w.heap.size w (((w.alloc (.cells (ints .u8 key) 22)).alloc (.cells (ints .u8 nonce) 36)).alloc (.cells #[.int .u8 0, .int .u8 0, .int .u8 0, .int .u8 0, .int .u8 0, .int .u8 0, .int .u8 0, .int .u8 0, .int .u8 0, .int .u8 0, .int .u8 0, .int .u8 0, .int .u8 0, .int .u8 0, .int .u8 0, .int .u8 0, .int .u8 0, .int .u8 0, .int .u8 0, .int .u8 0, .int .u8 0, .int .u8 0, .int .u8 0, .int .u8 0, .int .u8 0, .int .u8 0, .int .u8 0, .int .u8 0, .int .u8 0, .int .u8 0, .int .u8 0, .int .u8 0, .int .u8 0, .int .u8 0, .int .u8 0, .int .u8 0, .int .u8 0, .int .u8 0, .int .u8 0, .int .u8 0, .int .u8 0, .int .u8 0, .int .u8 0, .int .u8 0, .int .u8 0, .int .u8 0, .int .u8 0, .int .u8 0, .int .u8 0, .int .u8 0, .int .u8 0, .int .u8 0, .int .u8 0, .int .u8 0, .int .u8 0, .int .u8 0, .int .u8 0, .int .u8 0, .int .u8 0, .int .u8 0, .int .u8 0, .int .u8 0, .int .u8 0, .int .u8 0] 50)) := (((Below.refl _ _).alloc (Nat.le_refl _) _).alloc (by simp) _).alloc (by simp; omega) _
  have h' : ¬ (65536 : Int) < (n : Int) := by omega
  clear hn hB hS he h3 hcn hL hk hy hnl hyn hyb hZ0 EI
  go_enter Try.func16, Try.ntmps16
  go_wp2_with (first | ((with_reducible refine wv_val (d := 24) ?hd ?hw (.bool false) ?hr ?_); (case hd => rfl); (case hw => kernel_rfl); (case hr => intro w; exact run_gtr64c rfl (by kernel_rfl) hBB.out w); simp only [Act.put, List.setIfInBounds_toArray, List.set_cons_succ, List.set_cons_zero]) | ((with_reducible refine wv_val (d := 17) ?hd ?hw (.int .u64 (count : Int)) ?hr ?_); (case hd => rfl); (case hw => kernel_rfl); (case hr => intro w; exact run_c3264 rfl (by kernel_rfl) hc w); simp only [Act.put, List.setIfInBounds_toArray, List.set_cons_succ, List.set_cons_zero]) | ((with_reducible refine wv_val (d := 20) ?hd ?hw (.int .i64 (n3 : Int)) ?hr ?_); (case hd => rfl); (case hw => kernel_rfl); (case hr => intro w; exact run_addZ 63 rfl (by kernel_rfl) E3.out n362 w); simp only [Act.put, List.setIfInBounds_toArray, List.set_cons_succ, List.set_cons_zero]) | ((with_reducible refine wv_val (d := 21) ?hd ?hw (.int .i64 (B : Int)) ?hr ?_); (case hd => rfl); (case hw => kernel_rfl); (case hr => intro w; exact run_quo64 rfl (by kernel_rfl) HB.out n362 w); simp only [Act.put, List.setIfInBounds_toArray, List.set_cons_succ, List.set_cons_zero]) | ((with_reducible refine wv_val (d := 22) ?hd ?hw (.int .u64 (B : Int)) ?hr ?_); (case hd => rfl); (case hw => kernel_rfl); (case hr => intro w; exact run_c364 rfl (by kernel_rfl) hB62 w); simp only [Act.put, List.setIfInBounds_toArray, List.set_cons_succ, List.set_cons_zero]) | ((with_reducible refine wv_val (d := 23) ?hd ?hw (.int .u64 (S : Int)) ?hr ?_); (case hd => rfl); (case hw => kernel_rfl); (case hr => intro w; exact run_add64 rfl (by kernel_rfl) (by kernel_rfl) HS.out hS62 w); simp only [Act.put, List.setIfInBounds_toArray, List.set_cons_succ, List.set_cons_zero]))
  generalize hW : ((w.alloc (.cells (ints .u8 key) 22)).alloc (.cells (ints .u8 nonce) 36)).alloc (.cells #[.int .u8 0, .int .u8 0, .int .u8 0, .int .u8 0, .int .u8 0, .int .u8 0, .int .u8 0, .int .u8 0, .int .u8 0, .int .u8 0, .int .u8 0, .int .u8 0, .int .u8 0, .int .u8 0, .int .u8 0, .int .u8 0, .int .u8 0, .int .u8 0, .int .u8 0, .int .u8 0, .int .u8 0, .int .u8 0, .int .u8 0, .int .u8 0, .int .u8 0, .int .u8 0, .int .u8 0, .int .u8 0, .int .u8 0, .int .u8 0, .int .u8 0, .int .u8 0, .int .u8 0, .int .u8 0, .int .u8 0, .int .u8 0, .int .u8 0, .int .u8 0, .int .u8 0, .int .u8 0, .int .u8 0, .int .u8 0, .int .u8 0, .int .u8 0, .int .u8 0, .int .u8 0, .int .u8 0, .int .u8 0, .int .u8 0, .int .u8 0, .int .u8 0, .int .u8 0, .int .u8 0, .int .u8 0, .int .u8 0, .int .u8 0, .int .u8 0, .int .u8 0, .int .u8 0, .int .u8 0, .int .u8 0, .int .u8 0, .int .u8 0, .int .u8 0] 50) = wa at *
  clear hW
  go_loopg [10, 12] n (fun k s10 s12 wr => ∃ (i : Nat) (KB : List Nat), i + k = n ∧ s12 = .int .i64 (i : Int) ∧ Kept (i % 64 ≠ 0 → KB = blockL key nonce (count + i / 64)) ∧ Kept (KB.length = 64) ∧ Below w.heap.size w wr ∧ Blk wr w.heap.size 22 (ints .u8 key) ∧ Blk wr (w.heap.size + 1) 36 (ints .u8 nonce) ∧ Blk wr (w.heap.size + 2) 50 (ints .u8 KB) ∧ Kept (Row (w.heap.size + 3) 5 .u8 (L.take i) s10 wr))
  case atStart => exact ⟨0, Z0, by omega, rfl, ⟨fun h => absurd rfl h⟩, LZ, Q0, A0, A1, A2, ⟨row_nil _ _ _ _⟩⟩
  case round =>
    clear A0 A1 A2 Q0 LZ
    obtain ⟨i, KB, hik, rfl, EKB0, LKB, QR, D0, D1, D2, RO⟩ := hrel
    by_cases hi : i < n
    case pos =>
      have hi' : (i : Int) < (n : Int) := by omega
      obtain ⟨x, hx⟩ : ∃ x, b[i]? = some x := ⟨_, List.getElem?_eq_getElem (by have := EN.out; omega)⟩
      obtain ⟨r, hr⟩ : ∃ q, q = i % 64 := ⟨_, rfl⟩
      obtain ⟨q, hq⟩ : ∃ q, q = i / 64 := ⟨_, rfl⟩
      obtain ⟨ci, hci⟩ : ∃ z, z = (count + q) % 4294967296 := ⟨_, rfl⟩
      have hcq : count + q < 4294967296 := by rw [hq]; exact HCN.out i hi
      have hci2 : ci = count + q := by rw [hci]; exact Nat.mod_eq_of_lt hcq
      have hci4 : ci < 4294967296 := by omega
      have hq32 : q < 4294967296 := by omega
      have r64 : r < 64 := by omega
      obtain ⟨KB2, hKB2⟩ : ∃ K, K = blockL key nonce ci := ⟨_, rfl⟩
      obtain ⟨y, hy⟩ : ∃ y, y = KB2.getD r 0 := ⟨_, rfl⟩
      obtain ⟨z, hz⟩ : ∃ z, z = x ^^^ y := ⟨_, rfl⟩
      have hx8 : x < 256 := KYB.out i x hx
      have hy8 : y < 256 := by rw [hy, hKB2]; exact byte_getD (blockL_bytes _ _ _) _
      have LKB2 : Kept (KB2.length = 64) := ⟨by rw [hKB2]; exact blockL_len _ _ _⟩
      have GY : Kept ((ints .u8 KB2)[r]? = some (.int .u8 (y : Int))) := ⟨ints_get (by rw [hy, List.getD_eq_getElem?_getD, List.getElem?_eq_getElem (by rw [LKB2.out]; exact r64)]; rfl)⟩
      have GZ : Kept (L[i]? = some z) := ⟨by
        rw [EL.out, encL_get _ _ _ _ _ _ hx, hz, hy, hKB2, hci2, hq, hr]
        rfl⟩
      have EKB : Kept ((i + 1) % 64 ≠ 0 → KB2 = blockL key nonce (count + (i + 1) / 64)) := ⟨fun h1 => by
        rw [hKB2, hci2, hq, show (i + 1) / 64 = i / 64 by omega]⟩
      have EKB1 : Kept (r ≠ 0 → KB = KB2) := ⟨fun h1 => by rw [EKB0.out (by rw [← hr]; exact h1), hKB2, hci2, hq]⟩
      obtain ⟨AB, rfl, _, _⟩ := bytes_at KV.out hx
      have Cbk : Kept (∀ w', Calls Try.prog 26 #[.agg (ints .u8 key), .agg (ints .u8 nonce), .int .u32 (ci : Int)] w' fun e w2 => e = .returned (.agg (ints .u8 KB2)) ∧ Below w'.heap.size w' w2) := ⟨fun w' => by rw [hKB2]; exact CBk.out ci w' hci4⟩
      have Eq : Kept _ := ⟨hq⟩
      have Er : Kept _ := ⟨hr⟩
      have Ec : Kept _ := ⟨hci⟩
      have Ez : Kept _ := ⟨hz⟩
      have Gx : Kept _ := ⟨hx⟩
      clear hx hq hr hci hci2 hKB2 hy hz EKB0 hcq
      by_cases hr0 : r = 0
      case pos =>
        have HR0 : Kept (true = decide (r = 0)) := ⟨(decide_eq_true hr0).symm⟩
        clear hr0
        go_wp2_with (first | ((with_reducible refine wv_val (d := 32) ?hd ?hw (.int .i64 (r : Int)) ?hr ?_); (case hd => rfl); (case hw => kernel_rfl); (case hr => intro w; exact run_rem64 (i := i) rfl (by kernel_rfl) Er.out (by omega) w); simp only [Act.put, List.setIfInBounds_toArray, List.set_cons_succ, List.set_cons_zero]) | ((with_reducible refine wv_val (d := 33) ?hd ?hw (.bool true) ?hr ?_); (case hd => rfl); (case hw => kernel_rfl); (case hr => intro w; exact run_eq0 rfl (by kernel_rfl) HR0.out w); simp only [Act.put, List.setIfInBounds_toArray, List.set_cons_succ, List.set_cons_zero]) | ((with_reducible refine wv_row (d := 34) ?hd ?hw 22 (.tmp 4) ?ho (w.heap.size) ?hx (t' := 22) (ints .u8 key) _ _ Try.underlying22 ?hs ?hg ?_); (case hd => rfl); (case hw => kernel_rfl); (case ho => rfl); (case hx => kernel_rfl); (case hs => rw [ints_size, LK.out]; exact t32_info); (case hg => exact D0); simp only [Act.put, List.setIfInBounds_toArray, List.set_cons_succ, List.set_cons_zero]) | ((with_reducible refine wv_row (d := 35) ?hd ?hw 36 (.tmp 5) ?ho (w.heap.size + 1) ?hx (t' := 36) (ints .u8 nonce) _ _ Try.underlying36 ?hs ?hg ?_); (case hd => rfl); (case hw => kernel_rfl); (case ho => rfl); (case hx => kernel_rfl); (case hs => rw [ints_size, LN.out]; exact i12_info); (case hg => exact D1); simp only [Act.put, List.setIfInBounds_toArray, List.set_cons_succ, List.set_cons_zero]) | ((with_reducible refine wv_val (d := 38) ?hd ?hw (.int .i64 (q : Int)) ?hr ?_); (case hd => rfl); (case hw => kernel_rfl); (case hr => intro w; exact run_quo64 (i := i) rfl (by kernel_rfl) Eq.out (by omega) w); simp only [Act.put, List.setIfInBounds_toArray, List.set_cons_succ, List.set_cons_zero]) | ((with_reducible refine wv_val (d := 39) ?hd ?hw (.int .u32 (q : Int)) ?hr ?_); (case hd => rfl); (case hw => kernel_rfl); (case hr => intro w; exact run_c332 rfl (by kernel_rfl) hq32 w); simp only [Act.put, List.setIfInBounds_toArray, List.set_cons_succ, List.set_cons_zero]) | ((with_reducible refine wv_val (d := 40) ?hd ?hw (.int .u32 (ci : Int)) ?hr ?_); (case hd => rfl); (case hw => kernel_rfl); (case hr => intro w; exact run_add32 rfl (by kernel_rfl) (by kernel_rfl) Ec.out w); simp only [Act.put, List.setIfInBounds_toArray, List.set_cons_succ, List.set_cons_zero]))
        refine (Cbk.out wr).mono ?_
        rintro e w5 ⟨rfl, hb5⟩
        have D05 := D0.under hb5
        have D15 := D1.under hb5
        have D25 := D2.under hb5
        have Q5 := QR.trans (hb5.mono QR.size)
        have RO5 : Kept _ := ⟨RO.out.under hb5⟩
        clear D0 D1 D2 QR RO hb5 Cbk
        go_wp2_with (first | (refine wl_store rfl 50 (.tmp 11) (.tmp 41) rfl (w.heap.size + 2) (ints .u8 KB2) rfl rfl _ D25 (by rw [ints_size, LKB2.out]; exact i64_inf2) (by rw [ints_size, ints_size, LKB2.out, LKB.out]) (ints_one _ _) ?_))
        intro w6 D2 P6
        have D0 := P6.blk D05 (by omega)
        have D1 := P6.blk D15 (by omega)
        have QR := Q5.trans (P6.below (by omega))
        have RO : Kept (Row (w.heap.size + 3) 5 .u8 (L.take i) u10 w6) := ⟨RO5.out.keeps P6.grown (by
          cases hbk : blkOf u10 with
          | none => exact .inl rfl
          | some b' => exact .inr (fun e => by have := (RO5.out.range b' hbk).1; have := Option.some.inj e; omega))⟩
        clear D05 D15 D25 Q5 RO5 P6 HR0 Eq Ec
        have CB : Kept (∀ w', Below w6.heap.size w6 w' → w'.cell? (AB.add i) = some (.int .u8 (x : Int))) := ⟨fun w' hb => bytes_cell ((KV.out.under QR).under hb) Gx.out⟩
        go_wp2_with fail
        refine region_ownL w6 11 [(42, u10), (43, .slice (some AB) n cb), (44, .int .i64 (i : Int)), (45, .pointer (some (AB.add i))), (46, .int .u8 (x : Int)), (47, .int .i64 (i : Int)), (48, .int .i64 (r : Int)), (49, .pointer (some ⟨w.heap.size + 2, r, none⟩)), (50, .int .u8 (y : Int)), (51, .int .u8 (z : Int))] [(52, Const 5 .u8 [z])] [52] [] rfl (by kernel_rfl) (by kernel_rfl) (by kernel_rfl) (by kernel_rfl) (by kernel_rfl) (by kernel_rfl) (by kernel_rfl) (by kernel_rfl) (by kernel_rfl) (by kernel_rfl) (by kernel_rfl) ?hst1 ?hst2 (Below.refl _ _) (fun hA => ⟨ow_val hA (wants_none rfl) 42 (u10) (by kernel_rfl) rfl rfl rfl rfl (by kernel_rfl) (fun w => by kernel_rfl), ow_val hA (wants_none rfl) 43 (.slice (some AB) n cb) (by kernel_rfl) rfl rfl rfl rfl (by kernel_rfl) (fun w => by kernel_rfl), ow_val hA (wants_none rfl) 44 (.int .i64 (i : Int)) (by kernel_rfl) rfl rfl rfl rfl (by kernel_rfl) (fun w => by kernel_rfl), ow_val hA (wants_none rfl) 45 (.pointer (some (AB.add i))) (by kernel_rfl) rfl rfl rfl rfl (by kernel_rfl) (fun w => run_idxS (A := AB) (i := i) (l := n) (c := cb) rfl (by kernel_rfl) (by kernel_rfl) Try.underlying24 hi sz_u8 w), ow_elem hA (wants_none rfl) 46 (.int .u8 (x : Int)) (by kernel_rfl) rfl rfl rfl rfl (by kernel_rfl) 5 ag_u8 (.tmp 45) rfl (AB.add i) (by kernel_rfl) (fun w1 hb => CB.out w1 hb), ow_val hA (wants_none rfl) 47 (.int .i64 (i : Int)) (by kernel_rfl) rfl rfl rfl rfl (by kernel_rfl) (fun w => by kernel_rfl), ow_val hA (wants_none rfl) 48 (.int .i64 (r : Int)) (by kernel_rfl) rfl rfl rfl rfl (by kernel_rfl) (fun w => run_rem64 (i := i) rfl (by kernel_rfl) Er.out (by omega) w), ow_val hA (wants_none rfl) 49 (.pointer (some ⟨w.heap.size + 2, r, none⟩)) (by kernel_rfl) rfl rfl rfl rfl (by kernel_rfl) (fun w => run_idx (i := r) rfl (by kernel_rfl) (by kernel_rfl) Try.underlying50 r64 sz_u8 w), ow_elem hA (wants_none rfl) 50 (.int .u8 (y : Int)) (by kernel_rfl) rfl rfl rfl rfl (by kernel_rfl) 5 ag_u8 (.tmp 49) rfl (⟨w.heap.size + 2, r, none⟩) (by kernel_rfl) (fun w1 hb => (D2.under hb).cell GY.out), ow_val hA (wants_none rfl) 51 (.int .u8 (z : Int)) (by kernel_rfl) rfl rfl rfl rfl (by kernel_rfl) (fun w => run_xorV (m := x) (n := y) rfl (by kernel_rfl) (by kernel_rfl) hx8 hy8 Ez.out w), ow_byte hA (wants_none rfl) 52 51 z rfl rfl (by kernel_rfl) (by kernel_rfl) rfl rfl rfl, trivial⟩) ?_
        case hst1 =>
          intro q hq hO
          simp only [List.mem_cons, List.not_mem_nil, or_false] at hq
          subst hq
          cases hO
        case hst2 =>
          intro q hq hO v w3 w4 row h1 h2 h3 h4
          simp only [List.mem_cons, List.not_mem_nil, or_false] at hq
          subst hq
          exact Const.keeps h1 h2 h3
        intro fv w9 hf hD hb9
        have h52 := (hf 52 _ rfl rfl).1
        simp only [putR, List.foldl_cons, List.foldl_nil, List.map_cons, List.map_nil, Act.put, List.setIfInBounds_toArray, List.set_cons_succ, List.set_cons_zero]
        obtain ⟨u52, e52⟩ : ∃ v, v = fv 52 := ⟨_, rfl⟩
        rw [← e52] at h52 ⊢
        have V52 : Kept (IntsV .u8 u52 w9 [z]) := ⟨Const.ints h52⟩
        clear hf hD CB e52 h52
        have F0 := D0.under hb9
        have F1 := D1.under hb9
        have F2 := D2.under hb9
        have Q9 := QR.trans (hb9.mono QR.size)
        have RO9 : Kept _ := ⟨RO.out.under hb9⟩
        have SN : Kept ((L.take i).length + [z].length ≤ 8796093022208) := ⟨by rw [List.length_take, LL.out]; simp; omega⟩
        have SB : w.heap.size + 3 ≤ w9.heap.size := F2.lt
        clear D0 D1 D2 QR RO hb9
        refine wl_app (by kernel_rfl) (.tmp 42) (.tmp 52) 24 5 .u8 1 rfl Try.underlying24 inf_u8 (by decide) (w.heap.size + 3) (L.take i) [z] u10 u52 (by kernel_rfl) (by kernel_rfl) RO9.out V52.out SN.out SB ?_
        intro v10 w10 r10 g10 _
        have QA := app_below (Below.refl (w.heap.size + 3) w9) SB RO9.out g10
        have G0 := F0.below QA (by omega)
        have G1 := F1.below QA (by omega)
        have G2 := F2.below QA (by omega)
        have Q10 := Q9.trans (QA.mono (by omega))
        have RO10 : Kept (Row (w.heap.size + 3) 5 .u8 (L.take (i + 1)) v10 w10) := ⟨by rw [List.take_add_one, GZ.out]; exact r10⟩
        clear F0 F1 F2 Q9 QA RO9 SN SB V52 r10 g10 GY GZ Er Ez Gx
        go_wp2_with fail
        go_roundg (gk - 1)
        case measure => omega
        case rel => exact ⟨i + 1, KB2, by omega, by simp, EKB, LKB2, Q10, G0, G1, G2, RO10⟩

      case neg =>
        have HR0 : Kept (false = decide (r = 0)) := ⟨(decide_eq_false hr0).symm⟩
        obtain rfl : KB = KB2 := EKB1.out hr0
        clear hr0 Cbk EKB1 LKB
        go_wp2_with (first | ((with_reducible refine wv_val (d := 32) ?hd ?hw (.int .i64 (r : Int)) ?hr ?_); (case hd => rfl); (case hw => kernel_rfl); (case hr => intro w; exact run_rem64 (i := i) rfl (by kernel_rfl) Er.out (by omega) w); simp only [Act.put, List.setIfInBounds_toArray, List.set_cons_succ, List.set_cons_zero]) | ((with_reducible refine wv_val (d := 33) ?hd ?hw (.bool false) ?hr ?_); (case hd => rfl); (case hw => kernel_rfl); (case hr => intro w; exact run_eq0 rfl (by kernel_rfl) HR0.out w); simp only [Act.put, List.setIfInBounds_toArray, List.set_cons_succ, List.set_cons_zero]))
        clear HR0 Eq Ec
        have CB : Kept (∀ w', Below wr.heap.size wr w' → w'.cell? (AB.add i) = some (.int .u8 (x : Int))) := ⟨fun w' hb => bytes_cell ((KV.out.under QR).under hb) Gx.out⟩
        go_wp2_with fail
        refine region_ownL wr 11 [(42, u10), (43, .slice (some AB) n cb), (44, .int .i64 (i : Int)), (45, .pointer (some (AB.add i))), (46, .int .u8 (x : Int)), (47, .int .i64 (i : Int)), (48, .int .i64 (r : Int)), (49, .pointer (some ⟨w.heap.size + 2, r, none⟩)), (50, .int .u8 (y : Int)), (51, .int .u8 (z : Int))] [(52, Const 5 .u8 [z])] [52] [] rfl (by kernel_rfl) (by kernel_rfl) (by kernel_rfl) (by kernel_rfl) (by kernel_rfl) (by kernel_rfl) (by kernel_rfl) (by kernel_rfl) (by kernel_rfl) (by kernel_rfl) (by kernel_rfl) ?hst1 ?hst2 (Below.refl _ _) (fun hA => ⟨ow_val hA (wants_none rfl) 42 (u10) (by kernel_rfl) rfl rfl rfl rfl (by kernel_rfl) (fun w => by kernel_rfl), ow_val hA (wants_none rfl) 43 (.slice (some AB) n cb) (by kernel_rfl) rfl rfl rfl rfl (by kernel_rfl) (fun w => by kernel_rfl), ow_val hA (wants_none rfl) 44 (.int .i64 (i : Int)) (by kernel_rfl) rfl rfl rfl rfl (by kernel_rfl) (fun w => by kernel_rfl), ow_val hA (wants_none rfl) 45 (.pointer (some (AB.add i))) (by kernel_rfl) rfl rfl rfl rfl (by kernel_rfl) (fun w => run_idxS (A := AB) (i := i) (l := n) (c := cb) rfl (by kernel_rfl) (by kernel_rfl) Try.underlying24 hi sz_u8 w), ow_elem hA (wants_none rfl) 46 (.int .u8 (x : Int)) (by kernel_rfl) rfl rfl rfl rfl (by kernel_rfl) 5 ag_u8 (.tmp 45) rfl (AB.add i) (by kernel_rfl) (fun w1 hb => CB.out w1 hb), ow_val hA (wants_none rfl) 47 (.int .i64 (i : Int)) (by kernel_rfl) rfl rfl rfl rfl (by kernel_rfl) (fun w => by kernel_rfl), ow_val hA (wants_none rfl) 48 (.int .i64 (r : Int)) (by kernel_rfl) rfl rfl rfl rfl (by kernel_rfl) (fun w => run_rem64 (i := i) rfl (by kernel_rfl) Er.out (by omega) w), ow_val hA (wants_none rfl) 49 (.pointer (some ⟨w.heap.size + 2, r, none⟩)) (by kernel_rfl) rfl rfl rfl rfl (by kernel_rfl) (fun w => run_idx (i := r) rfl (by kernel_rfl) (by kernel_rfl) Try.underlying50 r64 sz_u8 w), ow_elem hA (wants_none rfl) 50 (.int .u8 (y : Int)) (by kernel_rfl) rfl rfl rfl rfl (by kernel_rfl) 5 ag_u8 (.tmp 49) rfl (⟨w.heap.size + 2, r, none⟩) (by kernel_rfl) (fun w1 hb => (D2.under hb).cell GY.out), ow_val hA (wants_none rfl) 51 (.int .u8 (z : Int)) (by kernel_rfl) rfl rfl rfl rfl (by kernel_rfl) (fun w => run_xorV (m := x) (n := y) rfl (by kernel_rfl) (by kernel_rfl) hx8 hy8 Ez.out w), ow_byte hA (wants_none rfl) 52 51 z rfl rfl (by kernel_rfl) (by kernel_rfl) rfl rfl rfl, trivial⟩) ?_
        case hst1 =>
          intro q hq hO
          simp only [List.mem_cons, List.not_mem_nil, or_false] at hq
          subst hq
          cases hO
        case hst2 =>
          intro q hq hO v w3 w4 row h1 h2 h3 h4
          simp only [List.mem_cons, List.not_mem_nil, or_false] at hq
          subst hq
          exact Const.keeps h1 h2 h3
        intro fv w9 hf hD hb9
        have h52 := (hf 52 _ rfl rfl).1
        simp only [putR, List.foldl_cons, List.foldl_nil, List.map_cons, List.map_nil, Act.put, List.setIfInBounds_toArray, List.set_cons_succ, List.set_cons_zero]
        obtain ⟨u52, e52⟩ : ∃ v, v = fv 52 := ⟨_, rfl⟩
        rw [← e52] at h52 ⊢
        have V52 : Kept (IntsV .u8 u52 w9 [z]) := ⟨Const.ints h52⟩
        clear hf hD CB e52 h52
        have F0 := D0.under hb9
        have F1 := D1.under hb9
        have F2 := D2.under hb9
        have Q9 := QR.trans (hb9.mono QR.size)
        have RO9 : Kept _ := ⟨RO.out.under hb9⟩
        have SN : Kept ((L.take i).length + [z].length ≤ 8796093022208) := ⟨by rw [List.length_take, LL.out]; simp; omega⟩
        have SB : w.heap.size + 3 ≤ w9.heap.size := F2.lt
        clear D0 D1 D2 QR RO hb9
        refine wl_app (by kernel_rfl) (.tmp 42) (.tmp 52) 24 5 .u8 1 rfl Try.underlying24 inf_u8 (by decide) (w.heap.size + 3) (L.take i) [z] u10 u52 (by kernel_rfl) (by kernel_rfl) RO9.out V52.out SN.out SB ?_
        intro v10 w10 r10 g10 _
        have QA := app_below (Below.refl (w.heap.size + 3) w9) SB RO9.out g10
        have G0 := F0.below QA (by omega)
        have G1 := F1.below QA (by omega)
        have G2 := F2.below QA (by omega)
        have Q10 := Q9.trans (QA.mono (by omega))
        have RO10 : Kept (Row (w.heap.size + 3) 5 .u8 (L.take (i + 1)) v10 w10) := ⟨by rw [List.take_add_one, GZ.out]; exact r10⟩
        clear F0 F1 F2 Q9 QA RO9 SN SB V52 r10 g10 GY GZ Er Ez Gx
        go_wp2_with fail
        go_roundg (gk - 1)
        case measure => omega
        case rel => exact ⟨i + 1, KB, by omega, by simp, EKB, LKB2, Q10, G0, G1, G2, RO10⟩

    case neg =>
      have hi' : ¬ (i : Int) < (n : Int) := by omega
      have VR : Kept (Row w.heap.size 5 .u8 L u10 wr) := ⟨by have := RO.out.mono (show w.heap.size ≤ w.heap.size + 3 by omega); rw [List.take_of_length_le (by rw [LL.out]; omega)] at this; exact this⟩
      clear D0 D1 D2 RO EKB0 LKB
      go_wp2_with fail
      go_ret2
      exact ⟨_, rfl, VR.out, QR⟩
end Go.Proofs.Ytpamcmhfimnfbaa.sh
