/-
  AeadStream, walked.
-/
import Derived.Test.YtpamcmhfimnfbaaZE
import Derived.Test.YtpamcmhfimnfbaaZF
namespace Go.Proofs.Ytpamcmhfimnfbaa.sh
open Go Go.RowKit
set_option linter.unusedVariables false
set_option linter.unusedSimpArgs false

theorem run_neq3 {o : Oper} {a : Act} {x y : Operand} {m : Nat} (ho : o.op = .binOp .neq 3 x y 3) (hx : a.eval x = .int .i64 (m : Int)) (hy : a.eval y = .int .i64 (m : Int)) (w : World) : (execOp a.eval o).run Try.prog w = .ok (.value (.bool false)) w := by
  unfold execOp
  simp only [ho, hx, hy]
  simp [go_sem]
theorem xor_pads (p q z : Nat) : (p ^^^ z) ^^^ (q ^^^ z) = p ^^^ q := by
  rw [Nat.xor_comm q z, Nat.xor_assoc p z, ← Nat.xor_assoc z z q, Nat.xor_self, Nat.zero_xor]

set_option maxRecDepth 100000 in
set_option maxHeartbeats 4000000 in
theorem stream7 (key : List Nat) (n : Nat) (vd : Value) (d : List Nat) (va : Value) (a : List Nat) (vb : Value) (b : List Nat) (w : World) (hk : key.length = 32) (hy : Bytes key) (hn : n < 18446744073709551616) (hvd : BytesV vd w d) (hyd : Bytes d) (hld : d.length ≤ maxLen) (hva : BytesV va w a) (hya : Bytes a) (hla : a.length ≤ maxLen) (hvb : BytesV vb w b) (hyb : Bytes b) (hlb : b.length ≤ maxLen) :
    Calls Try.prog 5 #[.agg (lockA key n vd), va, vb] w fun e w' => e = .returned (.bool true) ∧ Below w.heap.size w w' := by
  have KD : Kept _ := ⟨hvd⟩
  have KA : Kept _ := ⟨hva⟩
  have KB : Kept _ := ⟨hvb⟩
  obtain ⟨nd, hnd⟩ : ∃ n, n = d.length := ⟨_, rfl⟩
  obtain ⟨na, hna⟩ : ∃ n, n = a.length := ⟨_, rfl⟩
  obtain ⟨nb, hnb⟩ : ∃ n, n = b.length := ⟨_, rfl⟩
  obtain ⟨pd, cd, rfl⟩ := slice_form hvd hnd.symm
  obtain ⟨pa, ca, rfl⟩ := slice_form hva hna.symm
  obtain ⟨pb, cb, rfl⟩ := slice_form hvb hnb.symm
  have LK : Kept _ := ⟨hk⟩
  have A0 : Blk (w.alloc (.cells (lockA key n (.slice pd nd cd)) 26)) w.heap.size 26 (lockA key n (.slice pd nd cd)) := blk_new _ _ _
  have Q0 := lock_below w (lockA key n (.slice pd nd cd))
  by_cases hD : 1000 < nd
  case pos =>
    have hD' : (1000 : Int) < (nd : Int) := by omega
    clear hk hy hn hvd hyd hld hnd hva hya hla hna hvb hyb hlb hnb KD KA KB
    go_enter Try.func5, Try.ntmps5
    go_wp2_with fail
    refine (alive7 _).mono ?_
    rintro e w1 ⟨rfl, hb1⟩
    have B0 := A0.under hb1
    go_wp2_with (first | ((with_reducible refine wv_val (d := 18) ?hd ?hw (.pointer (some ⟨w.heap.size, 33, none⟩)) ?hr ?_); (case hd => rfl); (case hw => kernel_rfl); (case hr => intro w; kernel_rfl); simp only [Act.put, List.setIfInBounds_toArray, List.set_cons_succ, List.set_cons_zero]) | ((with_reducible refine wv_elem (d := 19) ?hd ?hw 24 ag_bytes (.tmp 18) ?ho (⟨w.heap.size, 33, none⟩) ?hx (.slice pd nd cd) ?hc ?_); (case hd => rfl); (case hw => kernel_rfl); (case ho => rfl); (case hx => kernel_rfl); (case hc => exact B0.cell (lock_ad _ _ _ LK.out)); simp only [Act.put, List.setIfInBounds_toArray, List.set_cons_succ, List.set_cons_zero]))
    go_ret
    exact ⟨rfl, Q0.trans (hb1.mono Q0.size)⟩
  case neg =>
  have hD' : ¬ (1000 : Int) < (nd : Int) := by omega
  by_cases hA : 1000 < na
  case pos =>
    have hA' : (1000 : Int) < (na : Int) := by omega
    clear hk hy hn hvd hyd hld hnd hva hya hla hna hvb hyb hlb hnb KD KA KB
    go_enter Try.func5, Try.ntmps5
    go_wp2_with fail
    refine (alive7 _).mono ?_
    rintro e w1 ⟨rfl, hb1⟩
    have B0 := A0.under hb1
    go_wp2_with (first | ((with_reducible refine wv_val (d := 18) ?hd ?hw (.pointer (some ⟨w.heap.size, 33, none⟩)) ?hr ?_); (case hd => rfl); (case hw => kernel_rfl); (case hr => intro w; kernel_rfl); simp only [Act.put, List.setIfInBounds_toArray, List.set_cons_succ, List.set_cons_zero]) | ((with_reducible refine wv_elem (d := 19) ?hd ?hw 24 ag_bytes (.tmp 18) ?ho (⟨w.heap.size, 33, none⟩) ?hx (.slice pd nd cd) ?hc ?_); (case hd => rfl); (case hw => kernel_rfl); (case ho => rfl); (case hx => kernel_rfl); (case hc => exact B0.cell (lock_ad _ _ _ LK.out)); simp only [Act.put, List.setIfInBounds_toArray, List.set_cons_succ, List.set_cons_zero]))
    go_ret
    exact ⟨rfl, Q0.trans (hb1.mono Q0.size)⟩
  case neg =>
  have hA' : ¬ (1000 : Int) < (na : Int) := by omega
  by_cases hB : 1000 < nb
  case pos =>
    have hB' : (1000 : Int) < (nb : Int) := by omega
    clear hk hy hn hvd hyd hld hnd hva hya hla hna hvb hyb hlb hnb KD KA KB
    go_enter Try.func5, Try.ntmps5
    go_wp2_with fail
    refine (alive7 _).mono ?_
    rintro e w1 ⟨rfl, hb1⟩
    have B0 := A0.under hb1
    go_wp2_with (first | ((with_reducible refine wv_val (d := 18) ?hd ?hw (.pointer (some ⟨w.heap.size, 33, none⟩)) ?hr ?_); (case hd => rfl); (case hw => kernel_rfl); (case hr => intro w; kernel_rfl); simp only [Act.put, List.setIfInBounds_toArray, List.set_cons_succ, List.set_cons_zero]) | ((with_reducible refine wv_elem (d := 19) ?hd ?hw 24 ag_bytes (.tmp 18) ?ho (⟨w.heap.size, 33, none⟩) ?hx (.slice pd nd cd) ?hc ?_); (case hd => rfl); (case hw => kernel_rfl); (case ho => rfl); (case hx => kernel_rfl); (case hc => exact B0.cell (lock_ad _ _ _ LK.out)); simp only [Act.put, List.setIfInBounds_toArray, List.set_cons_succ, List.set_cons_zero]))
    go_ret
    exact ⟨rfl, Q0.trans (hb1.mono Q0.size)⟩
  case neg =>
    have hB' : ¬ (1000 : Int) < (nb : Int) := by omega
    obtain ⟨L, hL⟩ : ∃ l, l = nonceL n := ⟨_, rfl⟩
    obtain ⟨E, hE⟩ : ∃ l, l = encL key L 1 a := ⟨_, rfl⟩
    obtain ⟨E2, hE2⟩ : ∃ l, l = encL key L 1 b := ⟨_, rfl⟩
    obtain ⟨X, hX⟩ : ∃ l, l = sealL key n d a := ⟨_, rfl⟩
    obtain ⟨Y, hY⟩ : ∃ l, l = sealL key n [] b := ⟨_, rfl⟩
    have LE : Kept (E.length = na) := ⟨by rw [hE, encL_len, ← hna]⟩
    have LE2 : Kept (E2.length = nb) := ⟨by rw [hE2, encL_len, ← hnb]⟩
    have TX : Kept (X.take na = E) := ⟨by rw [hX, sealL, ← hL, ← hE]; exact List.take_left' LE.out⟩
    have TY : Kept (Y.take nb = E2) := ⟨by rw [hY, sealL, ← hL, ← hE2]; exact List.take_left' LE2.out⟩
    obtain ⟨nx, hnx⟩ : ∃ q, q = na + 16 := ⟨_, rfl⟩
    obtain ⟨ny, hny⟩ : ∃ q, q = nb + 16 := ⟨_, rfl⟩
    have LX : Kept (X.length = nx) := ⟨by rw [hX, sealL_len, hnx, hna]⟩
    have LY : Kept (Y.length = ny) := ⟨by rw [hY, sealL_len, hny, hnb]⟩
    have HL : Kept (L.length = 12) := ⟨by rw [hL]; exact nonceL_len _⟩
    have GN : Kept (∀ i : Nat, i < 8 → L[4 + i]? = some (n / 2 ^ (8 * i) % 256)) := ⟨fun i h => by rw [hL, Nat.pow_mul]; exact nonce_get n i _ (digs_get n 8 i h)⟩
    obtain ⟨Z0, hZ⟩ : ∃ Z0, Z0 = List.replicate 12 0 := ⟨_, rfl⟩
    have HL2 : Kept (L.length = Z0.length) := ⟨by rw [HL.out, hZ]; rfl⟩
    have HZ : Kept (Z0.length = 12) := ⟨by rw [hZ]; rfl⟩
    have EI : Kept ((#[.int .u8 0, .int .u8 0, .int .u8 0, .int .u8 0, .int .u8 0, .int .u8 0, .int .u8 0, .int .u8 0, .int .u8 0, .int .u8 0, .int .u8 0, .int .u8 0] : Array Value) = ints .u8 Z0) := ⟨by rw [hZ]; exact z12_eq⟩
    have EM : Kept (mix L Z0 4 = Z0) := ⟨by rw [hL, hZ]; exact mix_four n⟩
    have CS1 : Kept (∀ (w' : World), Below w.heap.size w w' → Calls Try.prog 9 #[.agg (ints .u8 key), .int .u64 (n : Int), .slice pd nd cd, .slice pa na ca] w' fun e w2 => ∃ v, e = .returned (.tuple #[v, .int .i64 0]) ∧ BytesV v w2 X ∧ Below w'.heap.size w' w2) := ⟨fun w' hb => by
      have h := SealD key n d a _ _ w' hk hy hn (KD.out.under hb) (KA.out.under hb) hyd hya
      rw [sealP_ok _ _ _ _ (by omega) (by omega), ← hX] at h
      exact h⟩
    have CS2 : Kept (∀ (w' : World), Below w.heap.size w w' → Calls Try.prog 9 #[.agg (ints .u8 key), .int .u64 (n : Int), .slice none 0 0, .slice pb nb cb] w' fun e w2 => ∃ v, e = .returned (.tuple #[v, .int .i64 0]) ∧ BytesV v w2 Y ∧ Below w'.heap.size w' w2) := ⟨fun w' hb => by
      have h := SealD key n [] b _ _ w' hk hy hn (nil_bytesV _) (KB.out.under hb) nil_bytes hyb
      rw [sealP_ok _ _ _ _ (Nat.zero_le _) (by omega), ← hY] at h
      exact h⟩
    have CXO : Kept (∀ (w' : World), Below w.heap.size w w' → Calls Try.prog 13 #[.agg (ints .u8 key), .agg (ints .u8 L), .int .u32 1, .slice pa na ca] w' fun e w2 => ∃ v, e = .returned (.tuple #[v, .int .i64 0]) ∧ BytesV v w2 E ∧ Below w'.heap.size w' w2) := ⟨fun w' hb => by
      rw [hE]
      refine (Xor_ok key L a 1 _ w' hk hy HL.out (by rw [hL]; exact nonceL_bytes n) hya (KA.out.under hb) (by decide) (by omega) (by omega)).mono ?_
      rintro e w2 ⟨v, h1, h2, h3⟩
      exact ⟨v, h1, row_bytes h2, h3⟩⟩
    have GE : Kept (∀ i p : Nat, a[i]? = some p → E[i]? = some (p ^^^ padB key L 1 i)) := ⟨fun i p h => by rw [hE]; exact encL_get _ _ _ _ _ _ h⟩
    have GE2 : Kept (∀ i p : Nat, b[i]? = some p → E2[i]? = some (p ^^^ padB key L 1 i)) := ⟨fun i p h => by rw [hE2]; exact encL_get _ _ _ _ _ _ h⟩
    have KYA : Kept _ := ⟨hya⟩
    have KYB : Kept _ := ⟨hyb⟩
    have ENA : Kept _ := ⟨hna⟩
    have ENB : Kept _ := ⟨hnb⟩
    have Enx : Kept _ := ⟨hnx⟩
    have Eny : Kept _ := ⟨hny⟩
    have nx62 : nx < 4611686018427387904 := by omega
    have ny62 : ny < 4611686018427387904 := by omega
    clear hk hy hvd hyd hld hnd hva hya hla hna hvb hyb hlb hnb hL hE hE2 hX hY hnx hny hZ KD
    go_enter Try.func5, Try.ntmps5
    go_wp2_with fail
    refine (alive7 _).mono ?_
    rintro e w1 ⟨rfl, hb1⟩
    have B0 := A0.under hb1
    have Q1 := Q0.trans (hb1.mono Q0.size)
    clear A0 Q0 hb1
    go_wp2_with (first | ((with_reducible refine wv_val (d := 18) ?hd ?hw (.pointer (some ⟨w.heap.size, 33, none⟩)) ?hr ?_); (case hd => rfl); (case hw => kernel_rfl); (case hr => intro w; kernel_rfl); simp only [Act.put, List.setIfInBounds_toArray, List.set_cons_succ, List.set_cons_zero]) | ((with_reducible refine wv_elem (d := 19) ?hd ?hw 24 ag_bytes (.tmp 18) ?ho (⟨w.heap.size, 33, none⟩) ?hx (.slice pd nd cd) ?hc ?_); (case hd => rfl); (case hw => kernel_rfl); (case ho => rfl); (case hx => kernel_rfl); (case hc => exact B0.cell (lock_ad _ _ _ LK.out)); simp only [Act.put, List.setIfInBounds_toArray, List.set_cons_succ, List.set_cons_zero]))
    have B2 := B0.alloc (.cells #[.int .u8 0, .int .u8 0, .int .u8 0, .int .u8 0, .int .u8 0, .int .u8 0, .int .u8 0, .int .u8 0, .int .u8 0, .int .u8 0, .int .u8 0, .int .u8 0] 36)
    have B7 : Blk (w1.alloc (.cells #[.int .u8 0, .int .u8 0, .int .u8 0, .int .u8 0, .int .u8 0, .int .u8 0, .int .u8 0, .int .u8 0, .int .u8 0, .int .u8 0, .int .u8 0, .int .u8 0] 36)) w1.heap.size 36 (ints .u8 (mix L Z0 4)) := by rw [EM.out, ← EI.out]; exact blk_new w1 _ _
    have Q2 := Q1.alloc Q1.size (.cells #[.int .u8 0, .int .u8 0, .int .u8 0, .int .u8 0, .int .u8 0, .int .u8 0, .int .u8 0, .int .u8 0, .int .u8 0, .int .u8 0, .int .u8 0, .int .u8 0] 36)
    have hl1 : w.heap.size < w1.heap.size := B0.lt
    generalize hW : w1.alloc (.cells #[.int .u8 0, .int .u8 0, .int .u8 0, .int .u8 0, .int .u8 0, .int .u8 0, .int .u8 0, .int .u8 0, .int .u8 0, .int .u8 0, .int .u8 0, .int .u8 0] 36) = w2 at *
    generalize hg7 : w1.heap.size = g7 at *
    clear hW hg7 B0 Q1 EI EM
    go_loopg [32] 8 (fun k s32 wr => ∃ i : Nat, i + k = 8 ∧ s32 = .int .i64 (i : Int) ∧ Below w.heap.size w wr ∧ Blk wr w.heap.size 26 (lockA key n (.slice pd nd cd)) ∧ Blk wr g7 36 (ints .u8 (mix L Z0 (4 + i))))
    case atStart => exact ⟨0, by omega, rfl, Q2, B2, B7⟩
    case round =>
      obtain ⟨i, hik, rfl, HB, D0, D7⟩ := hrel
      clear Q2 B2 B7
      by_cases hi : i < 8
      case pos =>
        have hi' : (i : Int) < 8 := by omega
        obtain ⟨c, hc⟩ : ∃ c, c = 8 * i := ⟨_, rfl⟩
        obtain ⟨y, hy⟩ : ∃ y, y = n / 2 ^ c := ⟨_, rfl⟩
        obtain ⟨z, hz⟩ : ∃ z, z = y % 256 := ⟨_, rfl⟩
        obtain ⟨j, hj⟩ : ∃ j, j = 4 + i := ⟨_, rfl⟩
        have gz : Kept (L[j]? = some z) := ⟨by rw [hz, hy, hc, hj]; exact GN.out i hi⟩
        have Ec : Kept _ := ⟨hc⟩
        have Ey : Kept _ := ⟨hy⟩
        have Ez : Kept _ := ⟨hz⟩
        have Ej : Kept _ := ⟨hj⟩
        have E1 : Kept (j + 1 = 4 + (i + 1)) := ⟨by omega⟩
        have hc64 : c < 64 := by omega
        have hj12 : j < 12 := by omega
        rw [← hj] at D7
        have l2 : j < (ints .u8 (mix L Z0 j)).size := by rw [ints_size, mix_len L _ j HL2.out, HZ.out]; exact hj12
        clear hc hy hz hj
        go_wp2_with (first | ((with_reducible refine wv_val (d := 36) ?hd ?hw (.int .i64 (j : Int)) ?hr ?_); (case hd => rfl); (case hw => kernel_rfl); (case hr => intro w; exact run_addC 4 rfl (by kernel_rfl) Ej.out (by omega) w); simp only [Act.put, List.setIfInBounds_toArray, List.set_cons_succ, List.set_cons_zero]) | ((with_reducible refine wv_val (d := 37) ?hd ?hw (.pointer (some ⟨w.heap.size, 32, none⟩)) ?hr ?_); (case hd => rfl); (case hw => kernel_rfl); (case hr => intro w; kernel_rfl); simp only [Act.put, List.setIfInBounds_toArray, List.set_cons_succ, List.set_cons_zero]) | ((with_reducible refine wv_elem (d := 38) ?hd ?hw 23 ag_u64 (.tmp 37) ?ho (⟨w.heap.size, 32, none⟩) ?hx (.int .u64 (n : Int)) ?hc ?_); (case hd => rfl); (case hw => kernel_rfl); (case ho => rfl); (case hx => kernel_rfl); (case hc => exact D0.cell (lock_num _ _ _ LK.out)); simp only [Act.put, List.setIfInBounds_toArray, List.set_cons_succ, List.set_cons_zero]) | ((with_reducible refine wv_val (d := 40) ?hd ?hw (.int .i64 (c : Int)) ?hr ?_); (case hd => rfl); (case hw => kernel_rfl); (case hr => intro w; exact run_mulC 8 rfl (by kernel_rfl) Ec.out (by omega) w); simp only [Act.put, List.setIfInBounds_toArray, List.set_cons_succ, List.set_cons_zero]) | ((with_reducible refine wv_val (d := 41) ?hd ?hw (.int .u64 (y : Int)) ?hr ?_); (case hd => rfl); (case hw => kernel_rfl); (case hr => intro w; exact run_shr64V rfl (by kernel_rfl) (by kernel_rfl) hc64 hn Ey.out w); simp only [Act.put, List.setIfInBounds_toArray, List.set_cons_succ, List.set_cons_zero]) | ((with_reducible refine wv_val (d := 42) ?hd ?hw (.int .u8 (z : Int)) ?hr ?_); (case hd => rfl); (case hw => kernel_rfl); (case hr => intro w; exact run_c648 rfl (by kernel_rfl) Ez.out w); simp only [Act.put, List.setIfInBounds_toArray, List.set_cons_succ, List.set_cons_zero]) | ((with_reducible refine wv_val (d := 43) ?hd ?hw (.pointer (some ⟨g7, j, none⟩)) ?hr ?_); (case hd => rfl); (case hw => kernel_rfl); (case hr => intro w; exact run_idx rfl (by kernel_rfl) (by kernel_rfl) Try.underlying36 hj12 sz_u8 w); simp only [Act.put, List.setIfInBounds_toArray, List.set_cons_succ, List.set_cons_zero]) | (refine wl_setElem rfl 5 sz_u8 (.tmp 43) (.tmp 42) rfl g7 j .u8 (z : Int) rfl rfl _ D7 l2 ?_))
        intro w4 E7 P4
        rw [ints_set, mix_set L _ j z HL2.out gz.out, E1.out] at E7
        have E0 := P4.blk D0 (by omega)
        have HB4 := HB.trans (P4.below (by omega))
        clear D0 D7 HB P4 gz l2 Ec Ey Ez Ej
        go_wp2_with fail
        go_roundg (gk - 1)
        case measure => omega
        case rel => exact ⟨i + 1, by omega, by simp, HB4, E0, E7⟩
      case neg =>
        have hi' : ¬ (i : Int) < 8 := by omega
        obtain rfl : i = 8 := by omega
        have e : mix L Z0 (4 + 8) = L := by rw [show 4 + 8 = Z0.length by rw [HZ.out]]; exact mix_all L Z0 HL2.out
        rw [e] at D7
        have C1 := CS1.out wr HB
        clear e CS1 GN HZ HL2
        go_wp2_with (first | ((with_reducible refine wv_val (d := 46) ?hd ?hw (.pointer (some ⟨w.heap.size, 0, none⟩)) ?hr ?_); (case hd => rfl); (case hw => kernel_rfl); (case hr => intro w; kernel_rfl); simp only [Act.put, List.setIfInBounds_toArray, List.set_cons_succ, List.set_cons_zero]) | ((with_reducible refine wv_partA (d := 47) ?hd ?hw 22 (.tmp 46) ?ho (w.heap.size) 0 ?hx (t' := 26) (lockA key n (.slice pd nd cd)) (ints .u8 key) 32 5 Try.underlying22 ?hs ?hg ?hp ?_); (case hd => rfl); (case hw => kernel_rfl); (case ho => rfl); (case hx => kernel_rfl); (case hs => rw [ints_size, LK.out]; exact t32_info); (case hg => exact D0); (case hp => exact lock_key _ _ _); simp only [Act.put, List.setIfInBounds_toArray, List.set_cons_succ, List.set_cons_zero]) | ((with_reducible refine wv_val (d := 48) ?hd ?hw (.pointer (some ⟨w.heap.size, 32, none⟩)) ?hr ?_); (case hd => rfl); (case hw => kernel_rfl); (case hr => intro w; kernel_rfl); simp only [Act.put, List.setIfInBounds_toArray, List.set_cons_succ, List.set_cons_zero]) | ((with_reducible refine wv_elem (d := 49) ?hd ?hw 23 ag_u64 (.tmp 48) ?ho (⟨w.heap.size, 32, none⟩) ?hx (.int .u64 (n : Int)) ?hc ?_); (case hd => rfl); (case hw => kernel_rfl); (case ho => rfl); (case hx => kernel_rfl); (case hc => exact D0.cell (lock_num _ _ _ LK.out)); simp only [Act.put, List.setIfInBounds_toArray, List.set_cons_succ, List.set_cons_zero]) | ((with_reducible refine wv_val (d := 50) ?hd ?hw (.pointer (some ⟨w.heap.size, 33, none⟩)) ?hr ?_); (case hd => rfl); (case hw => kernel_rfl); (case hr => intro w; kernel_rfl); simp only [Act.put, List.setIfInBounds_toArray, List.set_cons_succ, List.set_cons_zero]) | ((with_reducible refine wv_elem (d := 51) ?hd ?hw 24 ag_bytes (.tmp 50) ?ho (⟨w.heap.size, 33, none⟩) ?hx (.slice pd nd cd) ?hc ?_); (case hd => rfl); (case hw => kernel_rfl); (case ho => rfl); (case hx => kernel_rfl); (case hc => exact D0.cell (lock_ad _ _ _ LK.out)); simp only [Act.put, List.setIfInBounds_toArray, List.set_cons_succ, List.set_cons_zero]))
        refine C1.mono ?_
        rintro e w3 ⟨v1, rfl, h1, hb3⟩
        have E0 := D0.under hb3
        have E7 := D7.under hb3
        have Q3 := HB.trans (hb3.mono HB.size)
        obtain ⟨px, cx, rfl⟩ := slice_form h1 LX.out
        have VX3 : Kept _ := ⟨h1⟩
        have C2 := CS2.out w3 Q3
        clear D0 D7 HB hb3 h1 C1 CS2
        go_wp2_with (first | ((with_reducible refine wv_val (d := 57) ?hd ?hw (.pointer (some ⟨w.heap.size, 0, none⟩)) ?hr ?_); (case hd => rfl); (case hw => kernel_rfl); (case hr => intro w; kernel_rfl); simp only [Act.put, List.setIfInBounds_toArray, List.set_cons_succ, List.set_cons_zero]) | ((with_reducible refine wv_partA (d := 58) ?hd ?hw 22 (.tmp 57) ?ho (w.heap.size) 0 ?hx (t' := 26) (lockA key n (.slice pd nd cd)) (ints .u8 key) 32 5 Try.underlying22 ?hs ?hg ?hp ?_); (case hd => rfl); (case hw => kernel_rfl); (case ho => rfl); (case hx => kernel_rfl); (case hs => rw [ints_size, LK.out]; exact t32_info); (case hg => exact E0); (case hp => exact lock_key _ _ _); simp only [Act.put, List.setIfInBounds_toArray, List.set_cons_succ, List.set_cons_zero]) | ((with_reducible refine wv_val (d := 59) ?hd ?hw (.pointer (some ⟨w.heap.size, 32, none⟩)) ?hr ?_); (case hd => rfl); (case hw => kernel_rfl); (case hr => intro w; kernel_rfl); simp only [Act.put, List.setIfInBounds_toArray, List.set_cons_succ, List.set_cons_zero]) | ((with_reducible refine wv_elem (d := 60) ?hd ?hw 23 ag_u64 (.tmp 59) ?ho (⟨w.heap.size, 32, none⟩) ?hx (.int .u64 (n : Int)) ?hc ?_); (case hd => rfl); (case hw => kernel_rfl); (case ho => rfl); (case hx => kernel_rfl); (case hc => exact E0.cell (lock_num _ _ _ LK.out)); simp only [Act.put, List.setIfInBounds_toArray, List.set_cons_succ, List.set_cons_zero]))
        refine C2.mono ?_
        rintro e w4 ⟨v2, rfl, h2, hb4⟩
        have F0 := E0.under hb4
        have F7 := E7.under hb4
        have Q4 := Q3.trans (hb4.mono Q3.size)
        obtain ⟨py, cy, rfl⟩ := slice_form h2 LY.out
        have VY4 : Kept _ := ⟨h2⟩
        have VX4 : Kept _ := ⟨VX3.out.under hb4⟩
        have C3 := CXO.out w4 Q4
        clear E0 E7 Q3 hb4 h2 C2 CXO VX3
        go_wp2_with (first | ((with_reducible refine wv_val (d := 66) ?hd ?hw (.pointer (some ⟨w.heap.size, 0, none⟩)) ?hr ?_); (case hd => rfl); (case hw => kernel_rfl); (case hr => intro w; kernel_rfl); simp only [Act.put, List.setIfInBounds_toArray, List.set_cons_succ, List.set_cons_zero]) | ((with_reducible refine wv_partA (d := 67) ?hd ?hw 22 (.tmp 66) ?ho (w.heap.size) 0 ?hx (t' := 26) (lockA key n (.slice pd nd cd)) (ints .u8 key) 32 5 Try.underlying22 ?hs ?hg ?hp ?_); (case hd => rfl); (case hw => kernel_rfl); (case ho => rfl); (case hx => kernel_rfl); (case hs => rw [ints_size, LK.out]; exact t32_info); (case hg => exact F0); (case hp => exact lock_key _ _ _); simp only [Act.put, List.setIfInBounds_toArray, List.set_cons_succ, List.set_cons_zero]) | ((with_reducible refine wv_row (d := 68) ?hd ?hw 36 (.tmp 7) ?ho (g7) ?hx (t' := 36) (ints .u8 L) _ _ Try.underlying36 ?hs ?hg ?_); (case hd => rfl); (case hw => kernel_rfl); (case ho => rfl); (case hx => kernel_rfl); (case hs => rw [ints_size, HL.out]; exact i12_info); (case hg => exact F7); simp only [Act.put, List.setIfInBounds_toArray, List.set_cons_succ, List.set_cons_zero]))
        refine C3.mono ?_
        rintro e w5 ⟨v3, rfl, h3, hb5⟩
        have Q5 := Q4.trans (hb5.mono Q4.size)
        obtain ⟨pc, cc, rfl⟩ := slice_form h3 LE.out
        have VC : Kept _ := ⟨h3⟩
        have VX : Kept _ := ⟨VX4.out.under hb5⟩
        have VY : Kept _ := ⟨VY4.out.under hb5⟩
        have VXE : Kept (BytesV (.slice px na cx) w5 E) := ⟨by
          have h := (bytesV_ints VX.out).take (m := na) (by rw [LX.out, Enx.out]; omega)
          rw [TX.out] at h
          exact h⟩
        have hncx : na ≤ cx := by obtain ⟨_, _, e1, e2, _⟩ := VX.out; simp only [Value.slice.injEq] at e1; have h1 := LX.out; have h2 := Enx.out; omega
        clear F0 F7 Q4 hb5 h3 C3 VX4 VY4
        go_wp2_with fail
        refine region_ownL w5 36 [(73, .int .i64 0), (74, .bool false), (75, .bool false), (76, .int .i64 0), (77, .bool false), (78, .bool false), (79, .bool false), (80, .int .i64 0), (81, .bool false), (82, .bool false), (83, .bool false), (84, .slice px nx cx), (85, .int .i64 (nx : Int)), (86, .slice pa na ca), (87, .int .i64 (na : Int)), (88, .int .i64 (nx : Int)), (89, .bool false), (90, .bool false), (91, .bool false), (92, .slice px nx cx), (93, .slice pa na ca), (94, .int .i64 (na : Int)), (95, .slice px na cx), (96, .string (strOf E)), (97, .slice pc na cc), (98, .string (strOf E)), (99, .bool false), (100, .bool false), (101, .bool false), (102, .slice py ny cy), (103, .int .i64 (ny : Int)), (104, .slice pb nb cb), (105, .int .i64 (nb : Int)), (106, .int .i64 (ny : Int)), (107, .bool false), (108, .bool false)] [] [] [] rfl (by kernel_rfl) (by kernel_rfl) (by kernel_rfl) (by kernel_rfl) (by kernel_rfl) (by kernel_rfl) (by kernel_rfl) (by kernel_rfl) (by kernel_rfl) (by kernel_rfl) (by kernel_rfl) ?hst1 ?hst2 (Below.refl _ _) (fun hA => ⟨ow_val hA (wants_none rfl) 73 (.int .i64 0) (by kernel_rfl) rfl rfl rfl rfl (by kernel_rfl) (fun w => by kernel_rfl), ow_val hA (wants_none rfl) 74 (.bool false) (by kernel_rfl) rfl rfl rfl rfl (by kernel_rfl) (fun w => by kernel_rfl), ow_val hA (wants_none rfl) 75 (.bool false) (by kernel_rfl) rfl rfl rfl rfl (by kernel_rfl) (fun w => by kernel_rfl), ow_val hA (wants_at hA 2 false 75 rfl rfl (by kernel_rfl) rfl rfl (by kernel_rfl)) 76 (.int .i64 0) (by kernel_rfl) rfl rfl rfl rfl (by kernel_rfl) (fun w => by kernel_rfl), ow_val hA (wants_at hA 2 false 75 rfl rfl (by kernel_rfl) rfl rfl (by kernel_rfl)) 77 (.bool false) (by kernel_rfl) rfl rfl rfl rfl (by kernel_rfl) (fun w => by kernel_rfl), ow_val hA (wants_none rfl) 78 (.bool false) (by kernel_rfl) rfl rfl rfl rfl (by kernel_rfl) (fun w => by kernel_rfl), ow_val hA (wants_none rfl) 79 (.bool false) (by kernel_rfl) rfl rfl rfl rfl (by kernel_rfl) (fun w => by kernel_rfl), ow_val hA (wants_at hA 6 false 79 rfl rfl (by kernel_rfl) rfl rfl (by kernel_rfl)) 80 (.int .i64 0) (by kernel_rfl) rfl rfl rfl rfl (by kernel_rfl) (fun w => by kernel_rfl), ow_val hA (wants_at hA 6 false 79 rfl rfl (by kernel_rfl) rfl rfl (by kernel_rfl)) 81 (.bool false) (by kernel_rfl) rfl rfl rfl rfl (by kernel_rfl) (fun w => by kernel_rfl), ow_val hA (wants_none rfl) 82 (.bool false) (by kernel_rfl) rfl rfl rfl rfl (by kernel_rfl) (fun w => by kernel_rfl), ow_val hA (wants_none rfl) 83 (.bool false) (by kernel_rfl) rfl rfl rfl rfl (by kernel_rfl) (fun w => by kernel_rfl), ow_val hA (wants_at hA 10 false 83 rfl rfl (by kernel_rfl) rfl rfl (by kernel_rfl)) 84 (.slice px nx cx) (by kernel_rfl) rfl rfl rfl rfl (by kernel_rfl) (fun w => by kernel_rfl), ow_val hA (wants_at hA 10 false 83 rfl rfl (by kernel_rfl) rfl rfl (by kernel_rfl)) 85 (.int .i64 (nx : Int)) (by kernel_rfl) rfl rfl rfl rfl (by kernel_rfl) (fun w => by kernel_rfl), ow_val hA (wants_at hA 10 false 83 rfl rfl (by kernel_rfl) rfl rfl (by kernel_rfl)) 86 (.slice pa na ca) (by kernel_rfl) rfl rfl rfl rfl (by kernel_rfl) (fun w => by kernel_rfl), ow_val hA (wants_at hA 10 false 83 rfl rfl (by kernel_rfl) rfl rfl (by kernel_rfl)) 87 (.int .i64 (na : Int)) (by kernel_rfl) rfl rfl rfl rfl (by kernel_rfl) (fun w => by kernel_rfl), ow_val hA (wants_at hA 10 false 83 rfl rfl (by kernel_rfl) rfl rfl (by kernel_rfl)) 88 (.int .i64 (nx : Int)) (by kernel_rfl) rfl rfl rfl rfl (by kernel_rfl) (fun w => run_addZ 16 rfl (by kernel_rfl) Enx.out nx62 w), ow_val hA (wants_at hA 10 false 83 rfl rfl (by kernel_rfl) rfl rfl (by kernel_rfl)) 89 (.bool false) (by kernel_rfl) rfl rfl rfl rfl (by kernel_rfl) (fun w => run_neq3 (m := nx) rfl (by kernel_rfl) (by kernel_rfl) w), ow_val hA (wants_none rfl) 90 (.bool false) (by kernel_rfl) rfl rfl rfl rfl (by kernel_rfl) (fun w => by kernel_rfl), ow_val hA (wants_none rfl) 91 (.bool false) (by kernel_rfl) rfl rfl rfl rfl (by kernel_rfl) (fun w => by kernel_rfl), ow_val hA (wants_at hA 18 false 91 rfl rfl (by kernel_rfl) rfl rfl (by kernel_rfl)) 92 (.slice px nx cx) (by kernel_rfl) rfl rfl rfl rfl (by kernel_rfl) (fun w => by kernel_rfl), ow_val hA (wants_at hA 18 false 91 rfl rfl (by kernel_rfl) rfl rfl (by kernel_rfl)) 93 (.slice pa na ca) (by kernel_rfl) rfl rfl rfl rfl (by kernel_rfl) (fun w => by kernel_rfl), ow_val hA (wants_at hA 18 false 91 rfl rfl (by kernel_rfl) rfl rfl (by kernel_rfl)) 94 (.int .i64 (na : Int)) (by kernel_rfl) rfl rfl rfl rfl (by kernel_rfl) (fun w => by kernel_rfl), ow_val hA (wants_at hA 18 false 91 rfl rfl (by kernel_rfl) rfl rfl (by kernel_rfl)) 95 (.slice px na cx) (by kernel_rfl) rfl rfl rfl rfl (by kernel_rfl) (fun w => cutTo_run (p := px) (l := nx) (c := cx) (m := na) rfl (by kernel_rfl) (by kernel_rfl) Try.underlying24 sz_u8 hncx w), ow_str hA (wants_at hA 18 false 91 rfl rfl (by kernel_rfl) rfl rfl (by kernel_rfl)) 96 (.string (strOf E)) (by kernel_rfl) rfl rfl rfl rfl (by kernel_rfl) (.tmp 95) rfl _ (by kernel_rfl) E (fun w1 hb => VXE.out.under hb) rfl, ow_val hA (wants_at hA 18 false 91 rfl rfl (by kernel_rfl) rfl rfl (by kernel_rfl)) 97 (.slice pc na cc) (by kernel_rfl) rfl rfl rfl rfl (by kernel_rfl) (fun w => by kernel_rfl), ow_str hA (wants_at hA 18 false 91 rfl rfl (by kernel_rfl) rfl rfl (by kernel_rfl)) 98 (.string (strOf E)) (by kernel_rfl) rfl rfl rfl rfl (by kernel_rfl) (.tmp 97) rfl _ (by kernel_rfl) E (fun w1 hb => VC.out.under hb) rfl, ow_val hA (wants_at hA 18 false 91 rfl rfl (by kernel_rfl) rfl rfl (by kernel_rfl)) 99 (.bool false) (by kernel_rfl) rfl rfl rfl rfl (by kernel_rfl) (fun w => run_neq_str (s := strOf E) rfl (by kernel_rfl) (by kernel_rfl) w), ow_val hA (wants_none rfl) 100 (.bool false) (by kernel_rfl) rfl rfl rfl rfl (by kernel_rfl) (fun w => by kernel_rfl), ow_val hA (wants_none rfl) 101 (.bool false) (by kernel_rfl) rfl rfl rfl rfl (by kernel_rfl) (fun w => by kernel_rfl), ow_val hA (wants_at hA 28 false 101 rfl rfl (by kernel_rfl) rfl rfl (by kernel_rfl)) 102 (.slice py ny cy) (by kernel_rfl) rfl rfl rfl rfl (by kernel_rfl) (fun w => by kernel_rfl), ow_val hA (wants_at hA 28 false 101 rfl rfl (by kernel_rfl) rfl rfl (by kernel_rfl)) 103 (.int .i64 (ny : Int)) (by kernel_rfl) rfl rfl rfl rfl (by kernel_rfl) (fun w => by kernel_rfl), ow_val hA (wants_at hA 28 false 101 rfl rfl (by kernel_rfl) rfl rfl (by kernel_rfl)) 104 (.slice pb nb cb) (by kernel_rfl) rfl rfl rfl rfl (by kernel_rfl) (fun w => by kernel_rfl), ow_val hA (wants_at hA 28 false 101 rfl rfl (by kernel_rfl) rfl rfl (by kernel_rfl)) 105 (.int .i64 (nb : Int)) (by kernel_rfl) rfl rfl rfl rfl (by kernel_rfl) (fun w => by kernel_rfl), ow_val hA (wants_at hA 28 false 101 rfl rfl (by kernel_rfl) rfl rfl (by kernel_rfl)) 106 (.int .i64 (ny : Int)) (by kernel_rfl) rfl rfl rfl rfl (by kernel_rfl) (fun w => run_addZ 16 rfl (by kernel_rfl) Eny.out ny62 w), ow_val hA (wants_at hA 28 false 101 rfl rfl (by kernel_rfl) rfl rfl (by kernel_rfl)) 107 (.bool false) (by kernel_rfl) rfl rfl rfl rfl (by kernel_rfl) (fun w => run_neq3 (m := ny) rfl (by kernel_rfl) (by kernel_rfl) w), ow_val hA (wants_none rfl) 108 (.bool false) (by kernel_rfl) rfl rfl rfl rfl (by kernel_rfl) (fun w => by kernel_rfl), trivial⟩) ?_
        case hst1 => intro q hq; cases hq
        case hst2 => intro q hq; cases hq
        intro fv w6 hf hD6 hb6
        simp only [putR, List.foldl_cons, List.foldl_nil, List.map_cons, List.map_nil, Act.put, List.setIfInBounds_toArray, List.set_cons_succ, List.set_cons_zero]
        refine (show wpList _ _ _ [] _ _ from ?_)
        refine wpList_nil ?_
        have Q6 := Q5.trans (hb6.mono Q5.size)
        have VX6 : Kept _ := ⟨VX.out.under hb6⟩
        have VY6 : Kept _ := ⟨VY.out.under hb6⟩
        have VA6 : Kept _ := ⟨KA.out.under Q6⟩
        have VB6 : Kept _ := ⟨KB.out.under Q6⟩
        obtain ⟨mm, hmm⟩ : ∃ m, m = min na nb := ⟨_, rfl⟩
        have Emm : Kept _ := ⟨hmm⟩
        have mma : mm ≤ na := by omega
        have mmb : mm ≤ nb := by omega
        clear hf hD6 VC VX VY VXE hb6 Q5 hmm KA KB
        go_wp2_with (first | ((with_reducible refine wv_val (d := 113) ?hd ?hw (.int .i64 (mm : Int)) ?hr ?_); (case hd => rfl); (case hw => kernel_rfl); (case hr => intro w; exact run_min2 rfl (by kernel_rfl) (by kernel_rfl) Emm.out w); simp only [Act.put, List.setIfInBounds_toArray, List.set_cons_succ, List.set_cons_zero]))
        go_loopg [114] mm (fun k s114 wz => ∃ i : Nat, i + k = mm ∧ s114 = .int .i64 (i : Int) ∧ Below w6.heap.size w6 wz)
        case atStart => exact ⟨0, by omega, rfl, Below.refl _ _⟩
        case round =>
          rename World => wz
          obtain ⟨i, hik, rfl, HZ⟩ := hrel
          by_cases hi : i < mm
          case neg =>
            have hi' : ¬ (i : Int) < (mm : Int) := by omega
            have QZ := Q6.trans (HZ.mono Q6.size)
            clear VX6 VY6 VA6 VB6 HZ
            go_wp2_with fail
            go_ret
            exact ⟨rfl, QZ⟩
          case pos =>
            have hi' : (i : Int) < (mm : Int) := by omega
            have hia : i < na := by omega
            have hib : i < nb := by omega
            have hix : i < nx := by have := Enx.out; omega
            have hiy : i < ny := by have := Eny.out; omega
            obtain ⟨p, hp⟩ : ∃ p, a[i]? = some p := ⟨_, List.getElem?_eq_getElem (by have := ENA.out; omega)⟩
            obtain ⟨q, hq⟩ : ∃ p, b[i]? = some p := ⟨_, List.getElem?_eq_getElem (by have := ENB.out; omega)⟩
            obtain ⟨x, hx⟩ : ∃ x, x = p ^^^ padB key L 1 i := ⟨_, rfl⟩
            obtain ⟨y, hy⟩ : ∃ x, x = q ^^^ padB key L 1 i := ⟨_, rfl⟩
            obtain ⟨z, hz⟩ : ∃ z, z = p ^^^ q := ⟨_, rfl⟩
            have gx : X[i]? = some x := by rw [← List.getElem?_take_of_lt hia, TX.out, hx]; exact GE.out i p hp
            have gy : Y[i]? = some y := by rw [← List.getElem?_take_of_lt hib, TY.out, hy]; exact GE2.out i q hq
            have hp8 : p < 256 := KYA.out i p hp
            have hq8 : q < 256 := KYB.out i q hq
            have hx8 : x < 256 := by rw [hx]; exact xor_lt8 hp8 (padB_lt _ _ _ _)
            have hy8 : y < 256 := by rw [hy]; exact xor_lt8 hq8 (padB_lt _ _ _ _)
            have Ez : Kept (z = x ^^^ y) := ⟨by rw [hz, hx, hy, xor_pads]⟩
            have Ez2 : Kept _ := ⟨hz⟩
            have VXz : Kept _ := ⟨VX6.out.under HZ⟩
            have VYz : Kept _ := ⟨VY6.out.under HZ⟩
            have VAz : Kept _ := ⟨VA6.out.under HZ⟩
            have VBz : Kept _ := ⟨VB6.out.under HZ⟩
            obtain ⟨AX, rfl, _, _⟩ := bytes_at VXz.out gx
            obtain ⟨AY, rfl, _, _⟩ := bytes_at VYz.out gy
            obtain ⟨AA, rfl, _, _⟩ := bytes_at VAz.out hp
            obtain ⟨AB, rfl, _, _⟩ := bytes_at VBz.out hq
            have CX : Kept (∀ w', Below wz.heap.size wz w' → w'.cell? (AX.add i) = some (.int .u8 (x : Int))) := ⟨fun w' hb => bytes_cell (VXz.out.under hb) gx⟩
            have CY : Kept (∀ w', Below wz.heap.size wz w' → w'.cell? (AY.add i) = some (.int .u8 (y : Int))) := ⟨fun w' hb => bytes_cell (VYz.out.under hb) gy⟩
            have CA : Kept (∀ w', Below wz.heap.size wz w' → w'.cell? (AA.add i) = some (.int .u8 (p : Int))) := ⟨fun w' hb => bytes_cell (VAz.out.under hb) hp⟩
            have CB : Kept (∀ w', Below wz.heap.size wz w' → w'.cell? (AB.add i) = some (.int .u8 (q : Int))) := ⟨fun w' hb => bytes_cell (VBz.out.under hb) hq⟩
            clear hp hq hx hy hz gx gy VXz VYz VAz VBz
            go_wp2_with fail
            refine region_ownL wz 19 [(117, .slice (some AX) nx cx), (118, .int .i64 (i : Int)), (119, .pointer (some (AX.add i))), (120, .int .u8 (x : Int)), (121, .slice (some AY) ny cy), (122, .int .i64 (i : Int)), (123, .pointer (some (AY.add i))), (124, .int .u8 (y : Int)), (125, .int .u8 (z : Int)), (126, .slice (some AA) na ca), (127, .int .i64 (i : Int)), (128, .pointer (some (AA.add i))), (129, .int .u8 (p : Int)), (130, .slice (some AB) nb cb), (131, .int .i64 (i : Int)), (132, .pointer (some (AB.add i))), (133, .int .u8 (q : Int)), (134, .int .u8 (z : Int)), (135, .bool false)] [] [] [] rfl (by kernel_rfl) (by kernel_rfl) (by kernel_rfl) (by kernel_rfl) (by kernel_rfl) (by kernel_rfl) (by kernel_rfl) (by kernel_rfl) (by kernel_rfl) (by kernel_rfl) (by kernel_rfl) ?hst1 ?hst2 (Below.refl _ _) (fun hA => ⟨ow_val hA (wants_none rfl) 117 (.slice (some AX) nx cx) (by kernel_rfl) rfl rfl rfl rfl (by kernel_rfl) (fun w => by kernel_rfl), ow_val hA (wants_none rfl) 118 (.int .i64 (i : Int)) (by kernel_rfl) rfl rfl rfl rfl (by kernel_rfl) (fun w => by kernel_rfl), ow_val hA (wants_none rfl) 119 (.pointer (some (AX.add i))) (by kernel_rfl) rfl rfl rfl rfl (by kernel_rfl) (fun w => run_idxS (A := AX) (i := i) (l := nx) (c := cx) rfl (by kernel_rfl) (by kernel_rfl) Try.underlying24 hix sz_u8 w), ow_elem hA (wants_none rfl) 120 (.int .u8 (x : Int)) (by kernel_rfl) rfl rfl rfl rfl (by kernel_rfl) 5 ag_u8 (.tmp 119) rfl (AX.add i) (by kernel_rfl) (fun w1 hb => CX.out w1 hb), ow_val hA (wants_none rfl) 121 (.slice (some AY) ny cy) (by kernel_rfl) rfl rfl rfl rfl (by kernel_rfl) (fun w => by kernel_rfl), ow_val hA (wants_none rfl) 122 (.int .i64 (i : Int)) (by kernel_rfl) rfl rfl rfl rfl (by kernel_rfl) (fun w => by kernel_rfl), ow_val hA (wants_none rfl) 123 (.pointer (some (AY.add i))) (by kernel_rfl) rfl rfl rfl rfl (by kernel_rfl) (fun w => run_idxS (A := AY) (i := i) (l := ny) (c := cy) rfl (by kernel_rfl) (by kernel_rfl) Try.underlying24 hiy sz_u8 w), ow_elem hA (wants_none rfl) 124 (.int .u8 (y : Int)) (by kernel_rfl) rfl rfl rfl rfl (by kernel_rfl) 5 ag_u8 (.tmp 123) rfl (AY.add i) (by kernel_rfl) (fun w1 hb => CY.out w1 hb), ow_val hA (wants_none rfl) 125 (.int .u8 (z : Int)) (by kernel_rfl) rfl rfl rfl rfl (by kernel_rfl) (fun w => run_xorV (m := x) (n := y) rfl (by kernel_rfl) (by kernel_rfl) hx8 hy8 Ez.out w), ow_val hA (wants_none rfl) 126 (.slice (some AA) na ca) (by kernel_rfl) rfl rfl rfl rfl (by kernel_rfl) (fun w => by kernel_rfl), ow_val hA (wants_none rfl) 127 (.int .i64 (i : Int)) (by kernel_rfl) rfl rfl rfl rfl (by kernel_rfl) (fun w => by kernel_rfl), ow_val hA (wants_none rfl) 128 (.pointer (some (AA.add i))) (by kernel_rfl) rfl rfl rfl rfl (by kernel_rfl) (fun w => run_idxS (A := AA) (i := i) (l := na) (c := ca) rfl (by kernel_rfl) (by kernel_rfl) Try.underlying24 hia sz_u8 w), ow_elem hA (wants_none rfl) 129 (.int .u8 (p : Int)) (by kernel_rfl) rfl rfl rfl rfl (by kernel_rfl) 5 ag_u8 (.tmp 128) rfl (AA.add i) (by kernel_rfl) (fun w1 hb => CA.out w1 hb), ow_val hA (wants_none rfl) 130 (.slice (some AB) nb cb) (by kernel_rfl) rfl rfl rfl rfl (by kernel_rfl) (fun w => by kernel_rfl), ow_val hA (wants_none rfl) 131 (.int .i64 (i : Int)) (by kernel_rfl) rfl rfl rfl rfl (by kernel_rfl) (fun w => by kernel_rfl), ow_val hA (wants_none rfl) 132 (.pointer (some (AB.add i))) (by kernel_rfl) rfl rfl rfl rfl (by kernel_rfl) (fun w => run_idxS (A := AB) (i := i) (l := nb) (c := cb) rfl (by kernel_rfl) (by kernel_rfl) Try.underlying24 hib sz_u8 w), ow_elem hA (wants_none rfl) 133 (.int .u8 (q : Int)) (by kernel_rfl) rfl rfl rfl rfl (by kernel_rfl) 5 ag_u8 (.tmp 132) rfl (AB.add i) (by kernel_rfl) (fun w1 hb => CB.out w1 hb), ow_val hA (wants_none rfl) 134 (.int .u8 (z : Int)) (by kernel_rfl) rfl rfl rfl rfl (by kernel_rfl) (fun w => run_xorV (m := p) (n := q) rfl (by kernel_rfl) (by kernel_rfl) hp8 hq8 Ez2.out w), ow_val hA (wants_none rfl) 135 (.bool false) (by kernel_rfl) rfl rfl rfl rfl (by kernel_rfl) (fun w => run_neq8 (m := z) rfl (by kernel_rfl) (by kernel_rfl) w), trivial⟩) ?_
            case hst1 => intro q hq; cases hq
            case hst2 => intro q hq; cases hq
            intro fv w7 hf hD7 hb7
            simp only [putR, List.foldl_cons, List.foldl_nil, List.map_cons, List.map_nil, Act.put, List.setIfInBounds_toArray, List.set_cons_succ, List.set_cons_zero]
            refine (show wpList _ _ _ [] _ _ from ?_)
            refine wpList_nil ?_
            have HZ7 := HZ.trans (hb7.mono HZ.size)
            clear hf hD7 CX CY CA CB HZ hb7
            go_wp2_with fail
            go_roundg (gk - 1)
            case measure => omega
            case rel => exact ⟨i + 1, by omega, by simp, HZ7⟩
end Go.Proofs.Ytpamcmhfimnfbaa.sh
