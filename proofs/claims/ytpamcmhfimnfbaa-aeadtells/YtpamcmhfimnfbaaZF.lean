/-
  The reference of layer 7: bytes of a number, a nonce, bytes filled up.
-/
import Derived.Test.YtpamcmhfimnfbaaZX
import Derived.Test.YtpamcmhfimnfbaaZD
namespace Go.Proofs.Ytpamcmhfimnfbaa.sh
open Go Go.RowKit
set_option linter.unusedVariables false
set_option linter.unusedSimpArgs false

theorem run_remU {o : Oper} {a : Act} {x : Operand} {m z : Nat} (ho : o.op = .binOp .rem 23 x (.const (.int .u64 256)) 23) (hx : a.eval x = .int .u64 (m : Int)) (hz : z = m % 256) (w : World) : (execOp a.eval o).run Try.prog w = .ok (.value (.int .u64 (z : Int))) w := by
  have e3 : a.eval (.const (.int .u64 256)) = .int .u64 256 := rfl
  have h3 : (m : Int).tmod 256 = (z : Int) := by rw [hz, Int.tmod_eq_emod_of_nonneg (by omega)]; omega
  unfold execOp
  simp only [ho, hx, e3]
  simp [go_sem, h3]
theorem run_quoU {o : Oper} {a : Act} {x : Operand} {m z : Nat} (ho : o.op = .binOp .quo 23 x (.const (.int .u64 256)) 23) (hx : a.eval x = .int .u64 (m : Int)) (hm : m < 18446744073709551616) (hz : z = m / 256) (w : World) : (execOp a.eval o).run Try.prog w = .ok (.value (.int .u64 (z : Int))) w := by
  have e3 : a.eval (.const (.int .u64 256)) = .int .u64 256 := rfl
  have h3 : (m : Int).tdiv 256 = (z : Int) := by rw [hz, Int.tdiv_eq_ediv_of_nonneg (by omega)]; omega
  unfold execOp
  simp only [ho, hx, e3]
  simp [go_sem, h3, IntKind.wrap_u64]
  try omega
theorem run_remK {o : Oper} {a : Act} {x : Operand} {m z : Nat} (c : Nat) (hc : 0 < c) (ho : o.op = .binOp .rem 3 x (.const (.int .i64 (c : Int))) 3) (hx : a.eval x = .int .i64 (m : Int)) (hz : z = m % c) (w : World) : (execOp a.eval o).run Try.prog w = .ok (.value (.int .i64 (z : Int))) w := by
  have e3 : a.eval (.const (.int .i64 (c : Int))) = .int .i64 (c : Int) := rfl
  have h3 : (m : Int).tmod (c : Int) = (z : Int) := by rw [hz, Int.tmod_eq_emod_of_nonneg (by omega)]; exact (Int.natCast_emod _ _).symm
  unfold execOp
  simp only [ho, hx, e3]
  simp [go_sem, h3, show ¬ c = 0 by omega]
theorem one_byte (w : World) (x : Nat) : IntsV .u8 (.slice (some ⟨w.heap.size, 0, none⟩) 1 1) (w.alloc (.cells #[.int .u8 (x : Int)] 5)) [x] := (Const.new (k := .u8) (e := 5) (l := [x]) rfl).ints

set_option maxRecDepth 100000 in
set_option maxHeartbeats 1000000 in
theorem rlowD (n : Nat) (w : World) (hn : n < 18446744073709551616) :
    Calls Try.prog 27 #[.int .u64 (n : Int)] w fun e w' => ∃ v, e = .returned v ∧ Row w.heap.size 5 .u8 (digs n 8) v w' ∧ Below w.heap.size w w' := by
  go_enter Try.func27, Try.ntmps27
  go_wp2_with fail
  go_loopg [0, 3, 4] 8 (fun k s0 s3 s4 wr => ∃ i m : Nat, i + k = 8 ∧ Kept (m = n / 256 ^ i) ∧ s0 = .int .u64 (m : Int) ∧ s4 = .int .i64 (i : Int) ∧ Below w.heap.size w wr ∧ Kept (Row w.heap.size 5 .u8 (digs n i) s3 wr))
  case atStart => exact ⟨0, n, by omega, ⟨by simp⟩, rfl, rfl, Below.refl _ _, ⟨row_nil _ _ _ _⟩⟩
  case round =>
    obtain ⟨i, m, hik, Em, rfl, rfl, HB, RO⟩ := hrel
    by_cases hi : i < 8
    case neg =>
      obtain rfl : i = 8 := by omega
      have hi' : ¬ (8 : Int) < 8 := by decide
      go_wp2_with fail
      go_ret
      exact ⟨_, rfl, RO.out, HB⟩
    case pos =>
      have hi' : (i : Int) < 8 := by omega
      have hm : m < 18446744073709551616 := by rw [Em.out]; exact Nat.lt_of_le_of_lt (Nat.div_le_self _ _) hn
      obtain ⟨z, hz⟩ : ∃ z, z = m % 256 := ⟨_, rfl⟩
      obtain ⟨q, hq⟩ : ∃ q, q = m / 256 := ⟨_, rfl⟩
      have Ez : Kept _ := ⟨hz⟩
      have Eq : Kept _ := ⟨hq⟩
      have Ez2 : Kept (z = z % 256) := ⟨by omega⟩
      have Eq2 : Kept (q = n / 256 ^ (i + 1)) := ⟨by rw [hq, Em.out, Nat.pow_succ, Nat.div_div_eq_div_mul]⟩
      have ED : Kept (digs n (i + 1) = digs n i ++ [z]) := ⟨by rw [digs_succ, hz, Em.out]⟩
      have SN : Kept ((digs n i).length + [z].length ≤ 8796093022208) := ⟨by rw [digs_len]; simp; omega⟩
      have SB : w.heap.size ≤ (wr.alloc (.cells #[.int .u8 (z : Int)] 5)).heap.size := Nat.le_trans HB.size (by simp)
      clear hz hq
      go_wp2_with (first | ((with_reducible refine wv_val (d := 11) ?hd ?hw (.int .u64 (z : Int)) ?hr ?_); (case hd => rfl); (case hw => kernel_rfl); (case hr => intro w; exact run_remU rfl (by kernel_rfl) Ez.out w); simp only [Act.put, List.setIfInBounds_toArray, List.set_cons_succ, List.set_cons_zero]) | ((with_reducible refine wv_val (d := 12) ?hd ?hw (.int .u8 (z : Int)) ?hr ?_); (case hd => rfl); (case hw => kernel_rfl); (case hr => intro w; exact run_c648 rfl (by kernel_rfl) Ez2.out w); simp only [Act.put, List.setIfInBounds_toArray, List.set_cons_succ, List.set_cons_zero]) | (refine wl_app (by kernel_rfl) (.tmp 9) (.tmp 13) 24 5 .u8 1 rfl Try.underlying24 inf_u8 (by decide) w.heap.size (digs n i) [z] _ _ rfl rfl (RO.out.alloc _) (one_byte _ _) SN.out SB ?_))
      intro v4 w4 r4 g4 _
      have HB4 : Below w.heap.size w w4 := app_below (HB.alloc HB.size _) SB (RO.out.alloc _) g4
      have RO4 : Kept (Row w.heap.size 5 .u8 (digs n (i + 1)) v4 w4) := ⟨by rw [ED.out]; exact r4⟩
      clear r4 g4 RO HB SB SN ED Ez Ez2 Em
      go_wp2_with (first | ((with_reducible refine wv_val (d := 16) ?hd ?hw (.int .u64 (q : Int)) ?hr ?_); (case hd => rfl); (case hw => kernel_rfl); (case hr => intro w; exact run_quoU rfl (by kernel_rfl) hm Eq.out w); simp only [Act.put, List.setIfInBounds_toArray, List.set_cons_succ, List.set_cons_zero]))
      go_roundg (gk - 1)
      case measure => omega
      case rel => exact ⟨i + 1, q, by omega, Eq2, rfl, by simp, HB4, RO4⟩

theorem mix_four (n : Nat) : mix (nonceL n) (List.replicate 12 0) 4 = List.replicate 12 0 := by
  unfold mix nonceL
  rw [List.take_left' (by simp)]
  rfl
theorem nonce_get (n i x : Nat) (h : (digs n 8)[i]? = some x) : (nonceL n)[4 + i]? = some x := by
  unfold nonceL
  rw [List.getElem?_append_right (by simp)]
  simpa using h

set_option maxRecDepth 100000 in
set_option maxHeartbeats 1000000 in
theorem rnonceD (n : Nat) (w : World) (hn : n < 18446744073709551616) :
    Calls Try.prog 17 #[.int .u64 (n : Int)] w fun e w' => e = .returned (.agg (ints .u8 (nonceL n))) ∧ Below w.heap.size w w' := by
  obtain ⟨L, hL⟩ : ∃ L, L = nonceL n := ⟨_, rfl⟩
  rw [← hL]
  obtain ⟨D, hD⟩ : ∃ L, L = digs n 8 := ⟨_, rfl⟩
  have HL : Kept (L.length = 12) := ⟨by rw [hL]; exact nonceL_len _⟩
  have LD : Kept (D.length = 8) := ⟨by rw [hD]; exact digs_len _ _⟩
  have YD : Kept (Bytes D) := ⟨by rw [hD]; exact digs_bytes _ _⟩
  have GN : Kept (∀ i x : Nat, D[i]? = some x → L[4 + i]? = some x) := ⟨fun i x h => by rw [hL]; exact nonce_get n i x (by rw [← hD]; exact h)⟩
  have CL : Kept (∀ w', Calls Try.prog 27 #[.int .u64 (n : Int)] w' fun e w2 => ∃ v, e = .returned v ∧ Row w'.heap.size 5 .u8 D v w2 ∧ Below w'.heap.size w' w2) := ⟨fun w' => by rw [hD]; exact rlowD n w' hn⟩
  obtain ⟨Z0, hZ⟩ : ∃ Z0, Z0 = List.replicate 12 0 := ⟨_, rfl⟩
  have HL2 : Kept (L.length = Z0.length) := ⟨by rw [HL.out, hZ]; rfl⟩
  have HZ : Kept (Z0.length = 12) := ⟨by rw [hZ]; rfl⟩
  have EI : Kept ((#[.int .u8 0, .int .u8 0, .int .u8 0, .int .u8 0, .int .u8 0, .int .u8 0, .int .u8 0, .int .u8 0, .int .u8 0, .int .u8 0, .int .u8 0, .int .u8 0] : Array Value) = ints .u8 Z0) := ⟨by rw [hZ]; exact z12_eq⟩
  have EM : Kept (mix L Z0 4 = Z0) := ⟨by rw [hL, hZ]; exact mix_four n⟩
  clear hZ hL hD
  go_enter Try.func17, Try.ntmps17
  go_wp2_with fail
  refine (CL.out _).mono ?_
  rintro e W ⟨vd, rfl, hvd, hb0⟩
  have B1 : Blk W w.heap.size 36 (ints .u8 Z0) := by rw [← EI.out]; exact ((blk_new w _ _).alloc _).under hb0
  have B2 : Blk W (w.heap.size + 1) 36 (ints .u8 (mix L Z0 4)) := by rw [EM.out, ← EI.out]; exact (blk_top _ _ _ _ (by simp)).under hb0
  have Q0 : Below w.heap.size w ((w.alloc (.cells #[.int .u8 0, .int .u8 0, .int .u8 0, .int .u8 0, .int .u8 0, .int .u8 0, .int .u8 0, .int .u8 0, .int .u8 0, .int .u8 0, .int .u8 0, .int .u8 0] 36)).alloc (.cells #[.int .u8 0, .int .u8 0, .int .u8 0, .int .u8 0, .int .u8 0, .int .u8 0, .int .u8 0, .int .u8 0, .int .u8 0, .int .u8 0, .int .u8 0, .int .u8 0] 36)) := ((Below.refl _ _).alloc (Nat.le_refl _) _).alloc (by simp) _
  have QB : Below w.heap.size w W := Q0.trans (hb0.mono Q0.size)
  have VD : Kept (Row (w.heap.size + 2) 5 .u8 D vd W) := ⟨hvd.mono (by simp)⟩
  obtain ⟨pd, cd, rfl⟩ := slice_form (row_bytes hvd) LD.out
  have hlW : w.heap.size + 1 < W.heap.size := B2.lt
  clear EI EM hvd hb0 Q0 CL
  go_wp2_with fail
  go_loopg [5] 8 (fun k s5 wr => ∃ i : Nat, i + k = 8 ∧ s5 = .int .i64 (i : Int) ∧ Below w.heap.size w wr ∧ Kept (Row (w.heap.size + 2) 5 .u8 D (.slice pd 8 cd) wr) ∧ Blk wr w.heap.size 36 (ints .u8 Z0) ∧ Blk wr (w.heap.size + 1) 36 (ints .u8 (mix L Z0 (4 + i))))
  case atStart => exact ⟨0, by omega, rfl, QB, VD, B1, B2⟩
  case round =>
    obtain ⟨i, hik, rfl, HB, VR, A1, A2⟩ := hrel
    clear QB B1 B2 VD
    by_cases hi : i < 8
    case neg =>
      obtain rfl : i = 8 := by omega
      have hi' : ¬ (8 : Int) < 8 := by decide
      have e : mix L Z0 (4 + 8) = L := by rw [show 4 + 8 = Z0.length by rw [HZ.out]]; exact mix_all L Z0 HL2.out
      rw [e] at A2
      clear e
      go_wp2_with (first | (refine wl_load rfl 36 (.tmp 3) rfl _ rfl (ints .u8 L) 12 5 Try.underlying36 (by rw [ints_size, HL.out]; exact i12_info) A2 ?_) | (refine wl_store rfl 36 (.tmp 2) (.tmp 19) rfl _ (ints .u8 L) rfl rfl _ A1 (by rw [ints_size, HL.out]; exact i12_info) (by rw [ints_size, ints_size, HL2.out]) (ints_one _ _) ?_))
      intro w3 A3 P3
      go_wp2
      exact bodyPost_ret (v := .agg (ints .u8 L)) (results_cell_row Try.results17 _ _ _ 36 (ints .u8 L) (0, 0) _ rfl A3 Try.underlying36 rfl (by rw [ints_size, HL.out]; exact i12_info)) rfl ⟨rfl, HB.trans (P3.below (by omega))⟩
    case pos =>
      have hi' : (i : Int) < 8 := by omega
      obtain ⟨z, hz⟩ : ∃ z, D[i]? = some z := ⟨_, List.getElem?_eq_getElem (by rw [LD.out]; exact hi)⟩
      obtain ⟨AD, rfl, hAD, cz⟩ := bytes_at (row_bytes VR.out) hz
      have gz : Kept (L[4 + i]? = some z) := ⟨GN.out i z hz⟩
      have Cz : Kept _ := ⟨cz⟩
      obtain ⟨j, hj⟩ : ∃ j, j = 4 + i := ⟨_, rfl⟩
      have Ej : Kept _ := ⟨hj⟩
      have hj12 : j < 12 := by omega
      rw [← hj] at A2 gz
      have E1 : Kept (j + 1 = 4 + (i + 1)) := ⟨by omega⟩
      have l2 : j < (ints .u8 (mix L Z0 j)).size := by rw [ints_size, mix_len L _ j HL2.out, HZ.out]; exact hj12
      clear hz cz hj
      go_wp2_with (first | ((with_reducible refine wv_val (d := 13) ?hd ?hw (.int .i64 (j : Int)) ?hr ?_); (case hd => rfl); (case hw => kernel_rfl); (case hr => intro w; exact run_addC 4 rfl (by kernel_rfl) Ej.out (by omega) w); simp only [Act.put, List.setIfInBounds_toArray, List.set_cons_succ, List.set_cons_zero]) | ((with_reducible refine wv_val (d := 16) ?hd ?hw (.pointer (some (AD.add i))) ?hr ?_); (case hd => rfl); (case hw => kernel_rfl); (case hr => intro w; exact run_idxS (A := AD) (i := i) (l := 8) (c := cd) rfl (by kernel_rfl) (by kernel_rfl) Try.underlying24 hi sz_u8 w); simp only [Act.put, List.setIfInBounds_toArray, List.set_cons_succ, List.set_cons_zero]) | ((with_reducible refine wv_elem (d := 17) ?hd ?hw 5 ag_u8 (.tmp 16) ?ho (AD.add i) ?hx (.int .u8 (z : Int)) ?hc ?_); (case hd => rfl); (case hw => kernel_rfl); (case ho => rfl); (case hx => kernel_rfl); (case hc => exact Cz.out); simp only [Act.put, List.setIfInBounds_toArray, List.set_cons_succ, List.set_cons_zero]) | ((with_reducible refine wv_val (d := 18) ?hd ?hw (.pointer (some ⟨w.heap.size + 1, j, none⟩)) ?hr ?_); (case hd => rfl); (case hw => kernel_rfl); (case hr => intro w; exact run_idx rfl (by kernel_rfl) (by kernel_rfl) Try.underlying36 hj12 sz_u8 w); simp only [Act.put, List.setIfInBounds_toArray, List.set_cons_succ, List.set_cons_zero]) | (refine wl_setElem rfl 5 sz_u8 (.tmp 18) (.tmp 17) rfl (w.heap.size + 1) j .u8 (z : Int) rfl rfl _ A2 l2 ?_))
      intro w4 A4 P4
      rw [ints_set, mix_set L _ j z HL2.out gz.out, E1.out] at A4
      have A14 := P4.blk A1 (by omega)
      have HB4 := HB.trans (P4.below (by omega))
      have VR4 : Kept (Row (w.heap.size + 2) 5 .u8 D (.slice (some AD) 8 cd) w4) := ⟨VR.out.keeps P4.grown (.inr (fun e => by have := (VR.out.range AD.block rfl).1; have := Option.some.inj e; omega))⟩
      clear A1 A2 HB P4 gz l2 VR Cz
      go_wp2_with fail
      go_roundg (gk - 1)
      case measure => omega
      case rel => exact ⟨i + 1, by omega, by simp, HB4, VR4, A14, A4⟩
end Go.Proofs.Ytpamcmhfimnfbaa.sh
