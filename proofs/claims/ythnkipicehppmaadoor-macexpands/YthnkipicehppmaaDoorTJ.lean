/-
  The reference's filled.
-/
import Derived.Test.YthnkipicehppmaaDoorRefC
namespace Go.Proofs.YthnkipicehppmaaDoor.sh
open Go Go.RowKit
set_option linter.unusedVariables false
set_option linter.unusedSimpArgs false


/-- The last bytes of a number, the highest first. -/
def beL (N : Nat) : Nat → List Nat
  | 0 => []
  | i + 1 => (N / 256 ^ i % 256) :: beL N i
theorem beL_len (N : Nat) : ∀ i, (beL N i).length = i
  | 0 => rfl
  | i + 1 => by rw [beL, List.length_cons, beL_len N i]
theorem beL_bytes (N : Nat) : ∀ i, Bytes (beL N i)
  | 0 => nil_bytes
  | i + 1 => fun j x hx => by
    cases j with
    | zero => simp [beL] at hx; omega
    | succ j => exact beL_bytes N i j x (by simpa [beL] using hx)
theorem fillTo_eq (n : Nat) : ∀ i, i ≤ 8 → fillTo n i = [128] ++ (List.replicate (zerosN n) 0 ++ (List.replicate (8 - i) 0 ++ beL (n * 8 % 18446744073709551616) i))
  | 0, _ => by
    rw [fillTo_zero, beL, List.append_nil, show 1 + zerosN n + 8 = (zerosN n + 8) + 1 from by omega, List.replicate_succ, List.set_cons_zero, List.replicate_append_replicate]
    rfl
  | i + 1, h => by
    rw [fillTo_succ, fillTo_eq n i (by omega), List.set_append_right _ _ (by simp; omega), List.set_append_right _ _ (by simp; omega), show 8 - i = (8 - (i + 1)) + 1 from by omega, List.replicate_succ', List.append_assoc, List.set_append_right _ _ (by simp; omega)]
    congr 3
    rw [show 1 + zerosN n + 8 - 1 - i - [128].length - (List.replicate (zerosN n) 0).length - (List.replicate (8 - (i + 1)) 0).length = 0 from by simp; omega, List.singleton_append, List.set_cons_zero, beL, Nat.pow_mul]
theorem fillL_eq (n : Nat) : fillL n = [128] ++ (List.replicate (zerosN n) 0 ++ beL (n * 8 % 18446744073709551616) 8) := by
  unfold fillL
  rw [fillTo_eq n 8 (Nat.le_refl _)]
  rfl
theorem run_remI {o : Oper} {a : Act} {x : Operand} {m z : Nat} (ho : o.op = .binOp .rem 3 x (.const (.int .i64 64)) 3) (hx : a.eval x = .int .i64 (m : Int)) (hm : m < 4611686018427387904) (hz : z = m % 64) (w : World) : (execOp a.eval o).run Tryd.prog w = .ok (.value (.int .i64 (z : Int))) w := by
  have e3 : a.eval (.const (.int .i64 64)) = .int .i64 64 := rfl
  have e2 : (m : Int).tmod 64 = (z : Int) := by rw [Int.tmod_eq_emod_of_nonneg (by omega)]; omega
  unfold execOp
  simp only [ho, hx, e3]
  simp [go_sem, IntKind.wrap_i64, wrap64, e2]
theorem run_neqI {o : Oper} {a : Act} {x : Operand} {m : Nat} {b : Bool} (ho : o.op = .binOp .neq 3 x (.const (.int .i64 56)) 3) (hx : a.eval x = .int .i64 (m : Int)) (hb : b = !decide (m = 56)) (w : World) : (execOp a.eval o).run Tryd.prog w = .ok (.value (.bool b)) w := by
  have e3 : a.eval (.const (.int .i64 56)) = .int .i64 56 := rfl
  unfold execOp
  simp only [ho, hx, e3]
  simp [go_sem, hb]
  by_cases h : m = 56
  · subst h; rfl
  · have : ¬ (m : Int) = 56 := by omega
    simp [h, this]
theorem run_convU {o : Oper} {a : Act} {x : Operand} {z : Nat} (ho : o.op = .convert 3 51 x) (hx : a.eval x = .int .i64 (z : Int)) (hz : z < 4294967296) (w : World) : (execOp a.eval o).run Tryd.prog w = .ok (.value (.int .u64 (z : Int))) w := by
  unfold execOp
  simp only [ho, hx]
  simp [go_sem, IntKind.wrap_u64]
  omega
theorem run_conv8 {o : Oper} {a : Act} {x : Operand} {z : Nat} (ho : o.op = .convert 51 5 x) (hx : a.eval x = .int .u64 (z : Int)) (hz : z < 256) (w : World) : (execOp a.eval o).run Tryd.prog w = .ok (.value (.int .u8 (z : Int))) w := by
  unfold execOp
  simp only [ho, hx]
  simp [go_sem, IntKind.wrap_u8']
  omega
theorem row_empty {base : Nat} (w : World) (hb : base ≤ w.heap.size) : Row base 5 .u8 [] (.slice (some ⟨w.heap.size, 0, none⟩) 0 0) (w.alloc (.cells #[] 5)) := World.ownsRow_lit w #[] 0 hb (by unfold maxLen; omega) rfl
theorem row_byte {base : Nat} (w : World) (x : Nat) (hb : base ≤ w.heap.size) : Row base 5 .u8 [x] (.slice (some ⟨w.heap.size, 0, none⟩) 1 1) (w.alloc (.cells #[.int .u8 (x : Int)] 5)) := World.ownsRow_lit w #[.int .u8 (x : Int)] 1 hb (by unfold maxLen; omega) rfl
set_option maxRecDepth 100000 in
set_option maxHeartbeats 4000000 in
theorem filled_any (bs : List Nat) (v : Value) (w : World) (hv : BytesV v w bs) (hl : bs.length ≤ 1000) :
    Calls Tryd.prog 30 #[v] w fun e w' => ∃ u, e = .returned u ∧ Row w.heap.size 5 .u8 (bs ++ fillL bs.length) u w' ∧ Below w.heap.size w w' := by
  have KB : Kept _ := ⟨hv⟩
  obtain ⟨p0, c0, rfl, _, _⟩ := hv
  obtain ⟨n, hn⟩ : ∃ n, n = bs.length := ⟨_, rfl⟩
  rw [← hn] at KB hl
  rw [← hn]
  obtain ⟨F, hF⟩ : ∃ F, F = bs ++ fillL n := ⟨_, rfl⟩
  rw [← hF]
  have EF : Kept _ := ⟨hF⟩
  have EN : Kept _ := ⟨hn⟩
  obtain ⟨Z, hZ⟩ : ∃ Z, Z = zerosN n := ⟨_, rfl⟩
  have Z64 : Z < 64 := by rw [hZ]; exact Nat.mod_lt _ (by decide)
  have KZ : Kept ((n + 1 + Z) % 64 = 56 ∧ ∀ z, z < Z → ¬ (n + 1 + z) % 64 = 56) := ⟨by
    have : Z = (64 - (1 + n + 8) % 64) % 64 := hZ
    exact ⟨by omega, fun z hz => by omega⟩⟩
  have EZ : Kept _ := ⟨hZ⟩
  clear hF hn hZ
  have S1 : Kept (([] : List Nat).length + bs.length ≤ 8796093022208) := ⟨by have := EN.out; simp; omega⟩
  go_enter Tryd.func30, Tryd.ntmps30
  go_wp2_with (first | (refine wl_app (by kernel_rfl) (.tmp 7) (.tmp 8) 22 5 .u8 1 rfl Tryd.underlying22 inf_u8 (by decide) (w.heap.size) ([]) (bs) (_) (.slice p0 n c0) rfl rfl (row_empty w (Nat.le_refl _)) (KB.out.under ((Below.refl _ _).alloc (Nat.le_refl _) _)) S1.out (by simp) ?_))
  intro v1 w1 R1 G1 _
  have HB1 : Below w.heap.size w w1 := ((Below.refl _ _).alloc (Nat.le_refl _) _).trans (grown_mono G1 (by simp) (fun b hb => by cases hb; exact Nat.le_refl _))
  have R1 : Kept (Row w.heap.size 5 .u8 bs v1 w1) := ⟨R1⟩
  clear G1
  have S2 : Kept (bs.length + [128].length ≤ 8796093022208) := ⟨by have := EN.out; simp; omega⟩
  go_wp2_with (first | (refine wl_app (by kernel_rfl) (.tmp 10) (.tmp 11) 22 5 .u8 1 rfl Tryd.underlying22 inf_u8 (by decide) (w.heap.size) (bs) ([128]) (v1) (_) rfl rfl (R1.out.alloc _) (one_ints _ _) S2.out (by simp; have := HB1.size; omega) ?_))
  intro v2 w2 R2 G2 _
  have HB2 : Below w.heap.size w w2 := (HB1.alloc HB1.size _).trans (grown_mono G2 (by simp; have := HB1.size; omega) (fun b hb => (R1.out.range b hb).1))
  have R2 : Kept _ := ⟨R2⟩
  clear G2 HB1 R1
  go_wp2_with fail
  go_loopg [3] Z (fun m s3 wr => ∃ z : Nat, z + m = Z ∧ Kept (Below w.heap.size w wr ∧ Row w.heap.size 5 .u8 ((bs ++ [128]) ++ List.replicate z 0) s3 wr))
  case atStart => exact ⟨0, by omega, ⟨⟨HB2, by rw [List.replicate_zero, List.append_nil]; exact R2.out⟩⟩⟩
  case round =>
    clear R2 HB2
    obtain ⟨z, hz, KK⟩ := hrel
    obtain ⟨HB, RO⟩ := KK.out
    have KO : Kept _ := ⟨RO⟩
    obtain ⟨p3, c3, e3⟩ := RO.dig
    obtain ⟨ln, hln⟩ : ∃ k, k = ((bs ++ [128]) ++ List.replicate z 0).length := ⟨_, rfl⟩
    rw [← hln] at e3
    have EL : Kept (ln = n + 1 + z) := ⟨by rw [hln, EN.out]; simp; omega⟩
    have ln62 : ln < 4611686018427387904 := by have := EL.out; omega
    subst e3
    obtain ⟨r, hr⟩ : ∃ r, r = ln % 64 := ⟨_, rfl⟩
    have ER : Kept _ := ⟨hr⟩
    clear KK RO hln
    by_cases hk0 : gk = 0
    case neg =>
      have B16 : Kept (true = !decide (r = 56)) := ⟨by
        have := KZ.out.2 z (by omega)
        have e : ¬ r = 56 := by rw [hr, EL.out]; exact this
        simp [e]⟩
      have SN : Kept (((bs ++ [128]) ++ List.replicate z 0).length + [0].length ≤ 8796093022208) := ⟨by have := EN.out; simp; omega⟩
      clear hr
      go_wp2_with (first | ((with_reducible refine wv_val (d := 15) ?hd ?hw (.int .i64 (r : Int)) ?hr ?_); (case hd => rfl); (case hw => kernel_rfl); (case hr => intro w; exact run_remI rfl (by kernel_rfl) ln62 ER.out w); simp only [Act.put, List.setIfInBounds_toArray, List.set_cons_succ, List.set_cons_zero]) | ((with_reducible refine wv_val (d := 16) ?hd ?hw (.bool true) ?hr ?_); (case hd => rfl); (case hw => kernel_rfl); (case hr => intro w; exact run_neqI rfl (by kernel_rfl) B16.out w); simp only [Act.put, List.setIfInBounds_toArray, List.set_cons_succ, List.set_cons_zero]) | (refine wl_app (by kernel_rfl) (.tmp 17) (.tmp 18) 22 5 .u8 1 rfl Tryd.underlying22 inf_u8 (by decide) (w.heap.size) ((bs ++ [128]) ++ List.replicate z 0) ([0]) (.slice p3 ln c3) (_) rfl rfl (KO.out.alloc _) (one_ints _ _) SN.out (by simp; have := HB.size; omega) ?_))
      intro v3 w3 R3 G3 _
      have HB3 : Below w.heap.size w w3 := (HB.alloc HB.size _).trans (grown_mono G3 (by simp; have := HB.size; omega) (fun b hb => (KO.out.range b hb).1))
      have R3 : Kept (Row w.heap.size 5 .u8 ((bs ++ [128]) ++ List.replicate (z + 1) 0) v3 w3) := ⟨by rw [show (bs ++ [128]) ++ List.replicate (z + 1) 0 = bs ++ 128 :: (List.replicate z 0 ++ [0]) from by simp [List.replicate_succ']]; exact R3⟩
      clear G3 HB KO
      go_wp2_with fail
      go_roundg (gk - 1)
      case measure => omega
      case rel => exact ⟨z + 1, by omega, ⟨⟨HB3, R3.out⟩⟩⟩
    obtain rfl : Z = z := by omega
    have B16 : Kept (false = !decide (r = 56)) := ⟨by
      have e : r = 56 := by rw [hr, EL.out]; exact KZ.out.1
      simp [e]⟩
    clear hr hz hk0
    obtain ⟨N, hN⟩ : ∃ N, N = 8 * n := ⟨_, rfl⟩
    have ENN : Kept _ := ⟨hN⟩
    have N16 : N < 65536 := by omega
    have N64 : N < 18446744073709551616 := by omega
    have n32 : n < 4294967296 := by omega
    clear hN
    go_wp2_with (first | ((with_reducible refine wv_val (d := 15) ?hd ?hw (.int .i64 (r : Int)) ?hr ?_); (case hd => rfl); (case hw => kernel_rfl); (case hr => intro w; exact run_remI rfl (by kernel_rfl) ln62 ER.out w); simp only [Act.put, List.setIfInBounds_toArray, List.set_cons_succ, List.set_cons_zero]) | ((with_reducible refine wv_val (d := 16) ?hd ?hw (.bool false) ?hr ?_); (case hd => rfl); (case hw => kernel_rfl); (case hr => intro w; exact run_neqI rfl (by kernel_rfl) B16.out w); simp only [Act.put, List.setIfInBounds_toArray, List.set_cons_succ, List.set_cons_zero]) | ((with_reducible refine wv_val (d := 22) ?hd ?hw (.int .u64 (n : Int)) ?hr ?_); (case hd => rfl); (case hw => kernel_rfl); (case hr => intro w; exact run_convU rfl (by kernel_rfl) n32 w); simp only [Act.put, List.setIfInBounds_toArray, List.set_cons_succ, List.set_cons_zero]) | ((with_reducible refine wv_val (d := 23) ?hd ?hw (.int .u64 (N : Int)) ?hr ?_); (case hd => rfl); (case hw => kernel_rfl); (case hr => intro w; exact run_mul64 (m := 8) rfl (by kernel_rfl) (by kernel_rfl) ENN.out N64 w); simp only [Act.put, List.setIfInBounds_toArray, List.set_cons_succ, List.set_cons_zero]))
    rename World => wz
    go_loopg [4, 5, 6] 8 (fun m s4 s5 s6 wq => ∃ (i k : Nat) , i + m = 8 ∧ s4 = .int .u64 (k : Int) ∧ s6 = .int .i64 (i : Int) ∧ Kept (k = N / 256 ^ i ∧ Below wz.heap.size wz wq ∧ IntsV .u8 s5 wq (beL N i)))
    case atStart => exact ⟨0, N, by omega, rfl, rfl, ⟨⟨by simp, Below.refl _ _, row_bytes (row_nil _ 0 5 .u8)⟩⟩⟩
    case round =>
      obtain ⟨i, k, hik, rfl, rfl, KK⟩ := hrel
      obtain ⟨hk, HQ, RL⟩ := KK.out
      have KL : Kept _ := ⟨RL⟩
      have k64 : k < 18446744073709551616 := by rw [hk]; exact Nat.lt_of_le_of_lt (Nat.div_le_self _ _) N64
      have EK : Kept _ := ⟨hk⟩
      clear KK RL hk
      by_cases hi : i < 8
      case pos =>
        have hi' : (i : Int) < 8 := by omega
        obtain ⟨x, hx⟩ : ∃ x, x = k % 256 := ⟨_, rfl⟩
        obtain ⟨q, hq⟩ : ∃ q, q = k / 256 := ⟨_, rfl⟩
        have x8 : x < 256 := by omega
        have Ex : Kept _ := ⟨hx⟩
        have Eq : Kept _ := ⟨hq⟩
        have BE : Kept (beL N (i + 1) = [x] ++ beL N i) := ⟨by rw [beL, hx, EK.out]; rfl⟩
        have KQ : Kept (q = N / 256 ^ (i + 1)) := ⟨by rw [hq, EK.out, Nat.pow_succ, Nat.div_div_eq_div_mul]⟩
        have SN : Kept ([x].length + (beL N i).length ≤ 8796093022208) := ⟨by rw [beL_len]; simp; omega⟩
        clear hx hq
        go_wp2_with (first | ((with_reducible refine wv_val (d := 29) ?hd ?hw (.int .u64 (x : Int)) ?hr ?_); (case hd => rfl); (case hw => kernel_rfl); (case hr => intro w; exact run_rem64 rfl (by kernel_rfl) (by kernel_rfl) (by decide) k64 Ex.out w); simp only [Act.put, List.setIfInBounds_toArray, List.set_cons_succ, List.set_cons_zero]) | ((with_reducible refine wv_val (d := 30) ?hd ?hw (.int .u8 (x : Int)) ?hr ?_); (case hd => rfl); (case hw => kernel_rfl); (case hr => intro w; exact run_conv8 rfl (by kernel_rfl) x8 w); simp only [Act.put, List.setIfInBounds_toArray, List.set_cons_succ, List.set_cons_zero]) | (refine wl_app (by kernel_rfl) (.tmp 31) (.tmp 32) 22 5 .u8 1 rfl Tryd.underlying22 inf_u8 (by decide) (wr.heap.size) ([x]) (beL N i) (_) (u5) rfl rfl (row_byte wr x (Nat.le_refl _)) (KL.out.under ((Below.refl _ _).alloc (Nat.le_refl _) _)) SN.out (by simp) ?_))
        intro v5 w5 R5 G5 _
        have HQ5 : Below wz.heap.size wz w5 := (HQ.alloc HQ.size _).trans (grown_mono G5 (by simp; have := HQ.size; omega) (fun b hb => by cases hb; exact HQ.size))
        have R5 : Kept _ := ⟨row_cells R5⟩
        clear G5 HQ KL
        go_wp2_with (first | ((with_reducible refine wv_val (d := 35) ?hd ?hw (.int .u64 (q : Int)) ?hr ?_); (case hd => rfl); (case hw => kernel_rfl); (case hr => intro w; exact run_quo64 rfl (by kernel_rfl) (by kernel_rfl) (by decide) k64 Eq.out w); simp only [Act.put, List.setIfInBounds_toArray, List.set_cons_succ, List.set_cons_zero]))
        go_roundg (gk - 1)
        case measure => omega
        case rel => exact ⟨i + 1, q, by omega, rfl, by rfl, ⟨⟨KQ.out, HQ5, by rw [BE.out]; exact R5.out⟩⟩⟩
      obtain rfl : i = 8 := by omega
      have RF : Kept _ := ⟨KO.out.under HQ⟩
      have SN : Kept (((bs ++ [128]) ++ List.replicate Z 0).length + (beL N 8).length ≤ 8796093022208) := ⟨by rw [beL_len]; have := EN.out; simp; omega⟩
      have FE : Kept (((bs ++ [128]) ++ List.replicate Z 0) ++ beL N 8 = F) := ⟨by
        rw [EF.out, fillL_eq, ← EZ.out, show n * 8 % 18446744073709551616 = N from by have := ENN.out; omega]
        simp [List.append_assoc]⟩
      have sz : w.heap.size ≤ wr.heap.size := Nat.le_trans HB.size HQ.size
      go_wp2_with (first | (refine wl_app (by kernel_rfl) (.tmp 36) (.tmp 37) 22 5 .u8 1 rfl Tryd.underlying22 inf_u8 (by decide) (w.heap.size) ((bs ++ [128]) ++ List.replicate Z 0) (beL N 8) (.slice p3 ln c3) (u5) rfl rfl RF.out KL.out SN.out sz ?_))
      intro v6 w6 R6 G6 _
      have HB6 : Below w.heap.size w w6 := (HB.trans (HQ.mono HB.size)).trans (grown_mono G6 sz (fun b hb => (RF.out.range b hb).1))
      have R6 : Kept (Row w.heap.size 5 .u8 F v6 w6) := ⟨by rw [← FE.out, show ((bs ++ [128]) ++ List.replicate Z 0) ++ beL N 8 = bs ++ 128 :: (List.replicate Z 0 ++ beL N 8) from by simp]; exact R6⟩
      clear G6 HB HQ
      go_wp2_with fail
      go_ret
      exact ⟨_, rfl, R6.out, HB6⟩
end Go.Proofs.YthnkipicehppmaaDoor.sh
