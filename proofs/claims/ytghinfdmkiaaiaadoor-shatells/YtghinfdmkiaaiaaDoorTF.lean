/-
  The reference's root.
-/
import Derived.Test.YtghinfdmkiaaiaaDoorTE
namespace Go.Proofs.YtghinfdmkiaaiaaDoor.sh
open Go Go.RowKit
set_option linter.unusedVariables false
set_option linter.unusedSimpArgs false


/-- The greatest number of so many bits whose power is at most T, bit by bit. -/
def rt (T pw : Nat) : Nat → Nat
  | 0 => 0
  | j + 1 => if (rt T pw j + 2 ^ (35 - j)) ^ pw ≤ T then rt T pw j + 2 ^ (35 - j) else rt T pw j
theorem rt_le (T pw : Nat) : ∀ j, j ≤ 36 → rt T pw j + 2 ^ (36 - j) ≤ 2 ^ 36
  | 0, _ => by simp [rt]
  | j + 1, h => by
    have ih := rt_le T pw j (by omega)
    have e : 2 ^ (36 - j) = 2 ^ (35 - j) + 2 ^ (35 - j) := by rw [show 36 - j = (35 - j) + 1 from by omega, Nat.pow_succ]; omega
    have e2 : 36 - (j + 1) = 35 - j := by omega
    rw [e] at ih
    rw [rt, e2]
    generalize 2 ^ (35 - j) = B at *
    split <;> omega
theorem row_lit2 {base : Nat} (w : World) (hb : base ≤ w.heap.size) : Row base 30 .u64 [0, 0] (.slice (some ⟨w.heap.size, 0, none⟩) 2 2) (w.alloc (.cells #[.int .u64 0, .int .u64 0] 30)) := World.ownsRow_lit w #[.int .u64 0, .int .u64 0] 2 hb (by unfold maxLen; omega) rfl
theorem row_lit1 {base : Nat} (w : World) (x : Nat) (hb : base ≤ w.heap.size) : Row base 30 .u64 [x] (.slice (some ⟨w.heap.size, 0, none⟩) 1 1) (w.alloc (.cells #[.int .u64 (x : Int)] 30)) := World.ownsRow_lit w #[.int .u64 (x : Int)] 1 hb (by unfold maxLen; omega) rfl
theorem val_zeros (l : List Nat) : val ([0, 0] ++ l) = 4294967296 * val l := by simp [val]; omega
theorem run_conv32 {o : Oper} {a : Act} {x : Operand} {z : Nat} (ho : o.op = .convert 30 26 x) (hx : a.eval x = .int .u64 (z : Int)) (hz : z < 4294967296) (w : World) : (execOp a.eval o).run Tryd.prog w = .ok (.value (.int .u32 (z : Int))) w := by
  unfold execOp
  simp only [ho, hx]
  simp [go_sem, IntKind.wrap_u32']
  omega
theorem step_round {T pw j n m q : Nat} (hn : n = rt T pw j) (hm : m = n + 2 ^ q) (hq : q = 35 - j) : rt T pw (j + 1) = if m ^ pw ≤ T then m else n := by rw [rt, hm, hn, hq]
set_option maxRecDepth 100000 in
set_option maxHeartbeats 4000000 in
theorem root_any (p pw : Nat) (w : World) (hp : p < 65536) (h1 : 1 ≤ pw) (h3 : pw ≤ 3) :
    Calls Tryd.prog 22 #[.int .u64 (p : Int), .int .i64 (pw : Int)] w fun e w' => e = .returned (.int .u32 ((rt (p * 4294967296 ^ pw) pw 36 % 4294967296 : Nat) : Int)) ∧ Below w.heap.size w w' := by
  obtain ⟨T, hT⟩ : ∃ T, T = p * 4294967296 ^ pw := ⟨_, rfl⟩
  obtain ⟨z, hz⟩ : ∃ z, z = rt T pw 36 % 4294967296 := ⟨_, rfl⟩
  rw [← hT, ← hz]
  have ET : Kept _ := ⟨hT⟩
  have EZ : Kept _ := ⟨hz⟩
  have z32 : z < 4294967296 := by rw [hz]; exact Nat.mod_lt _ (by decide)
  clear hT hz
  go_enter Tryd.func22, Tryd.ntmps22
  go_wp2_with fail
  go_loopg [5, 6] pw (fun m s5 s6 wr => ∃ (i : Nat) (l : List Nat), i + m = pw ∧ s6 = .int .i64 (i : Int) ∧ Kept (Below w.heap.size w wr ∧ Row w.heap.size 30 .u64 l s5 wr ∧ Dig l ∧ l.length = 2 * i + 1 ∧ val l = p * 4294967296 ^ i))
  case atStart => exact ⟨0, [p], by omega, rfl, ⟨⟨(Below.refl _ _).alloc (Nat.le_refl _) _, row_lit1 w p (Nat.le_refl _), dig_nil.cons hp, rfl, by simp [val]⟩⟩⟩
  case round =>
    obtain ⟨i, l, hik, rfl, KK⟩ := hrel
    obtain ⟨HB, RO, DO, KL, HV⟩ := KK.out
    have KO : Kept _ := ⟨RO⟩
    have DO : Kept _ := ⟨DO⟩
    have KL : Kept _ := ⟨KL⟩
    have HV : Kept _ := ⟨HV⟩
    clear KK RO
    by_cases hk0 : gk = 0
    case neg =>
      have hA' : (i : Int) < (pw : Int) := by omega
      have SN : Kept ([0, 0].length + l.length ≤ 8796093022208) := ⟨by have := KL.out; simp; omega⟩
      go_wp2_with (first | (refine wl_app (by kernel_rfl) (.tmp 19) (.tmp 20) 51 30 .u64 8 rfl Tryd.underlying51 inf_u64 (by decide) w.heap.size [0, 0] l _ u5 rfl rfl (row_lit2 wr HB.size) ((row_cells KO.out).under ((Below.refl _ _).alloc (Nat.le_refl _) _)) SN.out (by simp; have := HB.size; omega) ?_))
      intro v5 w3 R3 G3 _
      have HB3 : Below w.heap.size w w3 := (HB.alloc HB.size _).trans (grown_mono G3 (by simp; have := HB.size; omega) (fun b hb => by cases hb; exact HB.size))
      have R3 : Kept _ := ⟨R3⟩
      have D3 : Kept (Dig ([0, 0] ++ l)) := ⟨(DO.out.cons (by decide)).cons (by decide)⟩
      have V3 : Kept (val ([0, 0] ++ l) = p * 4294967296 ^ (i + 1)) := ⟨by rw [val_zeros, HV.out, Nat.pow_succ]; rw [Nat.mul_comm 4294967296, Nat.mul_assoc]⟩
      clear G3 HB KO DO
      go_wp2_with fail
      go_roundg (gk - 1)
      case measure => omega
      case rel => exact ⟨i + 1, [0, 0] ++ l, by omega, by rfl, ⟨⟨HB3, R3.out, D3.out, by have := KL.out; simp; omega, V3.out⟩⟩⟩
    obtain rfl : pw = i := by omega
    have hA' : ¬ (pw : Int) < (pw : Int) := by omega
    have VT : Kept (val l = T) := ⟨by rw [HV.out, ET.out]⟩
    have ML : Kept (l.length ≤ 7) := ⟨by have := KL.out; omega⟩
    clear hik hk0
    go_wp2_with fail
    rename World => wz
    go_loopg [7, 8] 36 (fun m s7 s8 wq => ∃ (j n b : Nat), j + m = 36 ∧ s7 = .int .u64 (n : Int) ∧ s8 = .int .u64 (b : Int) ∧ Kept (Below wz.heap.size wz wq ∧ n = rt T pw j ∧ b = 2 ^ m))
    case atStart => exact ⟨0, 0, 68719476736, by omega, rfl, rfl, ⟨⟨Below.refl _ _, rfl, by decide⟩⟩⟩
    case round =>
      obtain ⟨j, n, b, hj, rfl, rfl, KK⟩ := hrel
      obtain ⟨HQ, hn, hbb⟩ := KK.out
      have KN : Kept _ := ⟨hn⟩
      have KBt : Kept _ := ⟨hbb⟩
      clear KK hn hbb
      have rle : Kept (n + 2 ^ gk ≤ 68719476736) := ⟨by have := rt_le T pw j (by omega); rw [KN.out, show gk = 36 - j from by omega]; exact this⟩
      cases hg : gk with
      | zero =>
        have hb1 : ¬ (1 : Int) < (b : Int) := by have := KBt.out; rw [hg] at this; simp at this; omega
        have n64 : n < 18446744073709551616 := Nat.lt_of_le_of_lt (Nat.le_trans (Nat.le_add_right n _) rle.out) (by decide)
        have ZN : Kept (z = n % 4294967296) := ⟨by rw [EZ.out, KN.out, show j = 36 from by omega]⟩
        go_wp2_with (first | ((with_reducible refine wv_val (d := 46) ?hd ?hw (.int .u64 (z : Int)) ?hr ?_); (case hd => rfl); (case hw => kernel_rfl); (case hr => intro w; exact run_rem64 rfl (by kernel_rfl) (by kernel_rfl) (by decide) n64 ZN.out w); simp only [Act.put, List.setIfInBounds_toArray, List.set_cons_succ, List.set_cons_zero]) | ((with_reducible refine wv_val (d := 47) ?hd ?hw (.int .u32 (z : Int)) ?hr ?_); (case hd => rfl); (case hw => kernel_rfl); (case hr => intro w; exact run_conv32 rfl (by kernel_rfl) z32 w); simp only [Act.put, List.setIfInBounds_toArray, List.set_cons_succ, List.set_cons_zero]))
        go_ret
        exact ⟨rfl, HB.trans (HQ.mono HB.size)⟩
      | succ q =>
        have hbv : Kept (b = 2 * 2 ^ q) := ⟨by rw [KBt.out, hg, Nat.pow_succ, Nat.mul_comm]⟩
        have q0 : 0 < 2 ^ q := Nat.pow_pos (by decide)
        obtain ⟨bq, hbq⟩ : ∃ x, x = 2 ^ q := ⟨_, rfl⟩
        obtain ⟨m, hm⟩ : ∃ x, x = n + bq := ⟨_, rfl⟩
        have hble : n + b ≤ 68719476736 := by have := rle.out; rw [hg, ← hg, ← KBt.out] at this; exact this
        have hb2 : b = 2 * bq := by rw [hbv.out, hbq]
        rw [← hbq] at q0
        have hb1 : (1 : Int) < (b : Int) := by omega
        have b64 : b < 18446744073709551616 := by omega
        have Ebq : Kept (bq = b / 2) := ⟨by omega⟩
        have Em : Kept (m = n + bq) := ⟨hm⟩
        have m36 : m < 68719476736 := by omega
        have m64 : m < 18446744073709551616 := by omega
        have STEP : Kept (rt T pw (j + 1) = if m ^ pw ≤ T then m else n) := ⟨step_round KN.out (by rw [hm, hbq]) (by omega)⟩
        have KQ : Kept _ := ⟨hbq⟩
        clear hbq hm hb2 hble rle hbv KBt
        go_wp2_with (first | ((with_reducible refine wv_val (d := 25) ?hd ?hw (.int .u64 (bq : Int)) ?hr ?_); (case hd => rfl); (case hw => kernel_rfl); (case hr => intro w; exact run_quo64 rfl (by kernel_rfl) (by kernel_rfl) (by decide) b64 Ebq.out w); simp only [Act.put, List.setIfInBounds_toArray, List.set_cons_succ, List.set_cons_zero]) | ((with_reducible refine wv_val (d := 28) ?hd ?hw (.int .u64 (m : Int)) ?hr ?_); (case hd => rfl); (case hw => kernel_rfl); (case hr => intro w; exact run_add64 rfl (by kernel_rfl) (by kernel_rfl) Em.out m64 w); simp only [Act.put, List.setIfInBounds_toArray, List.set_cons_succ, List.set_cons_zero]))
        refine (times_any [1] _ m _ (row_cells (row_lit1 (base := 0) wr 1 (Nat.zero_le _))) (dig_nil.cons (by decide)) (by simp) (by omega)).mono ?_
        rintro e w4 ⟨x, ux, rfl, RX, DX, LX, VX, hb4⟩
        have HQ4 : Below wz.heap.size wz w4 := (HQ.alloc HQ.size _).trans (hb4.mono (by simp; have := HQ.size; omega))
        have RX : Kept _ := ⟨row_cells RX⟩
        have DX : Kept _ := ⟨DX⟩
        have LX : Kept (x.length ≤ 8) := ⟨by simpa using LX⟩
        have VX : Kept (val x = m) := ⟨by rw [VX]; simp [val]⟩
        clear hb4 HQ
        go_wp2_with fail
        go_loopg [10, 11] (pw - 1) (fun k s10 s11 wq => ∃ (i : Nat) (x : List Nat), i + k = pw ∧ s11 = .int .i64 (i : Int) ∧ Kept (1 ≤ i ∧ Below wz.heap.size wz wq ∧ IntsV .u64 s10 wq x ∧ Dig x ∧ x.length ≤ 7 * i + 1 ∧ val x = m ^ i))
        case atStart => exact ⟨1, x, by omega, rfl, ⟨⟨Nat.le_refl _, HQ4, RX.out, DX.out, LX.out, by rw [VX.out, Nat.pow_one]⟩⟩⟩
        case round =>
          obtain ⟨i, y, hik, rfl, KK⟩ := hrel
          obtain ⟨i1, HQ, RY, DY, LY, VY⟩ := KK.out
          have RY : Kept _ := ⟨RY⟩
          have DY : Kept _ := ⟨DY⟩
          have VY : Kept _ := ⟨VY⟩
          have y80 : y.length ≤ 80 := by omega
          clear KK HQ4 RX
          by_cases hi : i < pw
          case pos =>
            have hi' : (i : Int) < (pw : Int) := by omega
            go_wp2_with fail
            refine (times_any y _ m _ RY.out DY.out y80 (by omega)).mono ?_
            rintro e w5 ⟨r, ur, rfl, RR, DR, LR, VR, hb5⟩
            have HQ5 := HQ.trans (hb5.mono HQ.size)
            have RR : Kept _ := ⟨row_cells RR⟩
            have DR : Kept _ := ⟨DR⟩
            have VR : Kept (val r = m ^ (i + 1)) := ⟨by rw [VR, VY.out, Nat.pow_succ]⟩
            have LR : Kept (r.length ≤ 7 * (i + 1) + 1) := ⟨by omega⟩
            clear hb5 HQ RY DY
            go_wp2_with fail
            go_roundg (gk - 1)
            case measure => omega
            case rel => exact ⟨i + 1, r, by omega, by rfl, ⟨⟨by omega, HQ5, RR.out, DR.out, LR.out, VR.out⟩⟩⟩
          obtain rfl : pw = i := by omega
          have hi' : ¬ (pw : Int) < (pw : Int) := by omega
          have RM : Kept _ := ⟨row_cells (KO.out.under HQ)⟩
          go_wp2_with fail
          refine (above_any y l _ _ _ RY.out RM.out DY.out DO.out (by omega) (by have := ML.out; omega)).mono ?_
          rintro e w5 ⟨rfl, rfl⟩
          have EV : Kept (decide (val l < val y) = decide (T < m ^ pw)) := ⟨by rw [VT.out, VY.out]⟩
          rw [EV.out]
          by_cases hle : m ^ pw ≤ T
          case pos =>
            have hd : decide (T < m ^ pw) = false := decide_eq_false (by omega)
            rw [hd]
            have SV : Kept (m = rt T pw (j + 1)) := ⟨by rw [STEP.out, if_pos hle]⟩
            clear hle hd EV RY RM
            go_wp2_with fail
            go_roundg q
            case measure => omega
            case rel => exact ⟨j + 1, m, bq, by omega, rfl, rfl, ⟨⟨HQ, SV.out, KQ.out⟩⟩⟩
          case neg =>
            have hd : decide (T < m ^ pw) = true := decide_eq_true (by omega)
            rw [hd]
            have SV : Kept (n = rt T pw (j + 1)) := ⟨by rw [STEP.out, if_neg hle]⟩
            clear hle hd EV RY RM
            go_wp2_with fail
            go_roundg q
            case measure => omega
            case rel => exact ⟨j + 1, n, bq, by omega, rfl, rfl, ⟨⟨HQ, SV.out, KQ.out⟩⟩⟩
end Go.Proofs.YtghinfdmkiaaiaaDoor.sh
