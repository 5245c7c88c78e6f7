/-
  The reference's times1.
-/
import Derived.Test.YtghinfdmkiaaiaaDoorTB
namespace Go.Proofs.YtghinfdmkiaaiaaDoor.sh
open Go Go.RowKit
set_option linter.unusedVariables false
set_option linter.unusedSimpArgs false


theorem step_mul (V c x m B T : Nat) (h : V + c * B = T * m) : V + (c + x * m) % 65536 * B + (c + x * m) / 65536 * (B * 65536) = (T + x * B) * m := by
  rw [carry, Nat.add_mul, ← Nat.add_assoc, h, Nat.add_mul, Nat.mul_right_comm x m B]
theorem row_zero {base : Nat} (w : World) (hb : base ≤ w.heap.size) : Row base 30 .u64 [0] (.slice (some ⟨w.heap.size, 0, none⟩) 1 1) (w.alloc (.cells #[.int .u64 0] 30)) := World.ownsRow_lit w #[.int .u64 0] 1 hb (by unfold maxLen; omega) rfl
theorem val_zero (l : List Nat) : val ([0] ++ l) = 65536 * val l := by simp [val]
set_option maxRecDepth 100000 in
set_option maxHeartbeats 2000000 in
theorem times1_any (l : List Nat) (v : Value) (n : Nat) (w : World) (hv : IntsV .u64 v w l) (dl : Dig l) (ll : l.length ≤ 90) (hn : n < 4294967296) :
    Calls Tryd.prog 31 #[v, .int .u64 (n : Int)] w fun e w' => ∃ r u, e = .returned u ∧ Row w.heap.size 30 .u64 r u w' ∧ Dig r ∧ r.length ≤ l.length + 5 ∧ val r = val l * n ∧ Below w.heap.size w w' := by
  have KA : Kept _ := ⟨hv⟩
  have DA : Kept _ := ⟨dl⟩
  obtain ⟨pa, cpa, rfl, _, _⟩ := hv
  obtain ⟨nn, hnn⟩ : ∃ n, n = l.length := ⟨_, rfl⟩
  rw [← hnn] at KA ll
  have EL : Kept _ := ⟨hnn⟩
  rw [← hnn]
  clear hnn dl
  obtain ⟨nl, hnl⟩ : ∃ m, m = n % 65536 := ⟨_, rfl⟩
  obtain ⟨nh, hnh⟩ : ∃ m, m = n / 65536 := ⟨_, rfl⟩
  have nl16 : nl < 65536 := by omega
  have nh16 : nh < 65536 := by omega
  have n64 : n < 18446744073709551616 := by omega
  have ENL : Kept _ := ⟨hnl⟩
  have ENH : Kept _ := ⟨hnh⟩
  clear hnl hnh
  go_enter Tryd.func31, Tryd.ntmps31
  go_wp2_with fail
  go_loopg [5, 6, 7, 8, 9] (nn + 3) (fun m s5 s6 s7 s8 s9 wr => ∃ (i c d : Nat) (low high : List Nat), i + m = nn + 3 ∧ s7 = .int .u64 (c : Int) ∧ s8 = .int .u64 (d : Int) ∧ s9 = .int .i64 (i : Int) ∧ Kept (Below w.heap.size w wr ∧ Row w.heap.size 30 .u64 low s5 wr ∧ Row w.heap.size 30 .u64 high s6 wr ∧ Dig low ∧ Dig high ∧ low.length = i ∧ high.length = i ∧ val low + c * 65536 ^ i = val (l.take i) * nl ∧ val high + d * 65536 ^ i = val (l.take i) * nh ∧ c ≤ 65535 ∧ d ≤ 65535 ∧ (i ≤ nn ∨ (c = 0 ∧ d = 0)) ∧ ∀ b, blkOf s5 = some b → blkOf s6 ≠ some b))
  case atStart => exact ⟨0, 0, 0, [], [], by omega, rfl, rfl, rfl, ⟨⟨Below.refl _ _, row_nil _ _ _ _, row_nil _ _ _ _, dig_nil, dig_nil, rfl, rfl, by simp [val], by simp [val], by omega, by omega, .inl (Nat.zero_le _), fun b hb => by cases hb⟩⟩⟩
  case round =>
    obtain ⟨i, c, d, low, high, hik, rfl, rfl, rfl, KK⟩ := hrel
    obtain ⟨HB, R5, R6, DO5, DO6, L5, L6, HV5, HV6, c1, d1, c0, N56⟩ := KK.out
    have K5 : Kept _ := ⟨R5⟩
    have K6 : Kept _ := ⟨R6⟩
    have DO5 : Kept _ := ⟨DO5⟩
    have DO6 : Kept _ := ⟨DO6⟩
    have L5 : Kept _ := ⟨L5⟩
    have L6 : Kept _ := ⟨L6⟩
    have HV5 : Kept _ := ⟨HV5⟩
    have HV6 : Kept _ := ⟨HV6⟩
    have N56 : Kept _ := ⟨N56⟩
    clear KK R5 R6
    have i0 : (0 : Int) ≤ (i : Int) := by omega
    by_cases hk0 : gk = 0
    case pos =>
      have hA' : ¬ (i : Int) < (nn : Int) + 3 := by omega
      obtain ⟨rfl, rfl⟩ : c = 0 ∧ d = 0 := by omega
      have F5 : Kept (val low = val l * nl) := ⟨by have := HV5.out; rw [List.take_of_length_le (by have := EL.out; omega)] at this; omega⟩
      have F6 : Kept (val high = val l * nh) := ⟨by have := HV6.out; rw [List.take_of_length_le (by have := EL.out; omega)] at this; omega⟩
      have SZ : Kept ([0].length + high.length ≤ 8796093022208) := ⟨by have := L6.out; simp; omega⟩
      go_wp2_with (first | ((with_reducible refine wv_val (d := 14) ?hd ?hw (.int .i64 ((nn + 3 : Nat) : Int)) ?hr ?_); (case hd => rfl); (case hw => kernel_rfl); (case hr => intro w; exact run_addI 3 rfl (by kernel_rfl) (by omega) w); simp only [Act.put, List.setIfInBounds_toArray, List.set_cons_succ, List.set_cons_zero]) | (refine wl_app (by kernel_rfl) (.tmp 53) (.tmp 54) 51 30 .u64 8 rfl Tryd.underlying51 inf_u64 (by decide) wr.heap.size [0] high _ u6 rfl rfl (row_zero wr (Nat.le_refl _)) ((row_cells K6.out).under ((Below.refl _ _).alloc (Nat.le_refl _) _)) SZ.out (by simp) ?_))
      intro v7 w4 R4 G4 _
      have HB4 : Below wr.heap.size wr w4 := ((Below.refl _ _).alloc (Nat.le_refl _) _).trans (grown_mono G4 (by simp) (fun b hb => by cases hb; exact Nat.le_refl _))
      have RL : Kept _ := ⟨K5.out.under HB4⟩
      have R4 : Kept _ := ⟨row_cells R4⟩
      have HB5 := HB.trans (HB4.mono HB.size)
      clear G4 HB HB4
      go_wp2_with fail
      refine (rplus_any low ([0] ++ high) _ _ _ (row_cells RL.out) R4.out DO5.out (DO6.out.cons (by decide)) (by have := L5.out; omega) (by have := L6.out; simp; omega)).mono ?_
      rintro e w5 ⟨r, u, rfl, Rr, Dr, Lr, Vr, hb5⟩
      have HB6 := HB5.trans (hb5.mono HB5.size)
      have Rr : Kept _ := ⟨Rr.mono HB5.size⟩
      have Lr : Kept (r.length ≤ nn + 5) := ⟨by have := L5.out; have := L6.out; simp at Lr; omega⟩
      have Vr : Kept (val r = val l * n) := ⟨by
        rw [Vr, val_zero, F5.out, F6.out, ENL.out, ENH.out, Nat.mul_left_comm, ← Nat.mul_add, Nat.mod_add_div]⟩
      have Dr : Kept _ := ⟨Dr⟩
      clear hb5 HB5 R4 RL
      go_wp2_with fail
      go_ret
      exact ⟨r, _, rfl, Rr.out, Dr.out, Lr.out, Vr.out, HB6⟩
    have hA' : (i : Int) < (nn : Int) + 3 := by omega
    by_cases hA : i < nn
    case pos =>
      have hA'' : (i : Int) < (nn : Int) := by omega
      obtain ⟨x, hx⟩ : ∃ x, l[i]? = some x := ⟨_, List.getElem?_eq_getElem (by have := EL.out; omega)⟩
      obtain ⟨Aa, rfl, hba, hca⟩ := (IntsV.under KA.out HB).cell hx
      have hx16 : x < 65536 := DA.out i x hx
      have VX : Kept _ := ⟨val_take l i x hx⟩
      clear hx hba
      have sm : x * nl ≤ 65535 * 65535 := Nat.mul_le_mul (by omega) (by omega)
      obtain ⟨sp, hsp⟩ : ∃ s, s = x * nl := ⟨_, rfl⟩
      have Esp : Kept _ := ⟨hsp⟩
      rw [← hsp] at sm
      obtain ⟨s, hs⟩ : ∃ s, s = c + sp := ⟨_, rfl⟩
      have Es : Kept _ := ⟨hs⟩
      have s64 : s < 18446744073709551616 := by omega
      have sp64 : sp < 18446744073709551616 := by omega
      obtain ⟨dg, hdg⟩ : ∃ d, d = s % 65536 := ⟨_, rfl⟩
      obtain ⟨cq, hcq⟩ : ∃ d, d = s / 65536 := ⟨_, rfl⟩
      have cql : cq ≤ 65535 := by omega
      have dg16 : dg < 65536 := by omega
      have Edg : Kept _ := ⟨hdg⟩
      have Ecq : Kept _ := ⟨hcq⟩
      have Vs : Kept (val (low ++ [dg]) + cq * 65536 ^ (i + 1) = val (l.take (i + 1)) * nl) := ⟨by
        rw [VX.out, val_snoc, L5.out, hdg, hcq, Nat.pow_succ, hs, hsp]
        exact step_mul _ _ _ _ _ _ HV5.out⟩
      have tm : x * nh ≤ 65535 * 65535 := Nat.mul_le_mul (by omega) (by omega)
      obtain ⟨tp, htp⟩ : ∃ s, s = x * nh := ⟨_, rfl⟩
      have Etp : Kept _ := ⟨htp⟩
      rw [← htp] at tm
      obtain ⟨t, ht⟩ : ∃ s, s = d + tp := ⟨_, rfl⟩
      have Et : Kept _ := ⟨ht⟩
      have t64 : t < 18446744073709551616 := by omega
      have tp64 : tp < 18446744073709551616 := by omega
      obtain ⟨eg, heg⟩ : ∃ d, d = t % 65536 := ⟨_, rfl⟩
      obtain ⟨dq, hdq⟩ : ∃ d, d = t / 65536 := ⟨_, rfl⟩
      have dql : dq ≤ 65535 := by omega
      have eg16 : eg < 65536 := by omega
      have Eeg : Kept _ := ⟨heg⟩
      have Edq : Kept _ := ⟨hdq⟩
      have Vt : Kept (val (high ++ [eg]) + dq * 65536 ^ (i + 1) = val (l.take (i + 1)) * nh) := ⟨by
        rw [VX.out, val_snoc, L6.out, heg, hdq, Nat.pow_succ, ht, htp]
        exact step_mul _ _ _ _ _ _ HV6.out⟩
      have CZ : Kept (i < nn ∨ (cq = 0 ∧ dq = 0)) := ⟨by omega⟩
      clear hs ht hdg hcq heg hdq hsp htp
      have S5 : Kept (low.length + [dg].length ≤ 8796093022208) := ⟨by have := L5.out; simp; omega⟩
      have S6 : Kept (high.length + [eg].length ≤ 8796093022208) := ⟨by have := L6.out; simp; omega⟩
      go_wp2_with (first | ((with_reducible refine wv_val (d := 14) ?hd ?hw (.int .i64 ((nn + 3 : Nat) : Int)) ?hr ?_); (case hd => rfl); (case hw => kernel_rfl); (case hr => intro w; exact run_addI 3 rfl (by kernel_rfl) (by omega) w); simp only [Act.put, List.setIfInBounds_toArray, List.set_cons_succ, List.set_cons_zero]) | ((with_reducible refine wv_elem (d := 25) ?hd ?hw 30 ag_u64 (.tmp 24) ?ho (Aa.add i) ?hx (.int .u64 (x : Int)) ?hg ?_); (case hd => rfl); (case hw => kernel_rfl); (case ho => rfl); (case hx => first | rfl | kernel_rfl); (case hg => exact hca); simp only [Act.put, List.setIfInBounds_toArray, List.set_cons_succ, List.set_cons_zero]) | ((with_reducible refine wv_val (d := 29) ?hd ?hw (.int .u64 (nl : Int)) ?hr ?_); (case hd => rfl); (case hw => kernel_rfl); (case hr => intro w; exact run_rem64 rfl (by kernel_rfl) (by kernel_rfl) (by decide) n64 ENL.out w); simp only [Act.put, List.setIfInBounds_toArray, List.set_cons_succ, List.set_cons_zero]) | ((with_reducible refine wv_val (d := 30) ?hd ?hw (.int .u64 (sp : Int)) ?hr ?_); (case hd => rfl); (case hw => kernel_rfl); (case hr => intro w; exact run_mul64 rfl (by kernel_rfl) (by kernel_rfl) Esp.out sp64 w); simp only [Act.put, List.setIfInBounds_toArray, List.set_cons_succ, List.set_cons_zero]) | ((with_reducible refine wv_val (d := 31) ?hd ?hw (.int .u64 (s : Int)) ?hr ?_); (case hd => rfl); (case hw => kernel_rfl); (case hr => intro w; exact run_add64 rfl (by kernel_rfl) (by kernel_rfl) Es.out s64 w); simp only [Act.put, List.setIfInBounds_toArray, List.set_cons_succ, List.set_cons_zero]) | ((with_reducible refine wv_val (d := 35) ?hd ?hw (.int .u64 (nh : Int)) ?hr ?_); (case hd => rfl); (case hw => kernel_rfl); (case hr => intro w; exact run_quo64 rfl (by kernel_rfl) (by kernel_rfl) (by decide) n64 ENH.out w); simp only [Act.put, List.setIfInBounds_toArray, List.set_cons_succ, List.set_cons_zero]) | ((with_reducible refine wv_val (d := 36) ?hd ?hw (.int .u64 (tp : Int)) ?hr ?_); (case hd => rfl); (case hw => kernel_rfl); (case hr => intro w; exact run_mul64 rfl (by kernel_rfl) (by kernel_rfl) Etp.out tp64 w); simp only [Act.put, List.setIfInBounds_toArray, List.set_cons_succ, List.set_cons_zero]) | ((with_reducible refine wv_val (d := 37) ?hd ?hw (.int .u64 (t : Int)) ?hr ?_); (case hd => rfl); (case hw => kernel_rfl); (case hr => intro w; exact run_add64 rfl (by kernel_rfl) (by kernel_rfl) Et.out t64 w); simp only [Act.put, List.setIfInBounds_toArray, List.set_cons_succ, List.set_cons_zero]) | ((with_reducible refine wv_val (d := 40) ?hd ?hw (.int .u64 (dg : Int)) ?hr ?_); (case hd => rfl); (case hw => kernel_rfl); (case hr => intro w; exact run_rem64 rfl (by kernel_rfl) (by kernel_rfl) (by decide) s64 Edg.out w); simp only [Act.put, List.setIfInBounds_toArray, List.set_cons_succ, List.set_cons_zero]) | (refine wl_app (by kernel_rfl) (.tmp 38) (.tmp 41) 51 30 .u64 8 rfl Tryd.underlying51 inf_u64 (by decide) (w.heap.size) (low) [dg] (u5) _ rfl rfl (K5.out.alloc _) (one_ints _ _) S5.out (by simp; have := HB.size; omega) ?_))
      intro v5 w3 R3 G3 E3
      have HB3 : Below w.heap.size w w3 := (HB.alloc HB.size _).trans (grown_mono G3 (by simp; have := HB.size; omega) (fun b hb => (K5.out.range b hb).1))
      have R3 : Kept _ := ⟨R3⟩
      have R63 : Kept _ := ⟨(K6.out.alloc _).keeps G3 (by
        cases h : blkOf u6 with
        | none => exact .inl rfl
        | some b => exact .inr fun e => N56.out b e.symm h)⟩
      have N3 : Kept (∀ b, blkOf v5 = some b → blkOf u6 ≠ some b) := ⟨fun b hb e => by
        rcases E3 with h | h
        · exact N56.out b (by rw [← h]; exact hb) e
        · rw [hb] at h
          have := (K6.out.range b e).2
          simp at h
          omega⟩
      clear G3 E3
      go_wp2_with (first | ((with_reducible refine wv_val (d := 45) ?hd ?hw (.int .u64 (eg : Int)) ?hr ?_); (case hd => rfl); (case hw => kernel_rfl); (case hr => intro w; exact run_rem64 rfl (by kernel_rfl) (by kernel_rfl) (by decide) t64 Eeg.out w); simp only [Act.put, List.setIfInBounds_toArray, List.set_cons_succ, List.set_cons_zero]) | (refine wl_app (by kernel_rfl) (.tmp 43) (.tmp 46) 51 30 .u64 8 rfl Tryd.underlying51 inf_u64 (by decide) (w.heap.size) (high) [eg] (u6) _ rfl rfl (R63.out.alloc _) (one_ints _ _) S6.out (by simp; have := HB3.size; omega) ?_))
      intro v6 w4 R4 G4 E4
      have HB4 : Below w.heap.size w w4 := (HB3.alloc HB3.size _).trans (grown_mono G4 (by simp; have := HB3.size; omega) (fun b hb => (R63.out.range b hb).1))
      have R4 : Kept _ := ⟨R4⟩
      have R54 : Kept _ := ⟨(R3.out.alloc _).keeps G4 (by
        cases h : blkOf v5 with
        | none => exact .inl rfl
        | some b => exact .inr fun e => N3.out b h e.symm)⟩
      have N4 : Kept (∀ b, blkOf v5 = some b → blkOf v6 ≠ some b) := ⟨fun b hb e => by
        rcases E4 with h | h
        · exact N3.out b hb (by rw [← h]; exact e)
        · rw [e] at h
          have := (R3.out.range b hb).2
          simp at h
          omega⟩
      have D5 : Kept _ := ⟨DO5.out.snoc dg16⟩
      have D6 : Kept _ := ⟨DO6.out.snoc eg16⟩
      clear G4 E4 HB HB3 K5 K6 R3 R63 N56 N3 DO5 DO6
      go_wp2_with (first | ((with_reducible refine wv_val (d := 49) ?hd ?hw (.int .u64 (cq : Int)) ?hr ?_); (case hd => rfl); (case hw => kernel_rfl); (case hr => intro w; exact run_quo64 rfl (by kernel_rfl) (by kernel_rfl) (by decide) s64 Ecq.out w); simp only [Act.put, List.setIfInBounds_toArray, List.set_cons_succ, List.set_cons_zero]) | ((with_reducible refine wv_val (d := 51) ?hd ?hw (.int .u64 (dq : Int)) ?hr ?_); (case hd => rfl); (case hw => kernel_rfl); (case hr => intro w; exact run_quo64 rfl (by kernel_rfl) (by kernel_rfl) (by decide) t64 Edq.out w); simp only [Act.put, List.setIfInBounds_toArray, List.set_cons_succ, List.set_cons_zero]))
      go_roundg (gk - 1)
      case measure => omega
      case rel => exact ⟨i + 1, cq, dq, low ++ [dg], high ++ [eg], by omega, rfl, rfl, by rfl, ⟨⟨HB4, R54.out, R4.out, D5.out, D6.out, by simp [L5.out], by simp [L6.out], Vs.out, Vt.out, cql, dql, by have := CZ.out; omega, N4.out⟩⟩⟩

    case neg =>
      have hA'' : ¬ (i : Int) < (nn : Int) := by omega
      have hx16 : 0 < 65536 := by omega
      have VX : Kept (val (l.take (i + 1)) = val (l.take i) + 0 * 65536 ^ i) := ⟨by rw [val_take_all l i (by have := EL.out; omega)]; omega⟩
      have sm : 0 * nl ≤ 65535 * 65535 := Nat.mul_le_mul (by omega) (by omega)
      obtain ⟨sp, hsp⟩ : ∃ s, s = 0 * nl := ⟨_, rfl⟩
      have Esp : Kept _ := ⟨hsp⟩
      rw [← hsp] at sm
      obtain ⟨s, hs⟩ : ∃ s, s = c + sp := ⟨_, rfl⟩
      have Es : Kept _ := ⟨hs⟩
      have s64 : s < 18446744073709551616 := by omega
      have sp64 : sp < 18446744073709551616 := by omega
      obtain ⟨dg, hdg⟩ : ∃ d, d = s % 65536 := ⟨_, rfl⟩
      obtain ⟨cq, hcq⟩ : ∃ d, d = s / 65536 := ⟨_, rfl⟩
      have cql : cq ≤ 65535 := by omega
      have dg16 : dg < 65536 := by omega
      have Edg : Kept _ := ⟨hdg⟩
      have Ecq : Kept _ := ⟨hcq⟩
      have Vs : Kept (val (low ++ [dg]) + cq * 65536 ^ (i + 1) = val (l.take (i + 1)) * nl) := ⟨by
        rw [VX.out, val_snoc, L5.out, hdg, hcq, Nat.pow_succ, hs, hsp]
        exact step_mul _ _ _ _ _ _ HV5.out⟩
      have tm : 0 * nh ≤ 65535 * 65535 := Nat.mul_le_mul (by omega) (by omega)
      obtain ⟨tp, htp⟩ : ∃ s, s = 0 * nh := ⟨_, rfl⟩
      have Etp : Kept _ := ⟨htp⟩
      rw [← htp] at tm
      obtain ⟨t, ht⟩ : ∃ s, s = d + tp := ⟨_, rfl⟩
      have Et : Kept _ := ⟨ht⟩
      have t64 : t < 18446744073709551616 := by omega
      have tp64 : tp < 18446744073709551616 := by omega
      obtain ⟨eg, heg⟩ : ∃ d, d = t % 65536 := ⟨_, rfl⟩
      obtain ⟨dq, hdq⟩ : ∃ d, d = t / 65536 := ⟨_, rfl⟩
      have dql : dq ≤ 65535 := by omega
      have eg16 : eg < 65536 := by omega
      have Eeg : Kept _ := ⟨heg⟩
      have Edq : Kept _ := ⟨hdq⟩
      have Vt : Kept (val (high ++ [eg]) + dq * 65536 ^ (i + 1) = val (l.take (i + 1)) * nh) := ⟨by
        rw [VX.out, val_snoc, L6.out, heg, hdq, Nat.pow_succ, ht, htp]
        exact step_mul _ _ _ _ _ _ HV6.out⟩
      have z1 : cq = 0 ∧ dq = 0 := by
        have e1 : sp = 0 := by rw [hsp, Nat.zero_mul]
        have e2 : tp = 0 := by rw [htp, Nat.zero_mul]
        omega
      have CZ : Kept (i < nn ∨ (cq = 0 ∧ dq = 0)) := ⟨by omega⟩
      clear hs ht hdg hcq heg hdq hsp htp z1
      have S5 : Kept (low.length + [dg].length ≤ 8796093022208) := ⟨by have := L5.out; simp; omega⟩
      have S6 : Kept (high.length + [eg].length ≤ 8796093022208) := ⟨by have := L6.out; simp; omega⟩
      go_wp2_with (first | ((with_reducible refine wv_val (d := 14) ?hd ?hw (.int .i64 ((nn + 3 : Nat) : Int)) ?hr ?_); (case hd => rfl); (case hw => kernel_rfl); (case hr => intro w; exact run_addI 3 rfl (by kernel_rfl) (by omega) w); simp only [Act.put, List.setIfInBounds_toArray, List.set_cons_succ, List.set_cons_zero]) | ((with_reducible refine wv_val (d := 29) ?hd ?hw (.int .u64 (nl : Int)) ?hr ?_); (case hd => rfl); (case hw => kernel_rfl); (case hr => intro w; exact run_rem64 rfl (by kernel_rfl) (by kernel_rfl) (by decide) n64 ENL.out w); simp only [Act.put, List.setIfInBounds_toArray, List.set_cons_succ, List.set_cons_zero]) | ((with_reducible refine wv_val (d := 30) ?hd ?hw (.int .u64 (sp : Int)) ?hr ?_); (case hd => rfl); (case hw => kernel_rfl); (case hr => intro w; exact run_mul64 rfl (by kernel_rfl) (by kernel_rfl) Esp.out sp64 w); simp only [Act.put, List.setIfInBounds_toArray, List.set_cons_succ, List.set_cons_zero]) | ((with_reducible refine wv_val (d := 31) ?hd ?hw (.int .u64 (s : Int)) ?hr ?_); (case hd => rfl); (case hw => kernel_rfl); (case hr => intro w; exact run_add64 rfl (by kernel_rfl) (by kernel_rfl) Es.out s64 w); simp only [Act.put, List.setIfInBounds_toArray, List.set_cons_succ, List.set_cons_zero]) | ((with_reducible refine wv_val (d := 35) ?hd ?hw (.int .u64 (nh : Int)) ?hr ?_); (case hd => rfl); (case hw => kernel_rfl); (case hr => intro w; exact run_quo64 rfl (by kernel_rfl) (by kernel_rfl) (by decide) n64 ENH.out w); simp only [Act.put, List.setIfInBounds_toArray, List.set_cons_succ, List.set_cons_zero]) | ((with_reducible refine wv_val (d := 36) ?hd ?hw (.int .u64 (tp : Int)) ?hr ?_); (case hd => rfl); (case hw => kernel_rfl); (case hr => intro w; exact run_mul64 rfl (by kernel_rfl) (by kernel_rfl) Etp.out tp64 w); simp only [Act.put, List.setIfInBounds_toArray, List.set_cons_succ, List.set_cons_zero]) | ((with_reducible refine wv_val (d := 37) ?hd ?hw (.int .u64 (t : Int)) ?hr ?_); (case hd => rfl); (case hw => kernel_rfl); (case hr => intro w; exact run_add64 rfl (by kernel_rfl) (by kernel_rfl) Et.out t64 w); simp only [Act.put, List.setIfInBounds_toArray, List.set_cons_succ, List.set_cons_zero]) | ((with_reducible refine wv_val (d := 40) ?hd ?hw (.int .u64 (dg : Int)) ?hr ?_); (case hd => rfl); (case hw => kernel_rfl); (case hr => intro w; exact run_rem64 rfl (by kernel_rfl) (by kernel_rfl) (by decide) s64 Edg.out w); simp only [Act.put, List.setIfInBounds_toArray, List.set_cons_succ, List.set_cons_zero]) | (refine wl_app (by kernel_rfl) (.tmp 38) (.tmp 41) 51 30 .u64 8 rfl Tryd.underlying51 inf_u64 (by decide) (w.heap.size) (low) [dg] (u5) _ rfl rfl (K5.out.alloc _) (one_ints _ _) S5.out (by simp; have := HB.size; omega) ?_))
      intro v5 w3 R3 G3 E3
      have HB3 : Below w.heap.size w w3 := (HB.alloc HB.size _).trans (grown_mono G3 (by simp; have := HB.size; omega) (fun b hb => (K5.out.range b hb).1))
      have R3 : Kept _ := ⟨R3⟩
      have R63 : Kept _ := ⟨(K6.out.alloc _).keeps G3 (by
        cases h : blkOf u6 with
        | none => exact .inl rfl
        | some b => exact .inr fun e => N56.out b e.symm h)⟩
      have N3 : Kept (∀ b, blkOf v5 = some b → blkOf u6 ≠ some b) := ⟨fun b hb e => by
        rcases E3 with h | h
        · exact N56.out b (by rw [← h]; exact hb) e
        · rw [hb] at h
          have := (K6.out.range b e).2
          simp at h
          omega⟩
      clear G3 E3
      go_wp2_with (first | ((with_reducible refine wv_val (d := 45) ?hd ?hw (.int .u64 (eg : Int)) ?hr ?_); (case hd => rfl); (case hw => kernel_rfl); (case hr => intro w; exact run_rem64 rfl (by kernel_rfl) (by kernel_rfl) (by decide) t64 Eeg.out w); simp only [Act.put, List.setIfInBounds_toArray, List.set_cons_succ, List.set_cons_zero]) | (refine wl_app (by kernel_rfl) (.tmp 43) (.tmp 46) 51 30 .u64 8 rfl Tryd.underlying51 inf_u64 (by decide) (w.heap.size) (high) [eg] (u6) _ rfl rfl (R63.out.alloc _) (one_ints _ _) S6.out (by simp; have := HB3.size; omega) ?_))
      intro v6 w4 R4 G4 E4
      have HB4 : Below w.heap.size w w4 := (HB3.alloc HB3.size _).trans (grown_mono G4 (by simp; have := HB3.size; omega) (fun b hb => (R63.out.range b hb).1))
      have R4 : Kept _ := ⟨R4⟩
      have R54 : Kept _ := ⟨(R3.out.alloc _).keeps G4 (by
        cases h : blkOf v5 with
        | none => exact .inl rfl
        | some b => exact .inr fun e => N3.out b h e.symm)⟩
      have N4 : Kept (∀ b, blkOf v5 = some b → blkOf v6 ≠ some b) := ⟨fun b hb e => by
        rcases E4 with h | h
        · exact N3.out b hb (by rw [← h]; exact e)
        · rw [e] at h
          have := (R3.out.range b hb).2
          simp at h
          omega⟩
      have D5 : Kept _ := ⟨DO5.out.snoc dg16⟩
      have D6 : Kept _ := ⟨DO6.out.snoc eg16⟩
      clear G4 E4 HB HB3 K5 K6 R3 R63 N56 N3 DO5 DO6
      go_wp2_with (first | ((with_reducible refine wv_val (d := 49) ?hd ?hw (.int .u64 (cq : Int)) ?hr ?_); (case hd => rfl); (case hw => kernel_rfl); (case hr => intro w; exact run_quo64 rfl (by kernel_rfl) (by kernel_rfl) (by decide) s64 Ecq.out w); simp only [Act.put, List.setIfInBounds_toArray, List.set_cons_succ, List.set_cons_zero]) | ((with_reducible refine wv_val (d := 51) ?hd ?hw (.int .u64 (dq : Int)) ?hr ?_); (case hd => rfl); (case hw => kernel_rfl); (case hr => intro w; exact run_quo64 rfl (by kernel_rfl) (by kernel_rfl) (by decide) t64 Edq.out w); simp only [Act.put, List.setIfInBounds_toArray, List.set_cons_succ, List.set_cons_zero]))
      go_roundg (gk - 1)
      case measure => omega
      case rel => exact ⟨i + 1, cq, dq, low ++ [dg], high ++ [eg], by omega, rfl, rfl, by rfl, ⟨⟨HB4, R54.out, R4.out, D5.out, D6.out, by simp [L5.out], by simp [L6.out], Vs.out, Vt.out, cql, dql, by have := CZ.out; omega, N4.out⟩⟩⟩

end Go.Proofs.YtghinfdmkiaaiaaDoor.sh
