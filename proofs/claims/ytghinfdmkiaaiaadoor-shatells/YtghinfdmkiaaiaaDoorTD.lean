/-
  The reference's times.
-/
import Derived.Test.YtghinfdmkiaaiaaDoorTC
namespace Go.Proofs.YtghinfdmkiaaiaaDoor.sh
open Go Go.RowKit
set_option linter.unusedVariables false
set_option linter.unusedSimpArgs false


set_option maxRecDepth 100000 in
set_option maxHeartbeats 2000000 in
theorem times_any (l : List Nat) (v : Value) (n : Nat) (w : World) (hv : IntsV .u64 v w l) (dl : Dig l) (ll : l.length ≤ 80) (hn : n < 281474976710656) :
    Calls Tryd.prog 27 #[v, .int .u64 (n : Int)] w fun e w' => ∃ r u, e = .returned u ∧ Row w.heap.size 30 .u64 r u w' ∧ Dig r ∧ r.length ≤ l.length + 7 ∧ val r = val l * n ∧ Below w.heap.size w w' := by
  have KA : Kept _ := ⟨hv⟩
  have DA : Kept _ := ⟨dl⟩
  obtain ⟨pa, cpa, rfl, _, _⟩ := hv
  obtain ⟨nn, hnn⟩ : ∃ n, n = l.length := ⟨_, rfl⟩
  rw [← hnn] at KA ll
  have EL : Kept _ := ⟨hnn⟩
  rw [← hnn]
  clear hnn dl
  obtain ⟨nl, hnl⟩ : ∃ m, m = n % 65536 := ⟨_, rfl⟩
  have nl16 : nl < 65536 := by omega
  have n64 : n < 18446744073709551616 := by omega
  have ENL : Kept _ := ⟨hnl⟩
  clear hnl
  go_enter Tryd.func27, Tryd.ntmps27
  go_wp2_with fail
  go_loopg [5, 6, 7] (nn + 1) (fun m s5 s6 s7 wr => ∃ (i c : Nat) (out : List Nat), i + m = nn + 1 ∧ s6 = .int .u64 (c : Int) ∧ s7 = .int .i64 (i : Int) ∧ Kept (Below w.heap.size w wr ∧ Row w.heap.size 30 .u64 out s5 wr ∧ Dig out ∧ out.length = i ∧ val out + c * 65536 ^ i = val (l.take i) * nl ∧ c ≤ 65535 ∧ (i ≤ nn ∨ c = 0)))
  case atStart => exact ⟨0, 0, [], by omega, rfl, rfl, ⟨⟨Below.refl _ _, row_nil _ _ _ _, dig_nil, rfl, by simp [val], by omega, .inl (Nat.zero_le _)⟩⟩⟩
  case round =>
    obtain ⟨i, c, out, hik, rfl, rfl, KK⟩ := hrel
    obtain ⟨HB, RO, DO, KL, HV, c1, c0⟩ := KK.out
    have KO : Kept _ := ⟨RO⟩
    have DO : Kept _ := ⟨DO⟩
    have KL : Kept _ := ⟨KL⟩
    have HV : Kept _ := ⟨HV⟩
    clear KK RO
    have i0 : (0 : Int) ≤ (i : Int) := by omega
    by_cases hA : i < nn
    case pos =>
      have hA' : (i : Int) < (nn : Int) := by omega
      obtain ⟨x, hx⟩ : ∃ x, l[i]? = some x := ⟨_, List.getElem?_eq_getElem (by have := EL.out; omega)⟩
      obtain ⟨Aa, rfl, hba, hca⟩ := (IntsV.under KA.out HB).cell hx
      have hx16 : x < 65536 := DA.out i x hx
      have VX : Kept _ := ⟨val_take l i x hx⟩
      clear hx hba
      have sm : x * nl ≤ 65535 * 65535 := Nat.mul_le_mul (by omega) (by omega)
      obtain ⟨sp, hsp⟩ : ∃ s, s = x * nl := ⟨_, rfl⟩
      have Esp : Kept _ := ⟨hsp⟩
      rw [← hsp] at sm
      obtain ⟨s, hs⟩ : ∃ s, s = c + sp := ⟨_, rfl⟩
      have Es : Kept _ := ⟨hs⟩
      have s64 : s < 18446744073709551616 := by omega
      have sp64 : sp < 18446744073709551616 := by omega
      obtain ⟨dg, hdg⟩ : ∃ d, d = s % 65536 := ⟨_, rfl⟩
      obtain ⟨cq, hcq⟩ : ∃ d, d = s / 65536 := ⟨_, rfl⟩
      have cql : cq ≤ 65535 := by omega
      have dg16 : dg < 65536 := by omega
      have Edg : Kept _ := ⟨hdg⟩
      have Ecq : Kept _ := ⟨hcq⟩
      have Vs : Kept (val (out ++ [dg]) + cq * 65536 ^ (i + 1) = val (l.take (i + 1)) * nl) := ⟨by
        rw [VX.out, val_snoc, KL.out, hdg, hcq, Nat.pow_succ, hs, hsp]
        exact step_mul _ _ _ _ _ _ HV.out⟩
      clear hs hdg hcq hsp
      have SN : Kept (out.length + [dg].length ≤ 8796093022208) := ⟨by have := KL.out; simp; omega⟩
      have CZ : Kept (i + 1 ≤ nn ∨ cq = 0) := ⟨.inl (by omega)⟩
      go_wp2_with (first | ((with_reducible refine wv_elem (d := 27) ?hd ?hw 30 ag_u64 (.tmp 26) ?ho (Aa.add i) ?hx (.int .u64 (x : Int)) ?hg ?_); (case hd => rfl); (case hw => kernel_rfl); (case ho => rfl); (case hx => first | rfl | kernel_rfl); (case hg => exact hca); simp only [Act.put, List.setIfInBounds_toArray, List.set_cons_succ, List.set_cons_zero]) | ((with_reducible refine wv_val (d := 29) ?hd ?hw (.int .u64 (nl : Int)) ?hr ?_); (case hd => rfl); (case hw => kernel_rfl); (case hr => intro w; exact run_rem64 rfl (by kernel_rfl) (by kernel_rfl) (by decide) n64 ENL.out w); simp only [Act.put, List.setIfInBounds_toArray, List.set_cons_succ, List.set_cons_zero]) | ((with_reducible refine wv_val (d := 30) ?hd ?hw (.int .u64 (sp : Int)) ?hr ?_); (case hd => rfl); (case hw => kernel_rfl); (case hr => intro w; exact run_mul64 rfl (by kernel_rfl) (by kernel_rfl) Esp.out sp64 w); simp only [Act.put, List.setIfInBounds_toArray, List.set_cons_succ, List.set_cons_zero]) | ((with_reducible refine wv_val (d := 31) ?hd ?hw (.int .u64 (s : Int)) ?hr ?_); (case hd => rfl); (case hw => kernel_rfl); (case hr => intro w; exact run_add64 rfl (by kernel_rfl) (by kernel_rfl) Es.out s64 w); simp only [Act.put, List.setIfInBounds_toArray, List.set_cons_succ, List.set_cons_zero]) | ((with_reducible refine wv_val (d := 34) ?hd ?hw (.int .u64 (dg : Int)) ?hr ?_); (case hd => rfl); (case hw => kernel_rfl); (case hr => intro w; exact run_rem64 rfl (by kernel_rfl) (by kernel_rfl) (by decide) s64 Edg.out w); simp only [Act.put, List.setIfInBounds_toArray, List.set_cons_succ, List.set_cons_zero]) | (refine wl_app (by kernel_rfl) (.tmp 32) (.tmp 35) 51 30 .u64 8 rfl Tryd.underlying51 inf_u64 (by decide) (w.heap.size) (out) [dg] (u5) _ rfl rfl (KO.out.alloc _) (one_ints _ _) SN.out (by simp; have := HB.size; omega) ?_))
      intro v5 w3 R3 G3 _
      have HB3 : Below w.heap.size w w3 := (HB.alloc HB.size _).trans (grown_mono G3 (by simp; have := HB.size; omega) (fun b hb => (KO.out.range b hb).1))
      have R3 : Kept _ := ⟨R3⟩
      have DO3 : Kept _ := ⟨DO.out.snoc dg16⟩
      clear G3 HB KO DO
      go_wp2_with (first | ((with_reducible refine wv_val (d := 38) ?hd ?hw (.int .u64 (cq : Int)) ?hr ?_); (case hd => rfl); (case hw => kernel_rfl); (case hr => intro w; exact run_quo64 rfl (by kernel_rfl) (by kernel_rfl) (by decide) s64 Ecq.out w); simp only [Act.put, List.setIfInBounds_toArray, List.set_cons_succ, List.set_cons_zero]))
      go_roundg (gk - 1)
      case measure => omega
      case rel => exact ⟨i + 1, cq, out ++ [dg], by omega, rfl, by rfl, ⟨⟨HB3, R3.out, DO3.out, by simp [KL.out], Vs.out, cql, by have := CZ.out; omega⟩⟩⟩

    have hA' : ¬ (i : Int) < (nn : Int) := by omega
    by_cases hc : c = 0
    case neg =>
      have hc' : (0 : Int) < (c : Int) := by omega
      have VX : Kept (val (l.take (i + 1)) = val (l.take i)) := ⟨val_take_all l i (by have := EL.out; omega)⟩
      have c64 : c < 18446744073709551616 := by omega
      obtain ⟨dg, hdg⟩ : ∃ d, d = c % 65536 := ⟨_, rfl⟩
      obtain ⟨cq, hcq⟩ : ∃ d, d = c / 65536 := ⟨_, rfl⟩
      have cq0 : cq = 0 := by omega
      have cql : cq ≤ 65535 := by omega
      have dg16 : dg < 65536 := by omega
      have Edg : Kept _ := ⟨hdg⟩
      have Ecq : Kept _ := ⟨hcq⟩
      have Vs : Kept (val (out ++ [dg]) + cq * 65536 ^ (i + 1) = val (l.take (i + 1)) * nl) := ⟨by
        rw [VX.out, val_snoc, KL.out, hdg, hcq, Nat.pow_succ, carry]
        exact HV.out⟩
      clear hdg hcq
      have SN : Kept (out.length + [dg].length ≤ 8796093022208) := ⟨by have := KL.out; simp; omega⟩
      have CZ : Kept (i + 1 ≤ nn ∨ cq = 0) := ⟨.inr cq0⟩
      clear cq0
      go_wp2_with (first | ((with_reducible refine wv_val (d := 34) ?hd ?hw (.int .u64 (dg : Int)) ?hr ?_); (case hd => rfl); (case hw => kernel_rfl); (case hr => intro w; exact run_rem64 rfl (by kernel_rfl) (by kernel_rfl) (by decide) c64 Edg.out w); simp only [Act.put, List.setIfInBounds_toArray, List.set_cons_succ, List.set_cons_zero]) | (refine wl_app (by kernel_rfl) (.tmp 32) (.tmp 35) 51 30 .u64 8 rfl Tryd.underlying51 inf_u64 (by decide) (w.heap.size) (out) [dg] (u5) _ rfl rfl (KO.out.alloc _) (one_ints _ _) SN.out (by simp; have := HB.size; omega) ?_))
      intro v5 w3 R3 G3 _
      have HB3 : Below w.heap.size w w3 := (HB.alloc HB.size _).trans (grown_mono G3 (by simp; have := HB.size; omega) (fun b hb => (KO.out.range b hb).1))
      have R3 : Kept _ := ⟨R3⟩
      have DO3 : Kept _ := ⟨DO.out.snoc dg16⟩
      clear G3 HB KO DO
      go_wp2_with (first | ((with_reducible refine wv_val (d := 38) ?hd ?hw (.int .u64 (cq : Int)) ?hr ?_); (case hd => rfl); (case hw => kernel_rfl); (case hr => intro w; exact run_quo64 rfl (by kernel_rfl) (by kernel_rfl) (by decide) c64 Ecq.out w); simp only [Act.put, List.setIfInBounds_toArray, List.set_cons_succ, List.set_cons_zero]))
      go_roundg (gk - 1)
      case measure => omega
      case rel => exact ⟨i + 1, cq, out ++ [dg], by omega, rfl, by rfl, ⟨⟨HB3, R3.out, DO3.out, by simp [KL.out], Vs.out, cql, by have := CZ.out; omega⟩⟩⟩

    subst hc
    have FV : Kept (val out = val l * nl) := ⟨by have := HV.out; rw [List.take_of_length_le (by have := EL.out; omega)] at this; omega⟩
    by_cases hsm : n < 65536
    · have hsm' : (n : Int) < 65536 := by omega
      have FN : Kept (val out = val l * n) := ⟨by rw [FV.out, ENL.out, Nat.mod_eq_of_lt hsm]⟩
      have hl : Kept (out.length ≤ nn + 7) := ⟨by have := KL.out; omega⟩
      go_wp2_with fail
      go_ret
      exact ⟨out, _, rfl, KO.out, DO.out, hl.out, FN.out, HB⟩
    have hsm' : ¬ (n : Int) < 65536 := by omega
    obtain ⟨nh, hnh⟩ : ∃ m, m = n / 65536 := ⟨_, rfl⟩
    have nh32 : nh < 4294967296 := by omega
    have ENH : Kept _ := ⟨hnh⟩
    clear hnh
    go_wp2_with (first | ((with_reducible refine wv_val (d := 45) ?hd ?hw (.int .u64 (nh : Int)) ?hr ?_); (case hd => rfl); (case hw => kernel_rfl); (case hr => intro w; exact run_quo64 rfl (by kernel_rfl) (by kernel_rfl) (by decide) n64 ENH.out w); simp only [Act.put, List.setIfInBounds_toArray, List.set_cons_succ, List.set_cons_zero]))
    have HBa : Below w.heap.size w (wr.alloc (.cells #[.int .u64 0] 30)) := HB.alloc HB.size _
    have RZ : Kept (Row wr.heap.size 30 .u64 [0] (.slice (some ⟨wr.heap.size, 0, none⟩) 1 1) (wr.alloc (.cells #[.int .u64 0] 30))) := ⟨row_zero wr (Nat.le_refl _)⟩
    refine (times1_any l _ nh _ (IntsV.under KA.out HBa) DA.out (by have := EL.out; omega) nh32).mono ?_
    rintro e w4 ⟨h1, u1, rfl, R1, D1, L1, V1, hb4⟩
    have RZ4 : Kept _ := ⟨RZ.out.under hb4⟩
    have R1 : Kept _ := ⟨row_cells R1⟩
    have D1 : Kept _ := ⟨D1⟩
    have L1 : Kept (h1.length ≤ nn + 5) := ⟨by have := EL.out; omega⟩
    have V1 : Kept _ := ⟨V1⟩
    have HBw : Below wr.heap.size wr w4 := ((Below.refl _ _).alloc (Nat.le_refl _) _).trans (hb4.mono (by simp))
    have sw : wr.heap.size < w4.heap.size := by have := hb4.size; simp at this; omega
    clear hb4 RZ HBa
    have SN : Kept ([0].length + h1.length ≤ 8796093022208) := ⟨by have := L1.out; simp; omega⟩
    go_wp2_with (first | (refine wl_app (by kernel_rfl) (.tmp 42) (.tmp 46) 51 30 .u64 8 rfl Tryd.underlying51 inf_u64 (by decide) wr.heap.size [0] h1 _ u1 rfl rfl RZ4.out R1.out SN.out (Nat.le_of_lt sw) ?_))
    intro v8 w5 R5 G5 _
    have HB5 : Below wr.heap.size wr w5 := HBw.trans (grown_mono G5 (Nat.le_of_lt sw) (fun b hb => by cases hb; exact Nat.le_refl _))
    have R5 : Kept _ := ⟨row_cells R5⟩
    have RL : Kept _ := ⟨row_cells (KO.out.under HB5)⟩
    have HB6 := HB.trans (HB5.mono HB.size)
    clear G5 HB5 HBw HB R1 RZ4 KO
    go_wp2_with fail
    refine (rplus_any out ([0] ++ h1) _ _ _ RL.out R5.out DO.out (D1.out.cons (by decide)) (by have := KL.out; omega) (by have := L1.out; simp; omega)).mono ?_
    rintro e w6 ⟨r, u, rfl, Rr, Dr, Lr, Vr, hb6⟩
    have HB7 := HB6.trans (hb6.mono HB6.size)
    have Rr : Kept _ := ⟨Rr.mono HB6.size⟩
    have Lr : Kept (r.length ≤ nn + 7) := ⟨by have := KL.out; have := L1.out; simp at Lr; omega⟩
    have Vr : Kept (val r = val l * n) := ⟨by
      rw [Vr, val_zero, FV.out, V1.out, ENL.out, ENH.out, Nat.mul_left_comm, ← Nat.mul_add, Nat.mod_add_div]⟩
    have Dr : Kept _ := ⟨Dr⟩
    clear hb6 HB6 R5 RL
    go_wp2_with fail
    go_ret
    exact ⟨r, _, rfl, Rr.out, Dr.out, Lr.out, Vr.out, HB7⟩
end Go.Proofs.YtghinfdmkiaaiaaDoor.sh
