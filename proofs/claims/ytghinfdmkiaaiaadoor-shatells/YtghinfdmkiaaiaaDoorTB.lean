/-
  The reference's plus.
-/
import Derived.Test.YtghinfdmkiaaiaaDoorTA
namespace Go.Proofs.YtghinfdmkiaaiaaDoor.sh
open Go Go.RowKit
set_option linter.unusedVariables false
set_option linter.unusedSimpArgs false


set_option maxRecDepth 100000 in
set_option maxHeartbeats 2000000 in
theorem rplus_any (a b : List Nat) (va vb : Value) (w : World) (ha : IntsV .u64 va w a) (hb : IntsV .u64 vb w b) (da : Dig a) (db : Dig b) (la : a.length ≤ 100) (lb : b.length ≤ 100) :
    Calls Tryd.prog 32 #[va, vb] w fun e w' => ∃ l v, e = .returned v ∧ Row w.heap.size 30 .u64 l v w' ∧ Dig l ∧ l.length ≤ max a.length b.length + 1 ∧ val l = val a + val b ∧ Below w.heap.size w w' := by
  have KA : Kept _ := ⟨ha⟩
  have KB : Kept _ := ⟨hb⟩
  have DA : Kept _ := ⟨da⟩
  have DB : Kept _ := ⟨db⟩
  obtain ⟨pa, cpa, rfl, _, _⟩ := ha
  obtain ⟨pb, cpb, rfl, _, _⟩ := hb
  obtain ⟨na, hna⟩ : ∃ n, n = a.length := ⟨_, rfl⟩
  obtain ⟨nb, hnb⟩ : ∃ n, n = b.length := ⟨_, rfl⟩
  rw [← hna] at KA la
  rw [← hnb] at KB lb
  have EA : Kept _ := ⟨hna⟩
  have EB : Kept _ := ⟨hnb⟩
  rw [← hna, ← hnb]
  clear hna hnb da db
  go_enter Tryd.func32, Tryd.ntmps32
  go_wp2_with fail
  go_loopg [5, 6, 7] (max na nb + 1) (fun m s5 s6 s7 wr => ∃ (i c : Nat) (out : List Nat), i + m = max na nb + 1 ∧ s6 = .int .u64 (c : Int) ∧ s7 = .int .i64 (i : Int) ∧ Kept (Below w.heap.size w wr ∧ Row w.heap.size 30 .u64 out s5 wr ∧ Dig out ∧ out.length = i ∧ val out + c * 65536 ^ i = val (a.take i) + val (b.take i) ∧ c ≤ 1 ∧ (c = 0 ∨ i ≤ max na nb)))
  case atStart => exact ⟨0, 0, [], by omega, rfl, rfl, ⟨⟨Below.refl _ _, row_nil _ _ _ _, dig_nil, rfl, by simp [val], by omega, .inl rfl⟩⟩⟩
  case round =>
    obtain ⟨i, c, out, hik, rfl, rfl, KK⟩ := hrel
    obtain ⟨HB, RO, DO, KL, HV, c1, c0⟩ := KK.out
    have KO : Kept _ := ⟨RO⟩
    have DO : Kept _ := ⟨DO⟩
    have KL : Kept _ := ⟨KL⟩
    have HV : Kept _ := ⟨HV⟩
    clear KK RO
    have i0 : (0 : Int) ≤ (i : Int) := by omega
    by_cases hA : i < na
    case pos =>
      have hA' : (i : Int) < (na : Int) := by omega
      by_cases hB : i < nb
      case pos =>
        have hB' : (i : Int) < (nb : Int) := by omega
        obtain ⟨x, hx⟩ : ∃ x, a[i]? = some x := ⟨_, List.getElem?_eq_getElem (by have := EA.out; omega)⟩
        obtain ⟨Aa, rfl, hba, hca⟩ := (IntsV.under KA.out HB).cell hx
        have hx16 : x < 65536 := DA.out i x hx
        have VX := val_take a i x hx
        obtain ⟨y, hy⟩ : ∃ y, b[i]? = some y := ⟨_, List.getElem?_eq_getElem (by have := EB.out; omega)⟩
        obtain ⟨Ab, rfl, hbb, hcb⟩ := (IntsV.under KB.out HB).cell hy
        have hy16 : y < 65536 := DB.out i y hy
        have VY := val_take b i y hy
        obtain ⟨s1, hs1⟩ : ∃ s, s = c + x := ⟨_, rfl⟩
        obtain ⟨s, hs⟩ : ∃ s, s = s1 + y := ⟨_, rfl⟩
        have hst : Kept (s = c + x + y) := ⟨by omega⟩
        have s64 : s < 18446744073709551616 := by omega
        obtain ⟨dg, hdg⟩ : ∃ d, d = s % 65536 := ⟨_, rfl⟩
        obtain ⟨cq, hcq⟩ : ∃ d, d = s / 65536 := ⟨_, rfl⟩
        have hc1 : cq ≤ 1 := by omega
        have hd16 : dg < 65536 := by omega
        have VV : Kept (val (out ++ [dg]) + cq * 65536 ^ (i + 1) = val (a.take (i + 1)) + val (b.take (i + 1))) := ⟨by
          rw [VX, VY, val_snoc, KL.out, hdg, hcq, Nat.pow_succ, carry, show s * 65536 ^ i = c * 65536 ^ i + x * 65536 ^ i + y * 65536 ^ i from by rw [← Nat.add_mul, ← Nat.add_mul, ← hst.out]]
          have := HV.out
          omega⟩
        have CZ : Kept (cq = 0 ∨ i < max na nb) := ⟨by omega⟩
        have ED : Kept _ := ⟨hdg⟩
        have EQ : Kept _ := ⟨hcq⟩
        have SN : Kept (out.length + [dg].length ≤ 8796093022208) := ⟨by have := KL.out; simp; omega⟩
        have E1 : Kept _ := ⟨hs1⟩
        have E2 : Kept _ := ⟨hs⟩
        have s1l : s1 < 18446744073709551616 := by omega
        clear VX VY hdg hcq hx hba hy hbb hs1 hs
        go_wp2_with (first | ((with_reducible refine wv_elem (d := 32) ?hd ?hw 30 ag_u64 (.tmp 31) ?ho (Aa.add i) ?hx (.int .u64 (x : Int)) ?hg ?_); (case hd => rfl); (case hw => kernel_rfl); (case ho => rfl); (case hx => first | rfl | kernel_rfl); (case hg => exact hca); simp only [Act.put, List.setIfInBounds_toArray, List.set_cons_succ, List.set_cons_zero]) | ((with_reducible refine wv_elem (d := 42) ?hd ?hw 30 ag_u64 (.tmp 41) ?ho (Ab.add i) ?hx (.int .u64 (y : Int)) ?hg ?_); (case hd => rfl); (case hw => kernel_rfl); (case ho => rfl); (case hx => first | rfl | kernel_rfl); (case hg => exact hcb); simp only [Act.put, List.setIfInBounds_toArray, List.set_cons_succ, List.set_cons_zero]) | ((with_reducible refine wv_val (d := 33) ?hd ?hw (.int .u64 (s1 : Int)) ?hr ?_); (case hd => rfl); (case hw => kernel_rfl); (case hr => intro w; exact run_add64 rfl (by kernel_rfl) (by kernel_rfl) E1.out s1l w); simp only [Act.put, List.setIfInBounds_toArray, List.set_cons_succ, List.set_cons_zero]) | ((with_reducible refine wv_val (d := 43) ?hd ?hw (.int .u64 (s : Int)) ?hr ?_); (case hd => rfl); (case hw => kernel_rfl); (case hr => intro w; exact run_add64 rfl (by kernel_rfl) (by kernel_rfl) E2.out s64 w); simp only [Act.put, List.setIfInBounds_toArray, List.set_cons_succ, List.set_cons_zero]) | ((with_reducible refine wv_val (d := 46) ?hd ?hw (.int .u64 (dg : Int)) ?hr ?_); (case hd => rfl); (case hw => kernel_rfl); (case hr => intro w; exact run_rem64 rfl (by kernel_rfl) (by kernel_rfl) (by decide) s64 ED.out w); simp only [Act.put, List.setIfInBounds_toArray, List.set_cons_succ, List.set_cons_zero]) | (refine wl_app (by kernel_rfl) (.tmp 44) (.tmp 47) 51 30 .u64 8 rfl Tryd.underlying51 inf_u64 (by decide) (w.heap.size) (out) [dg] (u5) _ rfl rfl (KO.out.alloc _) (one_ints _ _) SN.out (by simp; have := HB.size; omega) ?_))
        intro v5 w3 R3 G3 _
        have HB3 : Below w.heap.size w w3 := (HB.alloc HB.size _).trans (grown_mono G3 (by simp; have := HB.size; omega) (fun b hb => (KO.out.range b hb).1))
        have R3 : Kept _ := ⟨R3⟩
        have DO3 : Kept (Dig (out ++ [dg])) := ⟨DO.out.snoc hd16⟩
        clear G3 HB KO DO
        go_wp2_with (first | ((with_reducible refine wv_val (d := 50) ?hd ?hw (.int .u64 (cq : Int)) ?hr ?_); (case hd => rfl); (case hw => kernel_rfl); (case hr => intro w; exact run_quo64 rfl (by kernel_rfl) (by kernel_rfl) (by decide) s64 EQ.out w); simp only [Act.put, List.setIfInBounds_toArray, List.set_cons_succ, List.set_cons_zero]))
        go_roundg (gk - 1)
        case measure => omega
        case rel => exact ⟨i + 1, cq, out ++ [dg], by omega, rfl, by rfl, ⟨⟨HB3, R3.out, DO3.out, by simp [KL.out], VV.out, hc1, by have := CZ.out; omega⟩⟩⟩

      case neg =>
        have hB' : ¬ (i : Int) < (nb : Int) := by omega
        obtain ⟨x, hx⟩ : ∃ x, a[i]? = some x := ⟨_, List.getElem?_eq_getElem (by have := EA.out; omega)⟩
        obtain ⟨Aa, rfl, hba, hca⟩ := (IntsV.under KA.out HB).cell hx
        have hx16 : x < 65536 := DA.out i x hx
        have VX := val_take a i x hx
        obtain ⟨y, hy0⟩ : ∃ y, y = 0 := ⟨_, rfl⟩
        have hy16 : y < 65536 := by omega
        have VY : val (b.take (i + 1)) = val (b.take i) + y * 65536 ^ i := by rw [val_take_all b i (by have := EB.out; omega), hy0]; omega
        obtain ⟨s, hs⟩ : ∃ s, s = c + x := ⟨_, rfl⟩
        have hst : Kept (s = c + x + y) := ⟨by omega⟩
        have s64 : s < 18446744073709551616 := by omega
        obtain ⟨dg, hdg⟩ : ∃ d, d = s % 65536 := ⟨_, rfl⟩
        obtain ⟨cq, hcq⟩ : ∃ d, d = s / 65536 := ⟨_, rfl⟩
        have hc1 : cq ≤ 1 := by omega
        have hd16 : dg < 65536 := by omega
        have VV : Kept (val (out ++ [dg]) + cq * 65536 ^ (i + 1) = val (a.take (i + 1)) + val (b.take (i + 1))) := ⟨by
          rw [VX, VY, val_snoc, KL.out, hdg, hcq, Nat.pow_succ, carry, show s * 65536 ^ i = c * 65536 ^ i + x * 65536 ^ i + y * 65536 ^ i from by rw [← Nat.add_mul, ← Nat.add_mul, ← hst.out]]
          have := HV.out
          omega⟩
        have CZ : Kept (cq = 0 ∨ i < max na nb) := ⟨by omega⟩
        have ED : Kept _ := ⟨hdg⟩
        have EQ : Kept _ := ⟨hcq⟩
        have SN : Kept (out.length + [dg].length ≤ 8796093022208) := ⟨by have := KL.out; simp; omega⟩
        have E2 : Kept _ := ⟨hs⟩
        clear VX VY hdg hcq hx hba hy0 hs
        go_wp2_with (first | ((with_reducible refine wv_elem (d := 32) ?hd ?hw 30 ag_u64 (.tmp 31) ?ho (Aa.add i) ?hx (.int .u64 (x : Int)) ?hg ?_); (case hd => rfl); (case hw => kernel_rfl); (case ho => rfl); (case hx => first | rfl | kernel_rfl); (case hg => exact hca); simp only [Act.put, List.setIfInBounds_toArray, List.set_cons_succ, List.set_cons_zero]) | ((with_reducible refine wv_val (d := 33) ?hd ?hw (.int .u64 (s : Int)) ?hr ?_); (case hd => rfl); (case hw => kernel_rfl); (case hr => intro w; exact run_add64 rfl (by kernel_rfl) (by kernel_rfl) E2.out s64 w); simp only [Act.put, List.setIfInBounds_toArray, List.set_cons_succ, List.set_cons_zero]) | ((with_reducible refine wv_val (d := 46) ?hd ?hw (.int .u64 (dg : Int)) ?hr ?_); (case hd => rfl); (case hw => kernel_rfl); (case hr => intro w; exact run_rem64 rfl (by kernel_rfl) (by kernel_rfl) (by decide) s64 ED.out w); simp only [Act.put, List.setIfInBounds_toArray, List.set_cons_succ, List.set_cons_zero]) | (refine wl_app (by kernel_rfl) (.tmp 44) (.tmp 47) 51 30 .u64 8 rfl Tryd.underlying51 inf_u64 (by decide) (w.heap.size) (out) [dg] (u5) _ rfl rfl (KO.out.alloc _) (one_ints _ _) SN.out (by simp; have := HB.size; omega) ?_))
        intro v5 w3 R3 G3 _
        have HB3 : Below w.heap.size w w3 := (HB.alloc HB.size _).trans (grown_mono G3 (by simp; have := HB.size; omega) (fun b hb => (KO.out.range b hb).1))
        have R3 : Kept _ := ⟨R3⟩
        have DO3 : Kept (Dig (out ++ [dg])) := ⟨DO.out.snoc hd16⟩
        clear G3 HB KO DO
        go_wp2_with (first | ((with_reducible refine wv_val (d := 50) ?hd ?hw (.int .u64 (cq : Int)) ?hr ?_); (case hd => rfl); (case hw => kernel_rfl); (case hr => intro w; exact run_quo64 rfl (by kernel_rfl) (by kernel_rfl) (by decide) s64 EQ.out w); simp only [Act.put, List.setIfInBounds_toArray, List.set_cons_succ, List.set_cons_zero]))
        go_roundg (gk - 1)
        case measure => omega
        case rel => exact ⟨i + 1, cq, out ++ [dg], by omega, rfl, by rfl, ⟨⟨HB3, R3.out, DO3.out, by simp [KL.out], VV.out, hc1, by have := CZ.out; omega⟩⟩⟩

    case neg =>
      have hA' : ¬ (i : Int) < (na : Int) := by omega
      by_cases hB : i < nb
      case pos =>
        have hB' : (i : Int) < (nb : Int) := by omega
        obtain ⟨x, hx0⟩ : ∃ x, x = 0 := ⟨_, rfl⟩
        have hx16 : x < 65536 := by omega
        have VX : val (a.take (i + 1)) = val (a.take i) + x * 65536 ^ i := by rw [val_take_all a i (by have := EA.out; omega), hx0]; omega
        obtain ⟨y, hy⟩ : ∃ y, b[i]? = some y := ⟨_, List.getElem?_eq_getElem (by have := EB.out; omega)⟩
        obtain ⟨Ab, rfl, hbb, hcb⟩ := (IntsV.under KB.out HB).cell hy
        have hy16 : y < 65536 := DB.out i y hy
        have VY := val_take b i y hy
        obtain ⟨s, hs⟩ : ∃ s, s = c + y := ⟨_, rfl⟩
        have hst : Kept (s = c + x + y) := ⟨by omega⟩
        have s64 : s < 18446744073709551616 := by omega
        obtain ⟨dg, hdg⟩ : ∃ d, d = s % 65536 := ⟨_, rfl⟩
        obtain ⟨cq, hcq⟩ : ∃ d, d = s / 65536 := ⟨_, rfl⟩
        have hc1 : cq ≤ 1 := by omega
        have hd16 : dg < 65536 := by omega
        have VV : Kept (val (out ++ [dg]) + cq * 65536 ^ (i + 1) = val (a.take (i + 1)) + val (b.take (i + 1))) := ⟨by
          rw [VX, VY, val_snoc, KL.out, hdg, hcq, Nat.pow_succ, carry, show s * 65536 ^ i = c * 65536 ^ i + x * 65536 ^ i + y * 65536 ^ i from by rw [← Nat.add_mul, ← Nat.add_mul, ← hst.out]]
          have := HV.out
          omega⟩
        have CZ : Kept (cq = 0 ∨ i < max na nb) := ⟨by omega⟩
        have ED : Kept _ := ⟨hdg⟩
        have EQ : Kept _ := ⟨hcq⟩
        have SN : Kept (out.length + [dg].length ≤ 8796093022208) := ⟨by have := KL.out; simp; omega⟩
        have E2 : Kept _ := ⟨hs⟩
        clear VX VY hdg hcq hx0 hy hbb hs
        go_wp2_with (first | ((with_reducible refine wv_elem (d := 42) ?hd ?hw 30 ag_u64 (.tmp 41) ?ho (Ab.add i) ?hx (.int .u64 (y : Int)) ?hg ?_); (case hd => rfl); (case hw => kernel_rfl); (case ho => rfl); (case hx => first | rfl | kernel_rfl); (case hg => exact hcb); simp only [Act.put, List.setIfInBounds_toArray, List.set_cons_succ, List.set_cons_zero]) | ((with_reducible refine wv_val (d := 43) ?hd ?hw (.int .u64 (s : Int)) ?hr ?_); (case hd => rfl); (case hw => kernel_rfl); (case hr => intro w; exact run_add64 rfl (by kernel_rfl) (by kernel_rfl) E2.out s64 w); simp only [Act.put, List.setIfInBounds_toArray, List.set_cons_succ, List.set_cons_zero]) | ((with_reducible refine wv_val (d := 46) ?hd ?hw (.int .u64 (dg : Int)) ?hr ?_); (case hd => rfl); (case hw => kernel_rfl); (case hr => intro w; exact run_rem64 rfl (by kernel_rfl) (by kernel_rfl) (by decide) s64 ED.out w); simp only [Act.put, List.setIfInBounds_toArray, List.set_cons_succ, List.set_cons_zero]) | (refine wl_app (by kernel_rfl) (.tmp 44) (.tmp 47) 51 30 .u64 8 rfl Tryd.underlying51 inf_u64 (by decide) (w.heap.size) (out) [dg] (u5) _ rfl rfl (KO.out.alloc _) (one_ints _ _) SN.out (by simp; have := HB.size; omega) ?_))
        intro v5 w3 R3 G3 _
        have HB3 : Below w.heap.size w w3 := (HB.alloc HB.size _).trans (grown_mono G3 (by simp; have := HB.size; omega) (fun b hb => (KO.out.range b hb).1))
        have R3 : Kept _ := ⟨R3⟩
        have DO3 : Kept (Dig (out ++ [dg])) := ⟨DO.out.snoc hd16⟩
        clear G3 HB KO DO
        go_wp2_with (first | ((with_reducible refine wv_val (d := 50) ?hd ?hw (.int .u64 (cq : Int)) ?hr ?_); (case hd => rfl); (case hw => kernel_rfl); (case hr => intro w; exact run_quo64 rfl (by kernel_rfl) (by kernel_rfl) (by decide) s64 EQ.out w); simp only [Act.put, List.setIfInBounds_toArray, List.set_cons_succ, List.set_cons_zero]))
        go_roundg (gk - 1)
        case measure => omega
        case rel => exact ⟨i + 1, cq, out ++ [dg], by omega, rfl, by rfl, ⟨⟨HB3, R3.out, DO3.out, by simp [KL.out], VV.out, hc1, by have := CZ.out; omega⟩⟩⟩

      case neg =>
        have hB' : ¬ (i : Int) < (nb : Int) := by omega
        by_cases hc : c = 0
        case pos =>
          subst hc
          have hv : Kept (val out = val a + val b) := ⟨by have := HV.out; rw [List.take_of_length_le (by have := EA.out; omega), List.take_of_length_le (by have := EB.out; omega)] at this; omega⟩
          have hl : Kept (out.length ≤ max na nb + 1) := ⟨by have := KL.out; omega⟩
          go_wp2_with fail
          go_ret
          exact ⟨out, _, rfl, KO.out, DO.out, hl.out, hv.out, HB⟩
        case neg =>
          have hc' : (0 : Int) < (c : Int) := by omega
          obtain ⟨x, hx0⟩ : ∃ x, x = 0 := ⟨_, rfl⟩
          have hx16 : x < 65536 := by omega
          have VX : val (a.take (i + 1)) = val (a.take i) + x * 65536 ^ i := by rw [val_take_all a i (by have := EA.out; omega), hx0]; omega
          obtain ⟨y, hy0⟩ : ∃ y, y = 0 := ⟨_, rfl⟩
          have hy16 : y < 65536 := by omega
          have VY : val (b.take (i + 1)) = val (b.take i) + y * 65536 ^ i := by rw [val_take_all b i (by have := EB.out; omega), hy0]; omega
          obtain ⟨s, hs⟩ : ∃ s, s = c := ⟨_, rfl⟩
          subst hs
          have hst : Kept (s = s + x + y) := ⟨by omega⟩
          have s64 : s < 18446744073709551616 := by omega
          obtain ⟨dg, hdg⟩ : ∃ d, d = s % 65536 := ⟨_, rfl⟩
          obtain ⟨cq, hcq⟩ : ∃ d, d = s / 65536 := ⟨_, rfl⟩
          have hc1 : cq ≤ 1 := by omega
          have hd16 : dg < 65536 := by omega
          have VV : Kept (val (out ++ [dg]) + cq * 65536 ^ (i + 1) = val (a.take (i + 1)) + val (b.take (i + 1))) := ⟨by
            rw [VX, VY, val_snoc, KL.out, hdg, hcq, Nat.pow_succ, carry, show s * 65536 ^ i = s * 65536 ^ i + x * 65536 ^ i + y * 65536 ^ i from by rw [← Nat.add_mul, ← Nat.add_mul, ← hst.out]]
            have := HV.out
            omega⟩
          have CZ : Kept (cq = 0 ∨ i < max na nb) := ⟨by omega⟩
          have ED : Kept _ := ⟨hdg⟩
          have EQ : Kept _ := ⟨hcq⟩
          have SN : Kept (out.length + [dg].length ≤ 8796093022208) := ⟨by have := KL.out; simp; omega⟩
          clear VX VY hdg hcq hx0 hy0
          go_wp2_with (first | ((with_reducible refine wv_val (d := 46) ?hd ?hw (.int .u64 (dg : Int)) ?hr ?_); (case hd => rfl); (case hw => kernel_rfl); (case hr => intro w; exact run_rem64 rfl (by kernel_rfl) (by kernel_rfl) (by decide) s64 ED.out w); simp only [Act.put, List.setIfInBounds_toArray, List.set_cons_succ, List.set_cons_zero]) | (refine wl_app (by kernel_rfl) (.tmp 44) (.tmp 47) 51 30 .u64 8 rfl Tryd.underlying51 inf_u64 (by decide) (w.heap.size) (out) [dg] (u5) _ rfl rfl (KO.out.alloc _) (one_ints _ _) SN.out (by simp; have := HB.size; omega) ?_))
          intro v5 w3 R3 G3 _
          have HB3 : Below w.heap.size w w3 := (HB.alloc HB.size _).trans (grown_mono G3 (by simp; have := HB.size; omega) (fun b hb => (KO.out.range b hb).1))
          have R3 : Kept _ := ⟨R3⟩
          have DO3 : Kept (Dig (out ++ [dg])) := ⟨DO.out.snoc hd16⟩
          clear G3 HB KO DO
          go_wp2_with (first | ((with_reducible refine wv_val (d := 50) ?hd ?hw (.int .u64 (cq : Int)) ?hr ?_); (case hd => rfl); (case hw => kernel_rfl); (case hr => intro w; exact run_quo64 rfl (by kernel_rfl) (by kernel_rfl) (by decide) s64 EQ.out w); simp only [Act.put, List.setIfInBounds_toArray, List.set_cons_succ, List.set_cons_zero]))
          go_roundg (gk - 1)
          case measure => omega
          case rel => exact ⟨i + 1, cq, out ++ [dg], by omega, rfl, by rfl, ⟨⟨HB3, R3.out, DO3.out, by simp [KL.out], VV.out, hc1, by have := CZ.out; omega⟩⟩⟩

end Go.Proofs.YtghinfdmkiaaiaaDoor.sh
