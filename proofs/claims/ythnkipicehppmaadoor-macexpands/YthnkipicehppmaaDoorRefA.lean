/-
  Joined texts: TA TB TC.
-/
import Derived.Test.YthnkipicehppmaaDoorUA
/-
  The reference of layer 3: numbers as digits of base 65536; single operations on uint64.
-/
namespace Go.Proofs.YthnkipicehppmaaDoor.sh
open Go Go.RowKit
set_option linter.unusedVariables false
set_option linter.unusedSimpArgs false

/-- The number of digits of base 65536. -/
def val : List Nat → Nat
  | [] => 0
  | x :: r => x + 65536 * val r
theorem val_append : ∀ (l m : List Nat), val (l ++ m) = val l + 65536 ^ l.length * val m
  | [], m => by simp [val]
  | x :: r, m => by
    rw [List.cons_append, val, val_append r m, val, List.length_cons, Nat.pow_succ, Nat.mul_add, ← Nat.mul_assoc, Nat.mul_comm 65536 (65536 ^ r.length)]
    omega
theorem val_one (x : Nat) : val [x] = x := by simp [val]
theorem val_snoc (l : List Nat) (x : Nat) : val (l ++ [x]) = val l + x * 65536 ^ l.length := by rw [val_append, val_one, Nat.mul_comm]
/-- All below 65536. -/
def Dig (l : List Nat) : Prop := ∀ (i x : Nat), l[i]? = some x → x < 65536
theorem Dig.snoc {l : List Nat} (h : Dig l) {x : Nat} (hx : x < 65536) : Dig (l ++ [x]) := fun i y hy => by
  rw [List.getElem?_append] at hy
  split at hy
  · exact h i y hy
  · have := List.mem_of_getElem? hy
    simp at this
    omega
theorem Dig.cons {l : List Nat} (h : Dig l) {x : Nat} (hx : x < 65536) : Dig (x :: l) := fun i y hy => by
  cases i with
  | zero => simp at hy; omega
  | succ i => exact h i y (by simpa using hy)
theorem dig_nil : Dig [] := fun i x hx => by simp at hx
theorem val_take (l : List Nat) (i x : Nat) (h : l[i]? = some x) : val (l.take (i + 1)) = val (l.take i) + x * 65536 ^ i := by
  have hi : i < l.length := (List.getElem?_eq_some_iff.1 h).1
  rw [List.take_add_one, h, Option.toList_some, val_snoc, List.length_take, Nat.min_eq_left (Nat.le_of_lt hi)]
theorem val_take_all (l : List Nat) (i : Nat) (h : l.length ≤ i) : val (l.take (i + 1)) = val (l.take i) := by rw [List.take_of_length_le h, List.take_of_length_le (by omega)]
theorem carry (V s B : Nat) : V + s % 65536 * B + s / 65536 * (B * 65536) = V + s * B := by
  have h := Nat.mod_add_div s 65536
  have h2 : s * B = s % 65536 * B + 65536 * (s / 65536) * B := by rw [← Nat.add_mul, h]
  rw [h2, Nat.mul_comm B 65536, ← Nat.mul_assoc, Nat.mul_comm (s / 65536) 65536]
  omega

section
variable {o : Oper} {a : Act} {x y : Operand}
theorem run_add64 {m n z : Nat} (ho : o.op = .binOp .add 51 x y 51) (hx : a.eval x = .int .u64 (m : Int)) (hy : a.eval y = .int .u64 (n : Int)) (hz : z = m + n) (h : z < 18446744073709551616) (w : World) : (execOp a.eval o).run Tryd.prog w = .ok (.value (.int .u64 (z : Int))) w := by
  unfold execOp
  simp only [ho, hx, hy]
  simp [go_sem, IntKind.wrap_u64]
  omega
theorem run_mul64 {m n z : Nat} (ho : o.op = .binOp .mul 51 x y 51) (hx : a.eval x = .int .u64 (m : Int)) (hy : a.eval y = .int .u64 (n : Int)) (hz : z = m * n) (h : z < 18446744073709551616) (w : World) : (execOp a.eval o).run Tryd.prog w = .ok (.value (.int .u64 (z : Int))) w := by
  have e : (m : Int) * (n : Int) = (z : Int) := by rw [hz, Int.natCast_mul]
  unfold execOp
  simp only [ho, hx, hy]
  simp [go_sem, IntKind.wrap_u64, e]
  omega
theorem run_rem64 {m n z : Nat} (ho : o.op = .binOp .rem 51 x y 51) (hx : a.eval x = .int .u64 (m : Int)) (hy : a.eval y = .int .u64 (n : Int)) (hn : 0 < n) (hm : m < 18446744073709551616) (hz : z = m % n) (w : World) : (execOp a.eval o).run Tryd.prog w = .ok (.value (.int .u64 (z : Int))) w := by
  have h0 : ¬ ((n : Int) = 0) := by omega
  have hle : m % n ≤ m := Nat.mod_le _ _
  have e : (m : Int) % (n : Int) = (z : Int) := by rw [hz, Int.natCast_emod]
  have e2 : (m : Int).tmod (n : Int) = (z : Int) := by rw [Int.tmod_eq_emod_of_nonneg (by omega)]; exact e
  unfold execOp
  simp only [ho, hx, hy]
  simp [go_sem, IntKind.wrap_u64, e, e2, h0]
  omega
theorem run_quo64 {m n z : Nat} (ho : o.op = .binOp .quo 51 x y 51) (hx : a.eval x = .int .u64 (m : Int)) (hy : a.eval y = .int .u64 (n : Int)) (hn : 0 < n) (hm : m < 18446744073709551616) (hz : z = m / n) (w : World) : (execOp a.eval o).run Tryd.prog w = .ok (.value (.int .u64 (z : Int))) w := by
  have h0 : ¬ ((n : Int) = 0) := by omega
  have hle : m / n ≤ m := Nat.div_le_self _ _
  have e : (m : Int) / (n : Int) = (z : Int) := by rw [hz, Int.natCast_ediv]
  have e2 : (m : Int).tdiv (n : Int) = (z : Int) := by rw [Int.tdiv_eq_ediv_of_nonneg (by omega)]; exact e
  unfold execOp
  simp only [ho, hx, hy]
  simp [go_sem, IntKind.wrap_u64, e, e2, h0]
  have hz' : z ≤ m := by rw [hz]; exact hle
  rw [if_neg (show ¬ n = 0 by omega), Int.emod_eq_of_lt (by omega) (by omega)]
end
theorem one_ints {k : IntKind} {e : TypeId} (w : World) (x : Nat) : IntsV k (.slice (some ⟨w.heap.size, 0, none⟩) 1 1) (w.alloc (.cells #[.int k (x : Int)] e)) [x] :=
  ⟨_, _, rfl, Nat.le_refl _, fun _ => ⟨_, rfl, by simp, fun j y hy => by
    rcases j with _ | j
    · simp at hy
      subst hy
      rw [addr_add]
      exact cell_row (heap_new w _) rfl
    · simp at hy⟩⟩
/-- The frame behind an append of one: onto a slice that the call owns. -/
theorem IntsV.cell {k : IntKind} {p : Option Addr} {l c : Nat} {w : World} {xs : List Nat} (h : IntsV k (.slice p l c) w xs) {i x : Nat} (hx : xs[i]? = some x) : ∃ A, p = some A ∧ A.block < w.heap.size ∧ w.cell? (A.add i) = some (.int k (x : Int)) := by
  obtain ⟨p', c', e, _, h3⟩ := h
  cases e
  obtain ⟨A, rfl, h4, h5⟩ := h3 (by intro e; rw [e] at hx; simp at hx)
  exact ⟨A, rfl, h4, h5 i x hx⟩
theorem IntsV.under {k : IntKind} {v : Value} {w w' : World} {l : List Nat} (h : IntsV k v w l) (hb : Below w.heap.size w w') : IntsV k v w' l := by
  obtain ⟨p, c, rfl, h2, h3⟩ := h
  refine ⟨p, c, rfl, h2, fun hne => ?_⟩
  obtain ⟨A, rfl, e2, e3⟩ := h3 hne
  exact ⟨A, rfl, Nat.lt_of_lt_of_le e2 hb.size, fun j x hx => by rw [hb.cell (by rw [add_block]; exact e2)]; exact e3 j x hx⟩
theorem Row.dig {base : Nat} {e : TypeId} {k : IntKind} {l : List Nat} {v : Value} {w : World} (h : Row base e k l v w) : ∃ p c, v = .slice p l.length c := by
  rcases h.2 with ⟨rfl, h0⟩ | ⟨g, cap, cur, rfl, _⟩
  · exact ⟨none, 0, by rw [h0]⟩
  · exact ⟨_, _, rfl⟩
end Go.Proofs.YthnkipicehppmaaDoor.sh
/-
  The reference's plus.
-/
namespace Go.Proofs.YthnkipicehppmaaDoor.sh
open Go Go.RowKit
set_option linter.unusedVariables false
set_option linter.unusedSimpArgs false


set_option maxRecDepth 100000 in
set_option maxHeartbeats 2000000 in
theorem rplus_any (a b : List Nat) (va vb : Value) (w : World) (ha : IntsV .u64 va w a) (hb : IntsV .u64 vb w b) (da : Dig a) (db : Dig b) (la : a.length ≤ 100) (lb : b.length ≤ 100) :
    Calls Tryd.prog 51 #[va, vb] w fun e w' => ∃ l v, e = .returned v ∧ Row w.heap.size 51 .u64 l v w' ∧ Dig l ∧ l.length ≤ max a.length b.length + 1 ∧ val l = val a + val b ∧ Below w.heap.size w w' := by
  have KA : Kept _ := ⟨ha⟩
  have KB : Kept _ := ⟨hb⟩
  have DA : Kept _ := ⟨da⟩
  have DB : Kept _ := ⟨db⟩
  obtain ⟨pa, cpa, rfl, _, _⟩ := ha
  obtain ⟨pb, cpb, rfl, _, _⟩ := hb
  obtain ⟨na, hna⟩ : ∃ n, n = a.length := ⟨_, rfl⟩
  obtain ⟨nb, hnb⟩ : ∃ n, n = b.length := ⟨_, rfl⟩
  rw [← hna] at KA la
  rw [← hnb] at KB lb
  have EA : Kept _ := ⟨hna⟩
  have EB : Kept _ := ⟨hnb⟩
  rw [← hna, ← hnb]
  clear hna hnb da db
  go_enter Tryd.func51, Tryd.ntmps51
  go_wp2_with fail
  go_loopg [5, 6, 7] (max na nb + 1) (fun m s5 s6 s7 wr => ∃ (i c : Nat) (out : List Nat), i + m = max na nb + 1 ∧ s6 = .int .u64 (c : Int) ∧ s7 = .int .i64 (i : Int) ∧ Kept (Below w.heap.size w wr ∧ Row w.heap.size 51 .u64 out s5 wr ∧ Dig out ∧ out.length = i ∧ val out + c * 65536 ^ i = val (a.take i) + val (b.take i) ∧ c ≤ 1 ∧ (c = 0 ∨ i ≤ max na nb)))
  case atStart => exact ⟨0, 0, [], by omega, rfl, rfl, ⟨⟨Below.refl _ _, row_nil _ _ _ _, dig_nil, rfl, by simp [val], by omega, .inl rfl⟩⟩⟩
  case round =>
    obtain ⟨i, c, out, hik, rfl, rfl, KK⟩ := hrel
    obtain ⟨HB, RO, DO, KL, HV, c1, c0⟩ := KK.out
    have KO : Kept _ := ⟨RO⟩
    have DO : Kept _ := ⟨DO⟩
    have KL : Kept _ := ⟨KL⟩
    have HV : Kept _ := ⟨HV⟩
    clear KK RO
    have i0 : (0 : Int) ≤ (i : Int) := by omega
    by_cases hA : i < na
    case pos =>
      have hA' : (i : Int) < (na : Int) := by omega
      by_cases hB : i < nb
      case pos =>
        have hB' : (i : Int) < (nb : Int) := by omega
        obtain ⟨x, hx⟩ : ∃ x, a[i]? = some x := ⟨_, List.getElem?_eq_getElem (by have := EA.out; omega)⟩
        obtain ⟨Aa, rfl, hba, hca⟩ := (IntsV.under KA.out HB).cell hx
        have hx16 : x < 65536 := DA.out i x hx
        have VX := val_take a i x hx
        obtain ⟨y, hy⟩ : ∃ y, b[i]? = some y := ⟨_, List.getElem?_eq_getElem (by have := EB.out; omega)⟩
        obtain ⟨Ab, rfl, hbb, hcb⟩ := (IntsV.under KB.out HB).cell hy
        have hy16 : y < 65536 := DB.out i y hy
        have VY := val_take b i y hy
        obtain ⟨s1, hs1⟩ : ∃ s, s = c + x := ⟨_, rfl⟩
        obtain ⟨s, hs⟩ : ∃ s, s = s1 + y := ⟨_, rfl⟩
        have hst : Kept (s = c + x + y) := ⟨by omega⟩
        have s64 : s < 18446744073709551616 := by omega
        obtain ⟨dg, hdg⟩ : ∃ d, d = s % 65536 := ⟨_, rfl⟩
        obtain ⟨cq, hcq⟩ : ∃ d, d = s / 65536 := ⟨_, rfl⟩
        have hc1 : cq ≤ 1 := by omega
        have hd16 : dg < 65536 := by omega
        have VV : Kept (val (out ++ [dg]) + cq * 65536 ^ (i + 1) = val (a.take (i + 1)) + val (b.take (i + 1))) := ⟨by
          rw [VX, VY, val_snoc, KL.out, hdg, hcq, Nat.pow_succ, carry, show s * 65536 ^ i = c * 65536 ^ i + x * 65536 ^ i + y * 65536 ^ i from by rw [← Nat.add_mul, ← Nat.add_mul, ← hst.out]]
          have := HV.out
          omega⟩
        have CZ : Kept (cq = 0 ∨ i < max na nb) := ⟨by omega⟩
        have ED : Kept _ := ⟨hdg⟩
        have EQ : Kept _ := ⟨hcq⟩
        have SN : Kept (out.length + [dg].length ≤ 8796093022208) := ⟨by have := KL.out; simp; omega⟩
        have E1 : Kept _ := ⟨hs1⟩
        have E2 : Kept _ := ⟨hs⟩
        have s1l : s1 < 18446744073709551616 := by omega
        clear VX VY hdg hcq hx hba hy hbb hs1 hs
        go_wp2_with (first | ((with_reducible refine wv_elem (d := 32) ?hd ?hw 51 ag_u64 (.tmp 31) ?ho (Aa.add i) ?hx (.int .u64 (x : Int)) ?hg ?_); (case hd => rfl); (case hw => kernel_rfl); (case ho => rfl); (case hx => first | rfl | kernel_rfl); (case hg => exact hca); simp only [Act.put, List.setIfInBounds_toArray, List.set_cons_succ, List.set_cons_zero]) | ((with_reducible refine wv_elem (d := 42) ?hd ?hw 51 ag_u64 (.tmp 41) ?ho (Ab.add i) ?hx (.int .u64 (y : Int)) ?hg ?_); (case hd => rfl); (case hw => kernel_rfl); (case ho => rfl); (case hx => first | rfl | kernel_rfl); (case hg => exact hcb); simp only [Act.put, List.setIfInBounds_toArray, List.set_cons_succ, List.set_cons_zero]) | ((with_reducible refine wv_val (d := 33) ?hd ?hw (.int .u64 (s1 : Int)) ?hr ?_); (case hd => rfl); (case hw => kernel_rfl); (case hr => intro w; exact run_add64 rfl (by kernel_rfl) (by kernel_rfl) E1.out s1l w); simp only [Act.put, List.setIfInBounds_toArray, List.set_cons_succ, List.set_cons_zero]) | ((with_reducible refine wv_val (d := 43) ?hd ?hw (.int .u64 (s : Int)) ?hr ?_); (case hd => rfl); (case hw => kernel_rfl); (case hr => intro w; exact run_add64 rfl (by kernel_rfl) (by kernel_rfl) E2.out s64 w); simp only [Act.put, List.setIfInBounds_toArray, List.set_cons_succ, List.set_cons_zero]) | ((with_reducible refine wv_val (d := 46) ?hd ?hw (.int .u64 (dg : Int)) ?hr ?_); (case hd => rfl); (case hw => kernel_rfl); (case hr => intro w; exact run_rem64 rfl (by kernel_rfl) (by kernel_rfl) (by decide) s64 ED.out w); simp only [Act.put, List.setIfInBounds_toArray, List.set_cons_succ, List.set_cons_zero]) | (refine wl_app (by kernel_rfl) (.tmp 44) (.tmp 47) 76 51 .u64 8 rfl Tryd.underlying76 inf_u64 (by decide) (w.heap.size) (out) [dg] (u5) _ rfl rfl (KO.out.alloc _) (one_ints _ _) SN.out (by simp; have := HB.size; omega) ?_))
        intro v5 w3 R3 G3 _
        have HB3 : Below w.heap.size w w3 := (HB.alloc HB.size _).trans (grown_mono G3 (by simp; have := HB.size; omega) (fun b hb => (KO.out.range b hb).1))
        have R3 : Kept _ := ⟨R3⟩
        have DO3 : Kept (Dig (out ++ [dg])) := ⟨DO.out.snoc hd16⟩
        clear G3 HB KO DO
        go_wp2_with (first | ((with_reducible refine wv_val (d := 50) ?hd ?hw (.int .u64 (cq : Int)) ?hr ?_); (case hd => rfl); (case hw => kernel_rfl); (case hr => intro w; exact run_quo64 rfl (by kernel_rfl) (by kernel_rfl) (by decide) s64 EQ.out w); simp only [Act.put, List.setIfInBounds_toArray, List.set_cons_succ, List.set_cons_zero]))
        go_roundg (gk - 1)
        case measure => omega
        case rel => exact ⟨i + 1, cq, out ++ [dg], by omega, rfl, by rfl, ⟨⟨HB3, R3.out, DO3.out, by simp [KL.out], VV.out, hc1, by have := CZ.out; omega⟩⟩⟩

      case neg =>
        have hB' : ¬ (i : Int) < (nb : Int) := by omega
        obtain ⟨x, hx⟩ : ∃ x, a[i]? = some x := ⟨_, List.getElem?_eq_getElem (by have := EA.out; omega)⟩
        obtain ⟨Aa, rfl, hba, hca⟩ := (IntsV.under KA.out HB).cell hx
        have hx16 : x < 65536 := DA.out i x hx
        have VX := val_take a i x hx
        obtain ⟨y, hy0⟩ : ∃ y, y = 0 := ⟨_, rfl⟩
        have hy16 : y < 65536 := by omega
        have VY : val (b.take (i + 1)) = val (b.take i) + y * 65536 ^ i := by rw [val_take_all b i (by have := EB.out; omega), hy0]; omega
        obtain ⟨s, hs⟩ : ∃ s, s = c + x := ⟨_, rfl⟩
        have hst : Kept (s = c + x + y) := ⟨by omega⟩
        have s64 : s < 18446744073709551616 := by omega
        obtain ⟨dg, hdg⟩ : ∃ d, d = s % 65536 := ⟨_, rfl⟩
        obtain ⟨cq, hcq⟩ : ∃ d, d = s / 65536 := ⟨_, rfl⟩
        have hc1 : cq ≤ 1 := by omega
        have hd16 : dg < 65536 := by omega
        have VV : Kept (val (out ++ [dg]) + cq * 65536 ^ (i + 1) = val (a.take (i + 1)) + val (b.take (i + 1))) := ⟨by
          rw [VX, VY, val_snoc, KL.out, hdg, hcq, Nat.pow_succ, carry, show s * 65536 ^ i = c * 65536 ^ i + x * 65536 ^ i + y * 65536 ^ i from by rw [← Nat.add_mul, ← Nat.add_mul, ← hst.out]]
          have := HV.out
          omega⟩
        have CZ : Kept (cq = 0 ∨ i < max na nb) := ⟨by omega⟩
        have ED : Kept _ := ⟨hdg⟩
        have EQ : Kept _ := ⟨hcq⟩
        have SN : Kept (out.length + [dg].length ≤ 8796093022208) := ⟨by have := KL.out; simp; omega⟩
        have E2 : Kept _ := ⟨hs⟩
        clear VX VY hdg hcq hx hba hy0 hs
        go_wp2_with (first | ((with_reducible refine wv_elem (d := 32) ?hd ?hw 51 ag_u64 (.tmp 31) ?ho (Aa.add i) ?hx (.int .u64 (x : Int)) ?hg ?_); (case hd => rfl); (case hw => kernel_rfl); (case ho => rfl); (case hx => first | rfl | kernel_rfl); (case hg => exact hca); simp only [Act.put, List.setIfInBounds_toArray, List.set_cons_succ, List.set_cons_zero]) | ((with_reducible refine wv_val (d := 33) ?hd ?hw (.int .u64 (s : Int)) ?hr ?_); (case hd => rfl); (case hw => kernel_rfl); (case hr => intro w; exact run_add64 rfl (by kernel_rfl) (by kernel_rfl) E2.out s64 w); simp only [Act.put, List.setIfInBounds_toArray, List.set_cons_succ, List.set_cons_zero]) | ((with_reducible refine wv_val (d := 46) ?hd ?hw (.int .u64 (dg : Int)) ?hr ?_); (case hd => rfl); (case hw => kernel_rfl); (case hr => intro w; exact run_rem64 rfl (by kernel_rfl) (by kernel_rfl) (by decide) s64 ED.out w); simp only [Act.put, List.setIfInBounds_toArray, List.set_cons_succ, List.set_cons_zero]) | (refine wl_app (by kernel_rfl) (.tmp 44) (.tmp 47) 76 51 .u64 8 rfl Tryd.underlying76 inf_u64 (by decide) (w.heap.size) (out) [dg] (u5) _ rfl rfl (KO.out.alloc _) (one_ints _ _) SN.out (by simp; have := HB.size; omega) ?_))
        intro v5 w3 R3 G3 _
        have HB3 : Below w.heap.size w w3 := (HB.alloc HB.size _).trans (grown_mono G3 (by simp; have := HB.size; omega) (fun b hb => (KO.out.range b hb).1))
        have R3 : Kept _ := ⟨R3⟩
        have DO3 : Kept (Dig (out ++ [dg])) := ⟨DO.out.snoc hd16⟩
        clear G3 HB KO DO
        go_wp2_with (first | ((with_reducible refine wv_val (d := 50) ?hd ?hw (.int .u64 (cq : Int)) ?hr ?_); (case hd => rfl); (case hw => kernel_rfl); (case hr => intro w; exact run_quo64 rfl (by kernel_rfl) (by kernel_rfl) (by decide) s64 EQ.out w); simp only [Act.put, List.setIfInBounds_toArray, List.set_cons_succ, List.set_cons_zero]))
        go_roundg (gk - 1)
        case measure => omega
        case rel => exact ⟨i + 1, cq, out ++ [dg], by omega, rfl, by rfl, ⟨⟨HB3, R3.out, DO3.out, by simp [KL.out], VV.out, hc1, by have := CZ.out; omega⟩⟩⟩

    case neg =>
      have hA' : ¬ (i : Int) < (na : Int) := by omega
      by_cases hB : i < nb
      case pos =>
        have hB' : (i : Int) < (nb : Int) := by omega
        obtain ⟨x, hx0⟩ : ∃ x, x = 0 := ⟨_, rfl⟩
        have hx16 : x < 65536 := by omega
        have VX : val (a.take (i + 1)) = val (a.take i) + x * 65536 ^ i := by rw [val_take_all a i (by have := EA.out; omega), hx0]; omega
        obtain ⟨y, hy⟩ : ∃ y, b[i]? = some y := ⟨_, List.getElem?_eq_getElem (by have := EB.out; omega)⟩
        obtain ⟨Ab, rfl, hbb, hcb⟩ := (IntsV.under KB.out HB).cell hy
        have hy16 : y < 65536 := DB.out i y hy
        have VY := val_take b i y hy
        obtain ⟨s, hs⟩ : ∃ s, s = c + y := ⟨_, rfl⟩
        have hst : Kept (s = c + x + y) := ⟨by omega⟩
        have s64 : s < 18446744073709551616 := by omega
        obtain ⟨dg, hdg⟩ : ∃ d, d = s % 65536 := ⟨_, rfl⟩
        obtain ⟨cq, hcq⟩ : ∃ d, d = s / 65536 := ⟨_, rfl⟩
        have hc1 : cq ≤ 1 := by omega
        have hd16 : dg < 65536 := by omega
        have VV : Kept (val (out ++ [dg]) + cq * 65536 ^ (i + 1) = val (a.take (i + 1)) + val (b.take (i + 1))) := ⟨by
          rw [VX, VY, val_snoc, KL.out, hdg, hcq, Nat.pow_succ, carry, show s * 65536 ^ i = c * 65536 ^ i + x * 65536 ^ i + y * 65536 ^ i from by rw [← Nat.add_mul, ← Nat.add_mul, ← hst.out]]
          have := HV.out
          omega⟩
        have CZ : Kept (cq = 0 ∨ i < max na nb) := ⟨by omega⟩
        have ED : Kept _ := ⟨hdg⟩
        have EQ : Kept _ := ⟨hcq⟩
        have SN : Kept (out.length + [dg].length ≤ 8796093022208) := ⟨by have := KL.out; simp; omega⟩
        have E2 : Kept _ := ⟨hs⟩
        clear VX VY hdg hcq hx0 hy hbb hs
        go_wp2_with (first | ((with_reducible refine wv_elem (d := 42) ?hd ?hw 51 ag_u64 (.tmp 41) ?ho (Ab.add i) ?hx (.int .u64 (y : Int)) ?hg ?_); (case hd => rfl); (case hw => kernel_rfl); (case ho => rfl); (case hx => first | rfl | kernel_rfl); (case hg => exact hcb); simp only [Act.put, List.setIfInBounds_toArray, List.set_cons_succ, List.set_cons_zero]) | ((with_reducible refine wv_val (d := 43) ?hd ?hw (.int .u64 (s : Int)) ?hr ?_); (case hd => rfl); (case hw => kernel_rfl); (case hr => intro w; exact run_add64 rfl (by kernel_rfl) (by kernel_rfl) E2.out s64 w); simp only [Act.put, List.setIfInBounds_toArray, List.set_cons_succ, List.set_cons_zero]) | ((with_reducible refine wv_val (d := 46) ?hd ?hw (.int .u64 (dg : Int)) ?hr ?_); (case hd => rfl); (case hw => kernel_rfl); (case hr => intro w; exact run_rem64 rfl (by kernel_rfl) (by kernel_rfl) (by decide) s64 ED.out w); simp only [Act.put, List.setIfInBounds_toArray, List.set_cons_succ, List.set_cons_zero]) | (refine wl_app (by kernel_rfl) (.tmp 44) (.tmp 47) 76 51 .u64 8 rfl Tryd.underlying76 inf_u64 (by decide) (w.heap.size) (out) [dg] (u5) _ rfl rfl (KO.out.alloc _) (one_ints _ _) SN.out (by simp; have := HB.size; omega) ?_))
        intro v5 w3 R3 G3 _
        have HB3 : Below w.heap.size w w3 := (HB.alloc HB.size _).trans (grown_mono G3 (by simp; have := HB.size; omega) (fun b hb => (KO.out.range b hb).1))
        have R3 : Kept _ := ⟨R3⟩
        have DO3 : Kept (Dig (out ++ [dg])) := ⟨DO.out.snoc hd16⟩
        clear G3 HB KO DO
        go_wp2_with (first | ((with_reducible refine wv_val (d := 50) ?hd ?hw (.int .u64 (cq : Int)) ?hr ?_); (case hd => rfl); (case hw => kernel_rfl); (case hr => intro w; exact run_quo64 rfl (by kernel_rfl) (by kernel_rfl) (by decide) s64 EQ.out w); simp only [Act.put, List.setIfInBounds_toArray, List.set_cons_succ, List.set_cons_zero]))
        go_roundg (gk - 1)
        case measure => omega
        case rel => exact ⟨i + 1, cq, out ++ [dg], by omega, rfl, by rfl, ⟨⟨HB3, R3.out, DO3.out, by simp [KL.out], VV.out, hc1, by have := CZ.out; omega⟩⟩⟩

      case neg =>
        have hB' : ¬ (i : Int) < (nb : Int) := by omega
        by_cases hc : c = 0
        case pos =>
          subst hc
          have hv : Kept (val out = val a + val b) := ⟨by have := HV.out; rw [List.take_of_length_le (by have := EA.out; omega), List.take_of_length_le (by have := EB.out; omega)] at this; omega⟩
          have hl : Kept (out.length ≤ max na nb + 1) := ⟨by have := KL.out; omega⟩
          go_wp2_with fail
          go_ret
          exact ⟨out, _, rfl, KO.out, DO.out, hl.out, hv.out, HB⟩
        case neg =>
          have hc' : (0 : Int) < (c : Int) := by omega
          obtain ⟨x, hx0⟩ : ∃ x, x = 0 := ⟨_, rfl⟩
          have hx16 : x < 65536 := by omega
          have VX : val (a.take (i + 1)) = val (a.take i) + x * 65536 ^ i := by rw [val_take_all a i (by have := EA.out; omega), hx0]; omega
          obtain ⟨y, hy0⟩ : ∃ y, y = 0 := ⟨_, rfl⟩
          have hy16 : y < 65536 := by omega
          have VY : val (b.take (i + 1)) = val (b.take i) + y * 65536 ^ i := by rw [val_take_all b i (by have := EB.out; omega), hy0]; omega
          obtain ⟨s, hs⟩ : ∃ s, s = c := ⟨_, rfl⟩
          subst hs
          have hst : Kept (s = s + x + y) := ⟨by omega⟩
          have s64 : s < 18446744073709551616 := by omega
          obtain ⟨dg, hdg⟩ : ∃ d, d = s % 65536 := ⟨_, rfl⟩
          obtain ⟨cq, hcq⟩ : ∃ d, d = s / 65536 := ⟨_, rfl⟩
          have hc1 : cq ≤ 1 := by omega
          have hd16 : dg < 65536 := by omega
          have VV : Kept (val (out ++ [dg]) + cq * 65536 ^ (i + 1) = val (a.take (i + 1)) + val (b.take (i + 1))) := ⟨by
            rw [VX, VY, val_snoc, KL.out, hdg, hcq, Nat.pow_succ, carry, show s * 65536 ^ i = s * 65536 ^ i + x * 65536 ^ i + y * 65536 ^ i from by rw [← Nat.add_mul, ← Nat.add_mul, ← hst.out]]
            have := HV.out
            omega⟩
          have CZ : Kept (cq = 0 ∨ i < max na nb) := ⟨by omega⟩
          have ED : Kept _ := ⟨hdg⟩
          have EQ : Kept _ := ⟨hcq⟩
          have SN : Kept (out.length + [dg].length ≤ 8796093022208) := ⟨by have := KL.out; simp; omega⟩
          clear VX VY hdg hcq hx0 hy0
          go_wp2_with (first | ((with_reducible refine wv_val (d := 46) ?hd ?hw (.int .u64 (dg : Int)) ?hr ?_); (case hd => rfl); (case hw => kernel_rfl); (case hr => intro w; exact run_rem64 rfl (by kernel_rfl) (by kernel_rfl) (by decide) s64 ED.out w); simp only [Act.put, List.setIfInBounds_toArray, List.set_cons_succ, List.set_cons_zero]) | (refine wl_app (by kernel_rfl) (.tmp 44) (.tmp 47) 76 51 .u64 8 rfl Tryd.underlying76 inf_u64 (by decide) (w.heap.size) (out) [dg] (u5) _ rfl rfl (KO.out.alloc _) (one_ints _ _) SN.out (by simp; have := HB.size; omega) ?_))
          intro v5 w3 R3 G3 _
          have HB3 : Below w.heap.size w w3 := (HB.alloc HB.size _).trans (grown_mono G3 (by simp; have := HB.size; omega) (fun b hb => (KO.out.range b hb).1))
          have R3 : Kept _ := ⟨R3⟩
          have DO3 : Kept (Dig (out ++ [dg])) := ⟨DO.out.snoc hd16⟩
          clear G3 HB KO DO
          go_wp2_with (first | ((with_reducible refine wv_val (d := 50) ?hd ?hw (.int .u64 (cq : Int)) ?hr ?_); (case hd => rfl); (case hw => kernel_rfl); (case hr => intro w; exact run_quo64 rfl (by kernel_rfl) (by kernel_rfl) (by decide) s64 EQ.out w); simp only [Act.put, List.setIfInBounds_toArray, List.set_cons_succ, List.set_cons_zero]))
          go_roundg (gk - 1)
          case measure => omega
          case rel => exact ⟨i + 1, cq, out ++ [dg], by omega, rfl, by rfl, ⟨⟨HB3, R3.out, DO3.out, by simp [KL.out], VV.out, hc1, by have := CZ.out; omega⟩⟩⟩

end Go.Proofs.YthnkipicehppmaaDoor.sh
/-
  The reference's times1.
-/
namespace Go.Proofs.YthnkipicehppmaaDoor.sh
open Go Go.RowKit
set_option linter.unusedVariables false
set_option linter.unusedSimpArgs false


theorem step_mul (V c x m B T : Nat) (h : V + c * B = T * m) : V + (c + x * m) % 65536 * B + (c + x * m) / 65536 * (B * 65536) = (T + x * B) * m := by
  rw [carry, Nat.add_mul, ← Nat.add_assoc, h, Nat.add_mul, Nat.mul_right_comm x m B]
theorem row_zero {base : Nat} (w : World) (hb : base ≤ w.heap.size) : Row base 51 .u64 [0] (.slice (some ⟨w.heap.size, 0, none⟩) 1 1) (w.alloc (.cells #[.int .u64 0] 51)) := World.ownsRow_lit w #[.int .u64 0] 1 hb (by unfold maxLen; omega) rfl
theorem val_zero (l : List Nat) : val ([0] ++ l) = 65536 * val l := by simp [val]
set_option maxRecDepth 100000 in
set_option maxHeartbeats 2000000 in
theorem times1_any (l : List Nat) (v : Value) (n : Nat) (w : World) (hv : IntsV .u64 v w l) (dl : Dig l) (ll : l.length ≤ 90) (hn : n < 4294967296) :
    Calls Tryd.prog 50 #[v, .int .u64 (n : Int)] w fun e w' => ∃ r u, e = .returned u ∧ Row w.heap.size 51 .u64 r u w' ∧ Dig r ∧ r.length ≤ l.length + 5 ∧ val r = val l * n ∧ Below w.heap.size w w' := by
  have KA : Kept _ := ⟨hv⟩
  have DA : Kept _ := ⟨dl⟩
  obtain ⟨pa, cpa, rfl, _, _⟩ := hv
  obtain ⟨nn, hnn⟩ : ∃ n, n = l.length := ⟨_, rfl⟩
  rw [← hnn] at KA ll
  have EL : Kept _ := ⟨hnn⟩
  rw [← hnn]
  clear hnn dl
  obtain ⟨nl, hnl⟩ : ∃ m, m = n % 65536 := ⟨_, rfl⟩
  obtain ⟨nh, hnh⟩ : ∃ m, m = n / 65536 := ⟨_, rfl⟩
  have nl16 : nl < 65536 := by omega
  have nh16 : nh < 65536 := by omega
  have n64 : n < 18446744073709551616 := by omega
  have ENL : Kept _ := ⟨hnl⟩
  have ENH : Kept _ := ⟨hnh⟩
  clear hnl hnh
  go_enter Tryd.func50, Tryd.ntmps50
  go_wp2_with fail
  go_loopg [5, 6, 7, 8, 9] (nn + 3) (fun m s5 s6 s7 s8 s9 wr => ∃ (i c d : Nat) (low high : List Nat), i + m = nn + 3 ∧ s7 = .int .u64 (c : Int) ∧ s8 = .int .u64 (d : Int) ∧ s9 = .int .i64 (i : Int) ∧ Kept (Below w.heap.size w wr ∧ Row w.heap.size 51 .u64 low s5 wr ∧ Row w.heap.size 51 .u64 high s6 wr ∧ Dig low ∧ Dig high ∧ low.length = i ∧ high.length = i ∧ val low + c * 65536 ^ i = val (l.take i) * nl ∧ val high + d * 65536 ^ i = val (l.take i) * nh ∧ c ≤ 65535 ∧ d ≤ 65535 ∧ (i ≤ nn ∨ (c = 0 ∧ d = 0)) ∧ ∀ b, blkOf s5 = some b → blkOf s6 ≠ some b))
  case atStart => exact ⟨0, 0, 0, [], [], by omega, rfl, rfl, rfl, ⟨⟨Below.refl _ _, row_nil _ _ _ _, row_nil _ _ _ _, dig_nil, dig_nil, rfl, rfl, by simp [val], by simp [val], by omega, by omega, .inl (Nat.zero_le _), fun b hb => by cases hb⟩⟩⟩
  case round =>
    obtain ⟨i, c, d, low, high, hik, rfl, rfl, rfl, KK⟩ := hrel
    obtain ⟨HB, R5, R6, DO5, DO6, L5, L6, HV5, HV6, c1, d1, c0, N56⟩ := KK.out
    have K5 : Kept _ := ⟨R5⟩
    have K6 : Kept _ := ⟨R6⟩
    have DO5 : Kept _ := ⟨DO5⟩
    have DO6 : Kept _ := ⟨DO6⟩
    have L5 : Kept _ := ⟨L5⟩
    have L6 : Kept _ := ⟨L6⟩
    have HV5 : Kept _ := ⟨HV5⟩
    have HV6 : Kept _ := ⟨HV6⟩
    have N56 : Kept _ := ⟨N56⟩
    clear KK R5 R6
    have i0 : (0 : Int) ≤ (i : Int) := by omega
    by_cases hk0 : gk = 0
    case pos =>
      have hA' : ¬ (i : Int) < (nn : Int) + 3 := by omega
      obtain ⟨rfl, rfl⟩ : c = 0 ∧ d = 0 := by omega
      have F5 : Kept (val low = val l * nl) := ⟨by have := HV5.out; rw [List.take_of_length_le (by have := EL.out; omega)] at this; omega⟩
      have F6 : Kept (val high = val l * nh) := ⟨by have := HV6.out; rw [List.take_of_length_le (by have := EL.out; omega)] at this; omega⟩
      have SZ : Kept ([0].length + high.length ≤ 8796093022208) := ⟨by have := L6.out; simp; omega⟩
      go_wp2_with (first | ((with_reducible refine wv_val (d := 14) ?hd ?hw (.int .i64 ((nn + 3 : Nat) : Int)) ?hr ?_); (case hd => rfl); (case hw => kernel_rfl); (case hr => intro w; exact run_addI 3 rfl (by kernel_rfl) (by omega) w); simp only [Act.put, List.setIfInBounds_toArray, List.set_cons_succ, List.set_cons_zero]) | (refine wl_app (by kernel_rfl) (.tmp 53) (.tmp 54) 76 51 .u64 8 rfl Tryd.underlying76 inf_u64 (by decide) wr.heap.size [0] high _ u6 rfl rfl (row_zero wr (Nat.le_refl _)) ((row_cells K6.out).under ((Below.refl _ _).alloc (Nat.le_refl _) _)) SZ.out (by simp) ?_))
      intro v7 w4 R4 G4 _
      have HB4 : Below wr.heap.size wr w4 := ((Below.refl _ _).alloc (Nat.le_refl _) _).trans (grown_mono G4 (by simp) (fun b hb => by cases hb; exact Nat.le_refl _))
      have RL : Kept _ := ⟨K5.out.under HB4⟩
      have R4 : Kept _ := ⟨row_cells R4⟩
      have HB5 := HB.trans (HB4.mono HB.size)
      clear G4 HB HB4
      go_wp2_with fail
      refine (rplus_any low ([0] ++ high) _ _ _ (row_cells RL.out) R4.out DO5.out (DO6.out.cons (by decide)) (by have := L5.out; omega) (by have := L6.out; simp; omega)).mono ?_
      rintro e w5 ⟨r, u, rfl, Rr, Dr, Lr, Vr, hb5⟩
      have HB6 := HB5.trans (hb5.mono HB5.size)
      have Rr : Kept _ := ⟨Rr.mono HB5.size⟩
      have Lr : Kept (r.length ≤ nn + 5) := ⟨by have := L5.out; have := L6.out; simp at Lr; omega⟩
      have Vr : Kept (val r = val l * n) := ⟨by
        rw [Vr, val_zero, F5.out, F6.out, ENL.out, ENH.out, Nat.mul_left_comm, ← Nat.mul_add, Nat.mod_add_div]⟩
      have Dr : Kept _ := ⟨Dr⟩
      clear hb5 HB5 R4 RL
      go_wp2_with fail
      go_ret
      exact ⟨r, _, rfl, Rr.out, Dr.out, Lr.out, Vr.out, HB6⟩
    have hA' : (i : Int) < (nn : Int) + 3 := by omega
    by_cases hA : i < nn
    case pos =>
      have hA'' : (i : Int) < (nn : Int) := by omega
      obtain ⟨x, hx⟩ : ∃ x, l[i]? = some x := ⟨_, List.getElem?_eq_getElem (by have := EL.out; omega)⟩
      obtain ⟨Aa, rfl, hba, hca⟩ := (IntsV.under KA.out HB).cell hx
      have hx16 : x < 65536 := DA.out i x hx
      have VX : Kept _ := ⟨val_take l i x hx⟩
      clear hx hba
      have sm : x * nl ≤ 65535 * 65535 := Nat.mul_le_mul (by omega) (by omega)
      obtain ⟨sp, hsp⟩ : ∃ s, s = x * nl := ⟨_, rfl⟩
      have Esp : Kept _ := ⟨hsp⟩
      rw [← hsp] at sm
      obtain ⟨s, hs⟩ : ∃ s, s = c + sp := ⟨_, rfl⟩
      have Es : Kept _ := ⟨hs⟩
      have s64 : s < 18446744073709551616 := by omega
      have sp64 : sp < 18446744073709551616 := by omega
      obtain ⟨dg, hdg⟩ : ∃ d, d = s % 65536 := ⟨_, rfl⟩
      obtain ⟨cq, hcq⟩ : ∃ d, d = s / 65536 := ⟨_, rfl⟩
      have cql : cq ≤ 65535 := by omega
      have dg16 : dg < 65536 := by omega
      have Edg : Kept _ := ⟨hdg⟩
      have Ecq : Kept _ := ⟨hcq⟩
      have Vs : Kept (val (low ++ [dg]) + cq * 65536 ^ (i + 1) = val (l.take (i + 1)) * nl) := ⟨by
        rw [VX.out, val_snoc, L5.out, hdg, hcq, Nat.pow_succ, hs, hsp]
        exact step_mul _ _ _ _ _ _ HV5.out⟩
      have tm : x * nh ≤ 65535 * 65535 := Nat.mul_le_mul (by omega) (by omega)
      obtain ⟨tp, htp⟩ : ∃ s, s = x * nh := ⟨_, rfl⟩
      have Etp : Kept _ := ⟨htp⟩
      rw [← htp] at tm
      obtain ⟨t, ht⟩ : ∃ s, s = d + tp := ⟨_, rfl⟩
      have Et : Kept _ := ⟨ht⟩
      have t64 : t < 18446744073709551616 := by omega
      have tp64 : tp < 18446744073709551616 := by omega
      obtain ⟨eg, heg⟩ : ∃ d, d = t % 65536 := ⟨_, rfl⟩
      obtain ⟨dq, hdq⟩ : ∃ d, d = t / 65536 := ⟨_, rfl⟩
      have dql : dq ≤ 65535 := by omega
      have eg16 : eg < 65536 := by omega
      have Eeg : Kept _ := ⟨heg⟩
      have Edq : Kept _ := ⟨hdq⟩
      have Vt : Kept (val (high ++ [eg]) + dq * 65536 ^ (i + 1) = val (l.take (i + 1)) * nh) := ⟨by
        rw [VX.out, val_snoc, L6.out, heg, hdq, Nat.pow_succ, ht, htp]
        exact step_mul _ _ _ _ _ _ HV6.out⟩
      have CZ : Kept (i < nn ∨ (cq = 0 ∧ dq = 0)) := ⟨by omega⟩
      clear hs ht hdg hcq heg hdq hsp htp
      have S5 : Kept (low.length + [dg].length ≤ 8796093022208) := ⟨by have := L5.out; simp; omega⟩
      have S6 : Kept (high.length + [eg].length ≤ 8796093022208) := ⟨by have := L6.out; simp; omega⟩
      go_wp2_with (first | ((with_reducible refine wv_val (d := 14) ?hd ?hw (.int .i64 ((nn + 3 : Nat) : Int)) ?hr ?_); (case hd => rfl); (case hw => kernel_rfl); (case hr => intro w; exact run_addI 3 rfl (by kernel_rfl) (by omega) w); simp only [Act.put, List.setIfInBounds_toArray, List.set_cons_succ, List.set_cons_zero]) | ((with_reducible refine wv_elem (d := 25) ?hd ?hw 51 ag_u64 (.tmp 24) ?ho (Aa.add i) ?hx (.int .u64 (x : Int)) ?hg ?_); (case hd => rfl); (case hw => kernel_rfl); (case ho => rfl); (case hx => first | rfl | kernel_rfl); (case hg => exact hca); simp only [Act.put, List.setIfInBounds_toArray, List.set_cons_succ, List.set_cons_zero]) | ((with_reducible refine wv_val (d := 29) ?hd ?hw (.int .u64 (nl : Int)) ?hr ?_); (case hd => rfl); (case hw => kernel_rfl); (case hr => intro w; exact run_rem64 rfl (by kernel_rfl) (by kernel_rfl) (by decide) n64 ENL.out w); simp only [Act.put, List.setIfInBounds_toArray, List.set_cons_succ, List.set_cons_zero]) | ((with_reducible refine wv_val (d := 30) ?hd ?hw (.int .u64 (sp : Int)) ?hr ?_); (case hd => rfl); (case hw => kernel_rfl); (case hr => intro w; exact run_mul64 rfl (by kernel_rfl) (by kernel_rfl) Esp.out sp64 w); simp only [Act.put, List.setIfInBounds_toArray, List.set_cons_succ, List.set_cons_zero]) | ((with_reducible refine wv_val (d := 31) ?hd ?hw (.int .u64 (s : Int)) ?hr ?_); (case hd => rfl); (case hw => kernel_rfl); (case hr => intro w; exact run_add64 rfl (by kernel_rfl) (by kernel_rfl) Es.out s64 w); simp only [Act.put, List.setIfInBounds_toArray, List.set_cons_succ, List.set_cons_zero]) | ((with_reducible refine wv_val (d := 35) ?hd ?hw (.int .u64 (nh : Int)) ?hr ?_); (case hd => rfl); (case hw => kernel_rfl); (case hr => intro w; exact run_quo64 rfl (by kernel_rfl) (by kernel_rfl) (by decide) n64 ENH.out w); simp only [Act.put, List.setIfInBounds_toArray, List.set_cons_succ, List.set_cons_zero]) | ((with_reducible refine wv_val (d := 36) ?hd ?hw (.int .u64 (tp : Int)) ?hr ?_); (case hd => rfl); (case hw => kernel_rfl); (case hr => intro w; exact run_mul64 rfl (by kernel_rfl) (by kernel_rfl) Etp.out tp64 w); simp only [Act.put, List.setIfInBounds_toArray, List.set_cons_succ, List.set_cons_zero]) | ((with_reducible refine wv_val (d := 37) ?hd ?hw (.int .u64 (t : Int)) ?hr ?_); (case hd => rfl); (case hw => kernel_rfl); (case hr => intro w; exact run_add64 rfl (by kernel_rfl) (by kernel_rfl) Et.out t64 w); simp only [Act.put, List.setIfInBounds_toArray, List.set_cons_succ, List.set_cons_zero]) | ((with_reducible refine wv_val (d := 40) ?hd ?hw (.int .u64 (dg : Int)) ?hr ?_); (case hd => rfl); (case hw => kernel_rfl); (case hr => intro w; exact run_rem64 rfl (by kernel_rfl) (by kernel_rfl) (by decide) s64 Edg.out w); simp only [Act.put, List.setIfInBounds_toArray, List.set_cons_succ, List.set_cons_zero]) | (refine wl_app (by kernel_rfl) (.tmp 38) (.tmp 41) 76 51 .u64 8 rfl Tryd.underlying76 inf_u64 (by decide) (w.heap.size) (low) [dg] (u5) _ rfl rfl (K5.out.alloc _) (one_ints _ _) S5.out (by simp; have := HB.size; omega) ?_))
      intro v5 w3 R3 G3 E3
      have HB3 : Below w.heap.size w w3 := (HB.alloc HB.size _).trans (grown_mono G3 (by simp; have := HB.size; omega) (fun b hb => (K5.out.range b hb).1))
      have R3 : Kept _ := ⟨R3⟩
      have R63 : Kept _ := ⟨(K6.out.alloc _).keeps G3 (by
        cases h : blkOf u6 with
        | none => exact .inl rfl
        | some b => exact .inr fun e => N56.out b e.symm h)⟩
      have N3 : Kept (∀ b, blkOf v5 = some b → blkOf u6 ≠ some b) := ⟨fun b hb e => by
        rcases E3 with h | h
        · exact N56.out b (by rw [← h]; exact hb) e
        · rw [hb] at h
          have := (K6.out.range b e).2
          simp at h
          omega⟩
      clear G3 E3
      go_wp2_with (first | ((with_reducible refine wv_val (d := 45) ?hd ?hw (.int .u64 (eg : Int)) ?hr ?_); (case hd => rfl); (case hw => kernel_rfl); (case hr => intro w; exact run_rem64 rfl (by kernel_rfl) (by kernel_rfl) (by decide) t64 Eeg.out w); simp only [Act.put, List.setIfInBounds_toArray, List.set_cons_succ, List.set_cons_zero]) | (refine wl_app (by kernel_rfl) (.tmp 43) (.tmp 46) 76 51 .u64 8 rfl Tryd.underlying76 inf_u64 (by decide) (w.heap.size) (high) [eg] (u6) _ rfl rfl (R63.out.alloc _) (one_ints _ _) S6.out (by simp; have := HB3.size; omega) ?_))
      intro v6 w4 R4 G4 E4
      have HB4 : Below w.heap.size w w4 := (HB3.alloc HB3.size _).trans (grown_mono G4 (by simp; have := HB3.size; omega) (fun b hb => (R63.out.range b hb).1))
      have R4 : Kept _ := ⟨R4⟩
      have R54 : Kept _ := ⟨(R3.out.alloc _).keeps G4 (by
        cases h : blkOf v5 with
        | none => exact .inl rfl
        | some b => exact .inr fun e => N3.out b h e.symm)⟩
      have N4 : Kept (∀ b, blkOf v5 = some b → blkOf v6 ≠ some b) := ⟨fun b hb e => by
        rcases E4 with h | h
        · exact N3.out b hb (by rw [← h]; exact e)
        · rw [e] at h
          have := (R3.out.range b hb).2
          simp at h
          omega⟩
      have D5 : Kept _ := ⟨DO5.out.snoc dg16⟩
      have D6 : Kept _ := ⟨DO6.out.snoc eg16⟩
      clear G4 E4 HB HB3 K5 K6 R3 R63 N56 N3 DO5 DO6
      go_wp2_with (first | ((with_reducible refine wv_val (d := 49) ?hd ?hw (.int .u64 (cq : Int)) ?hr ?_); (case hd => rfl); (case hw => kernel_rfl); (case hr => intro w; exact run_quo64 rfl (by kernel_rfl) (by kernel_rfl) (by decide) s64 Ecq.out w); simp only [Act.put, List.setIfInBounds_toArray, List.set_cons_succ, List.set_cons_zero]) | ((with_reducible refine wv_val (d := 51) ?hd ?hw (.int .u64 (dq : Int)) ?hr ?_); (case hd => rfl); (case hw => kernel_rfl); (case hr => intro w; exact run_quo64 rfl (by kernel_rfl) (by kernel_rfl) (by decide) t64 Edq.out w); simp only [Act.put, List.setIfInBounds_toArray, List.set_cons_succ, List.set_cons_zero]))
      go_roundg (gk - 1)
      case measure => omega
      case rel => exact ⟨i + 1, cq, dq, low ++ [dg], high ++ [eg], by omega, rfl, rfl, by rfl, ⟨⟨HB4, R54.out, R4.out, D5.out, D6.out, by simp [L5.out], by simp [L6.out], Vs.out, Vt.out, cql, dql, by have := CZ.out; omega, N4.out⟩⟩⟩

    case neg =>
      have hA'' : ¬ (i : Int) < (nn : Int) := by omega
      have hx16 : 0 < 65536 := by omega
      have VX : Kept (val (l.take (i + 1)) = val (l.take i) + 0 * 65536 ^ i) := ⟨by rw [val_take_all l i (by have := EL.out; omega)]; omega⟩
      have sm : 0 * nl ≤ 65535 * 65535 := Nat.mul_le_mul (by omega) (by omega)
      obtain ⟨sp, hsp⟩ : ∃ s, s = 0 * nl := ⟨_, rfl⟩
      have Esp : Kept _ := ⟨hsp⟩
      rw [← hsp] at sm
      obtain ⟨s, hs⟩ : ∃ s, s = c + sp := ⟨_, rfl⟩
      have Es : Kept _ := ⟨hs⟩
      have s64 : s < 18446744073709551616 := by omega
      have sp64 : sp < 18446744073709551616 := by omega
      obtain ⟨dg, hdg⟩ : ∃ d, d = s % 65536 := ⟨_, rfl⟩
      obtain ⟨cq, hcq⟩ : ∃ d, d = s / 65536 := ⟨_, rfl⟩
      have cql : cq ≤ 65535 := by omega
      have dg16 : dg < 65536 := by omega
      have Edg : Kept _ := ⟨hdg⟩
      have Ecq : Kept _ := ⟨hcq⟩
      have Vs : Kept (val (low ++ [dg]) + cq * 65536 ^ (i + 1) = val (l.take (i + 1)) * nl) := ⟨by
        rw [VX.out, val_snoc, L5.out, hdg, hcq, Nat.pow_succ, hs, hsp]
        exact step_mul _ _ _ _ _ _ HV5.out⟩
      have tm : 0 * nh ≤ 65535 * 65535 := Nat.mul_le_mul (by omega) (by omega)
      obtain ⟨tp, htp⟩ : ∃ s, s = 0 * nh := ⟨_, rfl⟩
      have Etp : Kept _ := ⟨htp⟩
      rw [← htp] at tm
      obtain ⟨t, ht⟩ : ∃ s, s = d + tp := ⟨_, rfl⟩
      have Et : Kept _ := ⟨ht⟩
      have t64 : t < 18446744073709551616 := by omega
      have tp64 : tp < 18446744073709551616 := by omega
      obtain ⟨eg, heg⟩ : ∃ d, d = t % 65536 := ⟨_, rfl⟩
      obtain ⟨dq, hdq⟩ : ∃ d, d = t / 65536 := ⟨_, rfl⟩
      have dql : dq ≤ 65535 := by omega
      have eg16 : eg < 65536 := by omega
      have Eeg : Kept _ := ⟨heg⟩
      have Edq : Kept _ := ⟨hdq⟩
      have Vt : Kept (val (high ++ [eg]) + dq * 65536 ^ (i + 1) = val (l.take (i + 1)) * nh) := ⟨by
        rw [VX.out, val_snoc, L6.out, heg, hdq, Nat.pow_succ, ht, htp]
        exact step_mul _ _ _ _ _ _ HV6.out⟩
      have z1 : cq = 0 ∧ dq = 0 := by
        have e1 : sp = 0 := by rw [hsp, Nat.zero_mul]
        have e2 : tp = 0 := by rw [htp, Nat.zero_mul]
        omega
      have CZ : Kept (i < nn ∨ (cq = 0 ∧ dq = 0)) := ⟨by omega⟩
      clear hs ht hdg hcq heg hdq hsp htp z1
      have S5 : Kept (low.length + [dg].length ≤ 8796093022208) := ⟨by have := L5.out; simp; omega⟩
      have S6 : Kept (high.length + [eg].length ≤ 8796093022208) := ⟨by have := L6.out; simp; omega⟩
      go_wp2_with (first | ((with_reducible refine wv_val (d := 14) ?hd ?hw (.int .i64 ((nn + 3 : Nat) : Int)) ?hr ?_); (case hd => rfl); (case hw => kernel_rfl); (case hr => intro w; exact run_addI 3 rfl (by kernel_rfl) (by omega) w); simp only [Act.put, List.setIfInBounds_toArray, List.set_cons_succ, List.set_cons_zero]) | ((with_reducible refine wv_val (d := 29) ?hd ?hw (.int .u64 (nl : Int)) ?hr ?_); (case hd => rfl); (case hw => kernel_rfl); (case hr => intro w; exact run_rem64 rfl (by kernel_rfl) (by kernel_rfl) (by decide) n64 ENL.out w); simp only [Act.put, List.setIfInBounds_toArray, List.set_cons_succ, List.set_cons_zero]) | ((with_reducible refine wv_val (d := 30) ?hd ?hw (.int .u64 (sp : Int)) ?hr ?_); (case hd => rfl); (case hw => kernel_rfl); (case hr => intro w; exact run_mul64 rfl (by kernel_rfl) (by kernel_rfl) Esp.out sp64 w); simp only [Act.put, List.setIfInBounds_toArray, List.set_cons_succ, List.set_cons_zero]) | ((with_reducible refine wv_val (d := 31) ?hd ?hw (.int .u64 (s : Int)) ?hr ?_); (case hd => rfl); (case hw => kernel_rfl); (case hr => intro w; exact run_add64 rfl (by kernel_rfl) (by kernel_rfl) Es.out s64 w); simp only [Act.put, List.setIfInBounds_toArray, List.set_cons_succ, List.set_cons_zero]) | ((with_reducible refine wv_val (d := 35) ?hd ?hw (.int .u64 (nh : Int)) ?hr ?_); (case hd => rfl); (case hw => kernel_rfl); (case hr => intro w; exact run_quo64 rfl (by kernel_rfl) (by kernel_rfl) (by decide) n64 ENH.out w); simp only [Act.put, List.setIfInBounds_toArray, List.set_cons_succ, List.set_cons_zero]) | ((with_reducible refine wv_val (d := 36) ?hd ?hw (.int .u64 (tp : Int)) ?hr ?_); (case hd => rfl); (case hw => kernel_rfl); (case hr => intro w; exact run_mul64 rfl (by kernel_rfl) (by kernel_rfl) Etp.out tp64 w); simp only [Act.put, List.setIfInBounds_toArray, List.set_cons_succ, List.set_cons_zero]) | ((with_reducible refine wv_val (d := 37) ?hd ?hw (.int .u64 (t : Int)) ?hr ?_); (case hd => rfl); (case hw => kernel_rfl); (case hr => intro w; exact run_add64 rfl (by kernel_rfl) (by kernel_rfl) Et.out t64 w); simp only [Act.put, List.setIfInBounds_toArray, List.set_cons_succ, List.set_cons_zero]) | ((with_reducible refine wv_val (d := 40) ?hd ?hw (.int .u64 (dg : Int)) ?hr ?_); (case hd => rfl); (case hw => kernel_rfl); (case hr => intro w; exact run_rem64 rfl (by kernel_rfl) (by kernel_rfl) (by decide) s64 Edg.out w); simp only [Act.put, List.setIfInBounds_toArray, List.set_cons_succ, List.set_cons_zero]) | (refine wl_app (by kernel_rfl) (.tmp 38) (.tmp 41) 76 51 .u64 8 rfl Tryd.underlying76 inf_u64 (by decide) (w.heap.size) (low) [dg] (u5) _ rfl rfl (K5.out.alloc _) (one_ints _ _) S5.out (by simp; have := HB.size; omega) ?_))
      intro v5 w3 R3 G3 E3
      have HB3 : Below w.heap.size w w3 := (HB.alloc HB.size _).trans (grown_mono G3 (by simp; have := HB.size; omega) (fun b hb => (K5.out.range b hb).1))
      have R3 : Kept _ := ⟨R3⟩
      have R63 : Kept _ := ⟨(K6.out.alloc _).keeps G3 (by
        cases h : blkOf u6 with
        | none => exact .inl rfl
        | some b => exact .inr fun e => N56.out b e.symm h)⟩
      have N3 : Kept (∀ b, blkOf v5 = some b → blkOf u6 ≠ some b) := ⟨fun b hb e => by
        rcases E3 with h | h
        · exact N56.out b (by rw [← h]; exact hb) e
        · rw [hb] at h
          have := (K6.out.range b e).2
          simp at h
          omega⟩
      clear G3 E3
      go_wp2_with (first | ((with_reducible refine wv_val (d := 45) ?hd ?hw (.int .u64 (eg : Int)) ?hr ?_); (case hd => rfl); (case hw => kernel_rfl); (case hr => intro w; exact run_rem64 rfl (by kernel_rfl) (by kernel_rfl) (by decide) t64 Eeg.out w); simp only [Act.put, List.setIfInBounds_toArray, List.set_cons_succ, List.set_cons_zero]) | (refine wl_app (by kernel_rfl) (.tmp 43) (.tmp 46) 76 51 .u64 8 rfl Tryd.underlying76 inf_u64 (by decide) (w.heap.size) (high) [eg] (u6) _ rfl rfl (R63.out.alloc _) (one_ints _ _) S6.out (by simp; have := HB3.size; omega) ?_))
      intro v6 w4 R4 G4 E4
      have HB4 : Below w.heap.size w w4 := (HB3.alloc HB3.size _).trans (grown_mono G4 (by simp; have := HB3.size; omega) (fun b hb => (R63.out.range b hb).1))
      have R4 : Kept _ := ⟨R4⟩
      have R54 : Kept _ := ⟨(R3.out.alloc _).keeps G4 (by
        cases h : blkOf v5 with
        | none => exact .inl rfl
        | some b => exact .inr fun e => N3.out b h e.symm)⟩
      have N4 : Kept (∀ b, blkOf v5 = some b → blkOf v6 ≠ some b) := ⟨fun b hb e => by
        rcases E4 with h | h
        · exact N3.out b hb (by rw [← h]; exact e)
        · rw [e] at h
          have := (R3.out.range b hb).2
          simp at h
          omega⟩
      have D5 : Kept _ := ⟨DO5.out.snoc dg16⟩
      have D6 : Kept _ := ⟨DO6.out.snoc eg16⟩
      clear G4 E4 HB HB3 K5 K6 R3 R63 N56 N3 DO5 DO6
      go_wp2_with (first | ((with_reducible refine wv_val (d := 49) ?hd ?hw (.int .u64 (cq : Int)) ?hr ?_); (case hd => rfl); (case hw => kernel_rfl); (case hr => intro w; exact run_quo64 rfl (by kernel_rfl) (by kernel_rfl) (by decide) s64 Ecq.out w); simp only [Act.put, List.setIfInBounds_toArray, List.set_cons_succ, List.set_cons_zero]) | ((with_reducible refine wv_val (d := 51) ?hd ?hw (.int .u64 (dq : Int)) ?hr ?_); (case hd => rfl); (case hw => kernel_rfl); (case hr => intro w; exact run_quo64 rfl (by kernel_rfl) (by kernel_rfl) (by decide) t64 Edq.out w); simp only [Act.put, List.setIfInBounds_toArray, List.set_cons_succ, List.set_cons_zero]))
      go_roundg (gk - 1)
      case measure => omega
      case rel => exact ⟨i + 1, cq, dq, low ++ [dg], high ++ [eg], by omega, rfl, rfl, by rfl, ⟨⟨HB4, R54.out, R4.out, D5.out, D6.out, by simp [L5.out], by simp [L6.out], Vs.out, Vt.out, cql, dql, by have := CZ.out; omega, N4.out⟩⟩⟩

end Go.Proofs.YthnkipicehppmaaDoor.sh
