/-
  Joined texts: TD TE TF.
-/
import Derived.Test.YthnkipicehppmaaDoorRefA
/-
  The reference's times.
-/
namespace Go.Proofs.YthnkipicehppmaaDoor.sh
open Go Go.RowKit
set_option linter.unusedVariables false
set_option linter.unusedSimpArgs false


set_option maxRecDepth 100000 in
set_option maxHeartbeats 2000000 in
theorem times_any (l : List Nat) (v : Value) (n : Nat) (w : World) (hv : IntsV .u64 v w l) (dl : Dig l) (ll : l.length ≤ 80) (hn : n < 281474976710656) :
    Calls Tryd.prog 46 #[v, .int .u64 (n : Int)] w fun e w' => ∃ r u, e = .returned u ∧ Row w.heap.size 51 .u64 r u w' ∧ Dig r ∧ r.length ≤ l.length + 7 ∧ val r = val l * n ∧ Below w.heap.size w w' := by
  have KA : Kept _ := ⟨hv⟩
  have DA : Kept _ := ⟨dl⟩
  obtain ⟨pa, cpa, rfl, _, _⟩ := hv
  obtain ⟨nn, hnn⟩ : ∃ n, n = l.length := ⟨_, rfl⟩
  rw [← hnn] at KA ll
  have EL : Kept _ := ⟨hnn⟩
  rw [← hnn]
  clear hnn dl
  obtain ⟨nl, hnl⟩ : ∃ m, m = n % 65536 := ⟨_, rfl⟩
  have nl16 : nl < 65536 := by omega
  have n64 : n < 18446744073709551616 := by omega
  have ENL : Kept _ := ⟨hnl⟩
  clear hnl
  go_enter Tryd.func46, Tryd.ntmps46
  go_wp2_with fail
  go_loopg [5, 6, 7] (nn + 1) (fun m s5 s6 s7 wr => ∃ (i c : Nat) (out : List Nat), i + m = nn + 1 ∧ s6 = .int .u64 (c : Int) ∧ s7 = .int .i64 (i : Int) ∧ Kept (Below w.heap.size w wr ∧ Row w.heap.size 51 .u64 out s5 wr ∧ Dig out ∧ out.length = i ∧ val out + c * 65536 ^ i = val (l.take i) * nl ∧ c ≤ 65535 ∧ (i ≤ nn ∨ c = 0)))
  case atStart => exact ⟨0, 0, [], by omega, rfl, rfl, ⟨⟨Below.refl _ _, row_nil _ _ _ _, dig_nil, rfl, by simp [val], by omega, .inl (Nat.zero_le _)⟩⟩⟩
  case round =>
    obtain ⟨i, c, out, hik, rfl, rfl, KK⟩ := hrel
    obtain ⟨HB, RO, DO, KL, HV, c1, c0⟩ := KK.out
    have KO : Kept _ := ⟨RO⟩
    have DO : Kept _ := ⟨DO⟩
    have KL : Kept _ := ⟨KL⟩
    have HV : Kept _ := ⟨HV⟩
    clear KK RO
    have i0 : (0 : Int) ≤ (i : Int) := by omega
    by_cases hA : i < nn
    case pos =>
      have hA' : (i : Int) < (nn : Int) := by omega
      obtain ⟨x, hx⟩ : ∃ x, l[i]? = some x := ⟨_, List.getElem?_eq_getElem (by have := EL.out; omega)⟩
      obtain ⟨Aa, rfl, hba, hca⟩ := (IntsV.under KA.out HB).cell hx
      have hx16 : x < 65536 := DA.out i x hx
      have VX : Kept _ := ⟨val_take l i x hx⟩
      clear hx hba
      have sm : x * nl ≤ 65535 * 65535 := Nat.mul_le_mul (by omega) (by omega)
      obtain ⟨sp, hsp⟩ : ∃ s, s = x * nl := ⟨_, rfl⟩
      have Esp : Kept _ := ⟨hsp⟩
      rw [← hsp] at sm
      obtain ⟨s, hs⟩ : ∃ s, s = c + sp := ⟨_, rfl⟩
      have Es : Kept _ := ⟨hs⟩
      have s64 : s < 18446744073709551616 := by omega
      have sp64 : sp < 18446744073709551616 := by omega
      obtain ⟨dg, hdg⟩ : ∃ d, d = s % 65536 := ⟨_, rfl⟩
      obtain ⟨cq, hcq⟩ : ∃ d, d = s / 65536 := ⟨_, rfl⟩
      have cql : cq ≤ 65535 := by omega
      have dg16 : dg < 65536 := by omega
      have Edg : Kept _ := ⟨hdg⟩
      have Ecq : Kept _ := ⟨hcq⟩
      have Vs : Kept (val (out ++ [dg]) + cq * 65536 ^ (i + 1) = val (l.take (i + 1)) * nl) := ⟨by
        rw [VX.out, val_snoc, KL.out, hdg, hcq, Nat.pow_succ, hs, hsp]
        exact step_mul _ _ _ _ _ _ HV.out⟩
      clear hs hdg hcq hsp
      have SN : Kept (out.length + [dg].length ≤ 8796093022208) := ⟨by have := KL.out; simp; omega⟩
      have CZ : Kept (i + 1 ≤ nn ∨ cq = 0) := ⟨.inl (by omega)⟩
      go_wp2_with (first | ((with_reducible refine wv_elem (d := 27) ?hd ?hw 51 ag_u64 (.tmp 26) ?ho (Aa.add i) ?hx (.int .u64 (x : Int)) ?hg ?_); (case hd => rfl); (case hw => kernel_rfl); (case ho => rfl); (case hx => first | rfl | kernel_rfl); (case hg => exact hca); simp only [Act.put, List.setIfInBounds_toArray, List.set_cons_succ, List.set_cons_zero]) | ((with_reducible refine wv_val (d := 29) ?hd ?hw (.int .u64 (nl : Int)) ?hr ?_); (case hd => rfl); (case hw => kernel_rfl); (case hr => intro w; exact run_rem64 rfl (by kernel_rfl) (by kernel_rfl) (by decide) n64 ENL.out w); simp only [Act.put, List.setIfInBounds_toArray, List.set_cons_succ, List.set_cons_zero]) | ((with_reducible refine wv_val (d := 30) ?hd ?hw (.int .u64 (sp : Int)) ?hr ?_); (case hd => rfl); (case hw => kernel_rfl); (case hr => intro w; exact run_mul64 rfl (by kernel_rfl) (by kernel_rfl) Esp.out sp64 w); simp only [Act.put, List.setIfInBounds_toArray, List.set_cons_succ, List.set_cons_zero]) | ((with_reducible refine wv_val (d := 31) ?hd ?hw (.int .u64 (s : Int)) ?hr ?_); (case hd => rfl); (case hw => kernel_rfl); (case hr => intro w; exact run_add64 rfl (by kernel_rfl) (by kernel_rfl) Es.out s64 w); simp only [Act.put, List.setIfInBounds_toArray, List.set_cons_succ, List.set_cons_zero]) | ((with_reducible refine wv_val (d := 34) ?hd ?hw (.int .u64 (dg : Int)) ?hr ?_); (case hd => rfl); (case hw => kernel_rfl); (case hr => intro w; exact run_rem64 rfl (by kernel_rfl) (by kernel_rfl) (by decide) s64 Edg.out w); simp only [Act.put, List.setIfInBounds_toArray, List.set_cons_succ, List.set_cons_zero]) | (refine wl_app (by kernel_rfl) (.tmp 32) (.tmp 35) 76 51 .u64 8 rfl Tryd.underlying76 inf_u64 (by decide) (w.heap.size) (out) [dg] (u5) _ rfl rfl (KO.out.alloc _) (one_ints _ _) SN.out (by simp; have := HB.size; omega) ?_))
      intro v5 w3 R3 G3 _
      have HB3 : Below w.heap.size w w3 := (HB.alloc HB.size _).trans (grown_mono G3 (by simp; have := HB.size; omega) (fun b hb => (KO.out.range b hb).1))
      have R3 : Kept _ := ⟨R3⟩
      have DO3 : Kept _ := ⟨DO.out.snoc dg16⟩
      clear G3 HB KO DO
      go_wp2_with (first | ((with_reducible refine wv_val (d := 38) ?hd ?hw (.int .u64 (cq : Int)) ?hr ?_); (case hd => rfl); (case hw => kernel_rfl); (case hr => intro w; exact run_quo64 rfl (by kernel_rfl) (by kernel_rfl) (by decide) s64 Ecq.out w); simp only [Act.put, List.setIfInBounds_toArray, List.set_cons_succ, List.set_cons_zero]))
      go_roundg (gk - 1)
      case measure => omega
      case rel => exact ⟨i + 1, cq, out ++ [dg], by omega, rfl, by rfl, ⟨⟨HB3, R3.out, DO3.out, by simp [KL.out], Vs.out, cql, by have := CZ.out; omega⟩⟩⟩

    have hA' : ¬ (i : Int) < (nn : Int) := by omega
    by_cases hc : c = 0
    case neg =>
      have hc' : (0 : Int) < (c : Int) := by omega
      have VX : Kept (val (l.take (i + 1)) = val (l.take i)) := ⟨val_take_all l i (by have := EL.out; omega)⟩
      have c64 : c < 18446744073709551616 := by omega
      obtain ⟨dg, hdg⟩ : ∃ d, d = c % 65536 := ⟨_, rfl⟩
      obtain ⟨cq, hcq⟩ : ∃ d, d = c / 65536 := ⟨_, rfl⟩
      have cq0 : cq = 0 := by omega
      have cql : cq ≤ 65535 := by omega
      have dg16 : dg < 65536 := by omega
      have Edg : Kept _ := ⟨hdg⟩
      have Ecq : Kept _ := ⟨hcq⟩
      have Vs : Kept (val (out ++ [dg]) + cq * 65536 ^ (i + 1) = val (l.take (i + 1)) * nl) := ⟨by
        rw [VX.out, val_snoc, KL.out, hdg, hcq, Nat.pow_succ, carry]
        exact HV.out⟩
      clear hdg hcq
      have SN : Kept (out.length + [dg].length ≤ 8796093022208) := ⟨by have := KL.out; simp; omega⟩
      have CZ : Kept (i + 1 ≤ nn ∨ cq = 0) := ⟨.inr cq0⟩
      clear cq0
      go_wp2_with (first | ((with_reducible refine wv_val (d := 34) ?hd ?hw (.int .u64 (dg : Int)) ?hr ?_); (case hd => rfl); (case hw => kernel_rfl); (case hr => intro w; exact run_rem64 rfl (by kernel_rfl) (by kernel_rfl) (by decide) c64 Edg.out w); simp only [Act.put, List.setIfInBounds_toArray, List.set_cons_succ, List.set_cons_zero]) | (refine wl_app (by kernel_rfl) (.tmp 32) (.tmp 35) 76 51 .u64 8 rfl Tryd.underlying76 inf_u64 (by decide) (w.heap.size) (out) [dg] (u5) _ rfl rfl (KO.out.alloc _) (one_ints _ _) SN.out (by simp; have := HB.size; omega) ?_))
      intro v5 w3 R3 G3 _
      have HB3 : Below w.heap.size w w3 := (HB.alloc HB.size _).trans (grown_mono G3 (by simp; have := HB.size; omega) (fun b hb => (KO.out.range b hb).1))
      have R3 : Kept _ := ⟨R3⟩
      have DO3 : Kept _ := ⟨DO.out.snoc dg16⟩
      clear G3 HB KO DO
      go_wp2_with (first | ((with_reducible refine wv_val (d := 38) ?hd ?hw (.int .u64 (cq : Int)) ?hr ?_); (case hd => rfl); (case hw => kernel_rfl); (case hr => intro w; exact run_quo64 rfl (by kernel_rfl) (by kernel_rfl) (by decide) c64 Ecq.out w); simp only [Act.put, List.setIfInBounds_toArray, List.set_cons_succ, List.set_cons_zero]))
      go_roundg (gk - 1)
      case measure => omega
      case rel => exact ⟨i + 1, cq, out ++ [dg], by omega, rfl, by rfl, ⟨⟨HB3, R3.out, DO3.out, by simp [KL.out], Vs.out, cql, by have := CZ.out; omega⟩⟩⟩

    subst hc
    have FV : Kept (val out = val l * nl) := ⟨by have := HV.out; rw [List.take_of_length_le (by have := EL.out; omega)] at this; omega⟩
    by_cases hsm : n < 65536
    · have hsm' : (n : Int) < 65536 := by omega
      have FN : Kept (val out = val l * n) := ⟨by rw [FV.out, ENL.out, Nat.mod_eq_of_lt hsm]⟩
      have hl : Kept (out.length ≤ nn + 7) := ⟨by have := KL.out; omega⟩
      go_wp2_with fail
      go_ret
      exact ⟨out, _, rfl, KO.out, DO.out, hl.out, FN.out, HB⟩
    have hsm' : ¬ (n : Int) < 65536 := by omega
    obtain ⟨nh, hnh⟩ : ∃ m, m = n / 65536 := ⟨_, rfl⟩
    have nh32 : nh < 4294967296 := by omega
    have ENH : Kept _ := ⟨hnh⟩
    clear hnh
    go_wp2_with (first | ((with_reducible refine wv_val (d := 45) ?hd ?hw (.int .u64 (nh : Int)) ?hr ?_); (case hd => rfl); (case hw => kernel_rfl); (case hr => intro w; exact run_quo64 rfl (by kernel_rfl) (by kernel_rfl) (by decide) n64 ENH.out w); simp only [Act.put, List.setIfInBounds_toArray, List.set_cons_succ, List.set_cons_zero]))
    have HBa : Below w.heap.size w (wr.alloc (.cells #[.int .u64 0] 51)) := HB.alloc HB.size _
    have RZ : Kept (Row wr.heap.size 51 .u64 [0] (.slice (some ⟨wr.heap.size, 0, none⟩) 1 1) (wr.alloc (.cells #[.int .u64 0] 51))) := ⟨row_zero wr (Nat.le_refl _)⟩
    refine (times1_any l _ nh _ (IntsV.under KA.out HBa) DA.out (by have := EL.out; omega) nh32).mono ?_
    rintro e w4 ⟨h1, u1, rfl, R1, D1, L1, V1, hb4⟩
    have RZ4 : Kept _ := ⟨RZ.out.under hb4⟩
    have R1 : Kept _ := ⟨row_cells R1⟩
    have D1 : Kept _ := ⟨D1⟩
    have L1 : Kept (h1.length ≤ nn + 5) := ⟨by have := EL.out; omega⟩
    have V1 : Kept _ := ⟨V1⟩
    have HBw : Below wr.heap.size wr w4 := ((Below.refl _ _).alloc (Nat.le_refl _) _).trans (hb4.mono (by simp))
    have sw : wr.heap.size < w4.heap.size := by have := hb4.size; simp at this; omega
    clear hb4 RZ HBa
    have SN : Kept ([0].length + h1.length ≤ 8796093022208) := ⟨by have := L1.out; simp; omega⟩
    go_wp2_with (first | (refine wl_app (by kernel_rfl) (.tmp 42) (.tmp 46) 76 51 .u64 8 rfl Tryd.underlying76 inf_u64 (by decide) wr.heap.size [0] h1 _ u1 rfl rfl RZ4.out R1.out SN.out (Nat.le_of_lt sw) ?_))
    intro v8 w5 R5 G5 _
    have HB5 : Below wr.heap.size wr w5 := HBw.trans (grown_mono G5 (Nat.le_of_lt sw) (fun b hb => by cases hb; exact Nat.le_refl _))
    have R5 : Kept _ := ⟨row_cells R5⟩
    have RL : Kept _ := ⟨row_cells (KO.out.under HB5)⟩
    have HB6 := HB.trans (HB5.mono HB.size)
    clear G5 HB5 HBw HB R1 RZ4 KO
    go_wp2_with fail
    refine (rplus_any out ([0] ++ h1) _ _ _ RL.out R5.out DO.out (D1.out.cons (by decide)) (by have := KL.out; omega) (by have := L1.out; simp; omega)).mono ?_
    rintro e w6 ⟨r, u, rfl, Rr, Dr, Lr, Vr, hb6⟩
    have HB7 := HB6.trans (hb6.mono HB6.size)
    have Rr : Kept _ := ⟨Rr.mono HB6.size⟩
    have Lr : Kept (r.length ≤ nn + 7) := ⟨by have := KL.out; have := L1.out; simp at Lr; omega⟩
    have Vr : Kept (val r = val l * n) := ⟨by
      rw [Vr, val_zero, FV.out, V1.out, ENL.out, ENH.out, Nat.mul_left_comm, ← Nat.mul_add, Nat.mod_add_div]⟩
    have Dr : Kept _ := ⟨Dr⟩
    clear hb6 HB6 R5 RL
    go_wp2_with fail
    go_ret
    exact ⟨r, _, rfl, Rr.out, Dr.out, Lr.out, Vr.out, HB7⟩
end Go.Proofs.YthnkipicehppmaaDoor.sh
/-
  The reference's above.
-/
namespace Go.Proofs.YthnkipicehppmaaDoor.sh
open Go Go.RowKit
set_option linter.unusedVariables false
set_option linter.unusedSimpArgs false


theorem val_tail (l : List Nat) : val l = l.getD 0 0 + 65536 * val l.tail := by cases l <;> simp [val]
theorem getD_tail (l : List Nat) (k : Nat) : l.tail.getD k 0 = l.getD (k + 1) 0 := by cases l <;> simp [List.getD_eq_getElem?_getD]
theorem val_congr : ∀ (n : Nat) (a b : List Nat), a.length ≤ n → b.length ≤ n → (∀ k, a.getD k 0 = b.getD k 0) → val a = val b
  | 0, a, b, ha, hb, h => by
    rw [List.eq_nil_of_length_eq_zero (Nat.le_zero.1 ha), List.eq_nil_of_length_eq_zero (Nat.le_zero.1 hb)]
  | n + 1, a, b, ha, hb, h => by
    rw [val_tail a, val_tail b, h 0, val_congr n a.tail b.tail (by simp; omega) (by simp; omega) (fun k => by rw [getD_tail, getD_tail, h])]
theorem dig_getD {l : List Nat} (h : Dig l) (k : Nat) : l.getD k 0 < 65536 := by
  cases hq : l[k]? with
  | none => simp [List.getD_eq_getElem?_getD, hq]
  | some y => simp [List.getD_eq_getElem?_getD, hq]; exact h k y hq
theorem dig_tail {l : List Nat} (h : Dig l) : Dig l.tail := fun i x hx => h (i + 1) x (by
  cases l with
  | nil => simp at hx
  | cons y r => simpa using hx)
theorem top_less : ∀ (i : Nat) (a b : List Nat), Dig a → Dig b → (∀ k, i < k → a.getD k 0 = b.getD k 0) → b.getD i 0 < a.getD i 0 → val b < val a
  | 0, a, b, da, db, heq, h => by
    have e : val a.tail = val b.tail := val_congr (a.length + b.length) a.tail b.tail (by simp; omega) (by simp; omega) (fun k => by rw [getD_tail, getD_tail]; exact heq (k + 1) (by omega))
    rw [val_tail a, val_tail b, e]
    omega
  | i + 1, a, b, da, db, heq, h => by
    have ih := top_less i a.tail b.tail (dig_tail da) (dig_tail db) (fun k hk => by rw [getD_tail, getD_tail]; exact heq (k + 1) (by omega)) (by rw [getD_tail, getD_tail]; exact h)
    have h0 := dig_getD db 0
    rw [val_tail a, val_tail b]
    omega
theorem cmp_digits (a b : List Nat) (da : Dig a) (db : Dig b) (i : Nat) (heq : ∀ k, i < k → a.getD k 0 = b.getD k 0) (hne : a.getD i 0 ≠ b.getD i 0) : decide (b.getD i 0 < a.getD i 0) = decide (val b < val a) := by
  apply decide_eq_decide.2
  constructor
  · exact top_less i a b da db heq
  · intro h
    rcases Nat.lt_or_ge (b.getD i 0) (a.getD i 0) with h1 | h1
    · exact h1
    · have := top_less i b a db da (fun k hk => (heq k hk).symm) (by omega)
      omega
theorem run_dec {o : Oper} {a : Act} {x : Operand} {i : Nat} (ho : o.op = .binOp .sub 3 x (.const (.int .i64 1)) 3) (hx : a.eval x = .int .i64 (i : Int)) (hi : i < 4611686018427387904) (w : World) : (execOp a.eval o).run Tryd.prog w = .ok (.value (.int .i64 ((i : Int) - 1))) w := by
  have e3 : a.eval (.const (.int .i64 1)) = .int .i64 1 := rfl
  unfold execOp
  simp only [ho, hx, e3]
  simp [go_sem, IntKind.wrap_i64, wrap64]
  omega
theorem run_max2 {o : Oper} {a : Act} {x y : Operand} {m n z : Nat} {ts : Array TypeId} (ho : o.op = .call { callee := .builtin .max, args := #[x, y], argTypes := ts }) (hx : a.eval x = .int .i64 (m : Int)) (hy : a.eval y = .int .i64 (n : Int)) (hz : z = max m n) (w : World) : (execOp a.eval o).run Tryd.prog w = .ok (.value (.int .i64 (z : Int))) w := by
  unfold execOp
  simp only [ho, resolve, invoke, builtin, Sem.run_bind, Sem.run_pure, Result.andThen_ok, List.map_toArray, List.map_cons, List.map_nil, hx, hy, run_max_int2]
  have e : (if (n : Int) > (m : Int) then (n : Int) else (m : Int)) = (z : Int) := by split <;> omega
  rw [e]
theorem run_gtr64 {o : Oper} {a : Act} {x y : Operand} {m n : Nat} (ho : o.op = .binOp .gtr 51 x y 51) (hx : a.eval x = .int .u64 (m : Int)) (hy : a.eval y = .int .u64 (n : Int)) (w : World) : (execOp a.eval o).run Tryd.prog w = .ok (.value (.bool (decide ((n : Int) < (m : Int))))) w := by
  unfold execOp
  simp only [ho, hx, hy]
  simp [go_sem]
set_option maxRecDepth 100000 in
set_option maxHeartbeats 2000000 in
theorem above_any (a b : List Nat) (va vb : Value) (w : World) (ha : IntsV .u64 va w a) (hb : IntsV .u64 vb w b) (da : Dig a) (db : Dig b) (la : a.length ≤ 100) (lb : b.length ≤ 100) :
    Calls Tryd.prog 47 #[va, vb] w fun e w' => e = .returned (.bool (decide (val b < val a))) ∧ w' = w := by
  have KA : Kept _ := ⟨ha⟩
  have KB : Kept _ := ⟨hb⟩
  have DA : Kept _ := ⟨da⟩
  have DB : Kept _ := ⟨db⟩
  obtain ⟨pa, cpa, rfl, _, _⟩ := ha
  obtain ⟨pb, cpb, rfl, _, _⟩ := hb
  obtain ⟨na, hna⟩ : ∃ n, n = a.length := ⟨_, rfl⟩
  obtain ⟨nb, hnb⟩ : ∃ n, n = b.length := ⟨_, rfl⟩
  rw [← hna] at KA la
  rw [← hnb] at KB lb
  have EA : Kept _ := ⟨hna⟩
  have EB : Kept _ := ⟨hnb⟩
  rw [← hna, ← hnb]
  clear hna hnb da db
  obtain ⟨mm, hmm⟩ : ∃ m, m = max na nb := ⟨_, rfl⟩
  have EM : Kept _ := ⟨hmm⟩
  have m62 : mm < 4611686018427387904 := by omega
  clear hmm
  go_enter Tryd.func47, Tryd.ntmps47
  go_wp2_with (first | ((with_reducible refine wv_val (d := 13) ?hd ?hw (.int .i64 (mm : Int)) ?hr ?_); (case hd => rfl); (case hw => kernel_rfl); (case hr => intro w; exact run_max2 rfl (by kernel_rfl) (by kernel_rfl) EM.out w); simp only [Act.put, List.setIfInBounds_toArray, List.set_cons_succ, List.set_cons_zero]) | ((with_reducible refine wv_val (d := 15) ?hd ?hw (.int .i64 ((mm : Int) - 1)) ?hr ?_); (case hd => rfl); (case hw => kernel_rfl); (case hr => intro w; exact run_dec rfl (by kernel_rfl) m62 w); simp only [Act.put, List.setIfInBounds_toArray, List.set_cons_succ, List.set_cons_zero]))
  go_loopg [6] mm (fun m s6 wr => ∃ j : Nat, j = m ∧ s6 = .int .i64 ((j : Int) - 1) ∧ j ≤ mm ∧ Kept (∀ k, j ≤ k → a.getD k 0 = b.getD k 0) ∧ wr = w)
  case atStart => exact ⟨mm, rfl, rfl, Nat.le_refl _, ⟨fun k hk => by rw [List.getD_eq_getElem?_getD, List.getD_eq_getElem?_getD, List.getElem?_eq_none (by have := EA.out; have := EM.out; omega), List.getElem?_eq_none (by have := EB.out; have := EM.out; omega)]⟩, rfl⟩
  case round =>
    obtain ⟨j, hj, rfl, hjm, KE, hwr⟩ := hrel
    obtain rfl := hwr.symm
    cases j with
    | zero =>
      have RES : Kept (decide (val b < val a) = false) := ⟨by
        rw [val_congr (a.length + b.length) a b (by omega) (by omega) (fun k => KE.out k (Nat.zero_le _))]
        simp⟩
      go_wp2_with fail
      go_ret
      exact ⟨by rw [RES.out]; rfl, rfl⟩
    | succ i =>
      have e1 : ((i + 1 : Nat) : Int) - 1 = (i : Int) := by omega
      rw [e1]
      have i62 : i < 4611686018427387904 := by omega
      have i0 : (0 : Int) ≤ (i : Int) := by omega
      clear e1
      by_cases hA : i < na
      case pos =>
        have hA' : (i : Int) < (na : Int) := by omega
        by_cases hB : i < nb
        case pos =>
          have hB' : (i : Int) < (nb : Int) := by omega
          obtain ⟨x, hx⟩ : ∃ x, a[i]? = some x := ⟨_, List.getElem?_eq_getElem (by have := EA.out; omega)⟩
          obtain ⟨Aa, rfl, hba, hca⟩ := IntsV.cell KA.out hx
          have hx0 : a.getD i 0 = x := by simp [List.getD_eq_getElem?_getD, hx]
          obtain ⟨y, hy⟩ : ∃ y, b[i]? = some y := ⟨_, List.getElem?_eq_getElem (by have := EB.out; omega)⟩
          obtain ⟨Ab, rfl, hbb, hcb⟩ := IntsV.cell KB.out hy
          have hy0 : b.getD i 0 = y := by simp [List.getD_eq_getElem?_getD, hy]
          have HX : Kept _ := ⟨hx0⟩
          have HY : Kept _ := ⟨hy0⟩
          clear hx0 hy0 hx hba hy hbb
          by_cases hxy : x = y
          case pos =>
            have hxy' : ((x : Nat) : Int) = ((y : Nat) : Int) := by omega
            have EQ : Kept (∀ k, i ≤ k → a.getD k 0 = b.getD k 0) := ⟨fun k hk => by
              by_cases h : k = i
              · rw [h, HX.out, HY.out]; exact hxy
              · exact KE.out k (by omega)⟩
            go_wp2_with (first | ((with_reducible refine wv_elem (d := 27) ?hd ?hw 51 ag_u64 (.tmp 26) ?ho (Aa.add i) ?hx (.int .u64 (x : Int)) ?hg ?_); (case hd => rfl); (case hw => kernel_rfl); (case ho => rfl); (case hx => first | rfl | kernel_rfl); (case hg => exact hca); simp only [Act.put, List.setIfInBounds_toArray, List.set_cons_succ, List.set_cons_zero]) | ((with_reducible refine wv_elem (d := 35) ?hd ?hw 51 ag_u64 (.tmp 34) ?ho (Ab.add i) ?hx (.int .u64 (y : Int)) ?hg ?_); (case hd => rfl); (case hw => kernel_rfl); (case ho => rfl); (case hx => first | rfl | kernel_rfl); (case hg => exact hcb); simp only [Act.put, List.setIfInBounds_toArray, List.set_cons_succ, List.set_cons_zero]) | ((with_reducible refine wv_val (d := 19) ?hd ?hw (.int .i64 ((i : Int) - 1)) ?hr ?_); (case hd => rfl); (case hw => kernel_rfl); (case hr => intro w; exact run_dec rfl (by kernel_rfl) i62 w); simp only [Act.put, List.setIfInBounds_toArray, List.set_cons_succ, List.set_cons_zero]))
            go_roundg i
            case measure => omega
            case rel => exact ⟨i, rfl, by rfl, by omega, EQ, rfl⟩
          case neg =>
            have hxy' : ¬ ((x : Nat) : Int) = ((y : Nat) : Int) := by omega
            have RES : Kept (decide (((y : Nat) : Int) < ((x : Nat) : Int)) = decide (val b < val a)) := ⟨by
              have := cmp_digits a b DA.out DB.out i (fun k hk => KE.out k (by omega)) (by rw [HX.out, HY.out]; exact hxy)
              rw [HX.out, HY.out] at this
              rw [← this]
              exact decide_eq_decide.2 (by omega)⟩
            go_wp2_with (first | ((with_reducible refine wv_elem (d := 27) ?hd ?hw 51 ag_u64 (.tmp 26) ?ho (Aa.add i) ?hx (.int .u64 (x : Int)) ?hg ?_); (case hd => rfl); (case hw => kernel_rfl); (case ho => rfl); (case hx => first | rfl | kernel_rfl); (case hg => exact hca); simp only [Act.put, List.setIfInBounds_toArray, List.set_cons_succ, List.set_cons_zero]) | ((with_reducible refine wv_elem (d := 35) ?hd ?hw 51 ag_u64 (.tmp 34) ?ho (Ab.add i) ?hx (.int .u64 (y : Int)) ?hg ?_); (case hd => rfl); (case hw => kernel_rfl); (case ho => rfl); (case hx => first | rfl | kernel_rfl); (case hg => exact hcb); simp only [Act.put, List.setIfInBounds_toArray, List.set_cons_succ, List.set_cons_zero]) | ((with_reducible refine wv_val (d := 41) ?hd ?hw (.bool (decide (val b < val a))) ?hr ?_); (case hd => rfl); (case hw => kernel_rfl); (case hr => intro w; rw [← RES.out]; exact run_gtr64 rfl (by kernel_rfl) (by kernel_rfl) w); simp only [Act.put, List.setIfInBounds_toArray, List.set_cons_succ, List.set_cons_zero]))
            go_ret
            exact ⟨rfl, rfl⟩

        case neg =>
          have hB' : ¬ (i : Int) < (nb : Int) := by omega
          obtain ⟨x, hx⟩ : ∃ x, a[i]? = some x := ⟨_, List.getElem?_eq_getElem (by have := EA.out; omega)⟩
          obtain ⟨Aa, rfl, hba, hca⟩ := IntsV.cell KA.out hx
          have hx0 : a.getD i 0 = x := by simp [List.getD_eq_getElem?_getD, hx]
          have hy0 : b.getD i 0 = 0 := by rw [List.getD_eq_getElem?_getD, List.getElem?_eq_none (by have := EB.out; omega)]; rfl
          have HX : Kept _ := ⟨hx0⟩
          have HY : Kept _ := ⟨hy0⟩
          clear hx0 hy0 hx hba
          by_cases hxy : x = 0
          case pos =>
            have hxy' : ((x : Nat) : Int) = ((0 : Nat) : Int) := by omega
            have EQ : Kept (∀ k, i ≤ k → a.getD k 0 = b.getD k 0) := ⟨fun k hk => by
              by_cases h : k = i
              · rw [h, HX.out, HY.out]; exact hxy
              · exact KE.out k (by omega)⟩
            go_wp2_with (first | ((with_reducible refine wv_elem (d := 27) ?hd ?hw 51 ag_u64 (.tmp 26) ?ho (Aa.add i) ?hx (.int .u64 (x : Int)) ?hg ?_); (case hd => rfl); (case hw => kernel_rfl); (case ho => rfl); (case hx => first | rfl | kernel_rfl); (case hg => exact hca); simp only [Act.put, List.setIfInBounds_toArray, List.set_cons_succ, List.set_cons_zero]) | ((with_reducible refine wv_val (d := 19) ?hd ?hw (.int .i64 ((i : Int) - 1)) ?hr ?_); (case hd => rfl); (case hw => kernel_rfl); (case hr => intro w; exact run_dec rfl (by kernel_rfl) i62 w); simp only [Act.put, List.setIfInBounds_toArray, List.set_cons_succ, List.set_cons_zero]))
            go_roundg i
            case measure => omega
            case rel => exact ⟨i, rfl, by rfl, by omega, EQ, rfl⟩
          case neg =>
            have hxy' : ¬ ((x : Nat) : Int) = ((0 : Nat) : Int) := by omega
            have RES : Kept (decide (((0 : Nat) : Int) < ((x : Nat) : Int)) = decide (val b < val a)) := ⟨by
              have := cmp_digits a b DA.out DB.out i (fun k hk => KE.out k (by omega)) (by rw [HX.out, HY.out]; exact hxy)
              rw [HX.out, HY.out] at this
              rw [← this]
              exact decide_eq_decide.2 (by omega)⟩
            go_wp2_with (first | ((with_reducible refine wv_elem (d := 27) ?hd ?hw 51 ag_u64 (.tmp 26) ?ho (Aa.add i) ?hx (.int .u64 (x : Int)) ?hg ?_); (case hd => rfl); (case hw => kernel_rfl); (case ho => rfl); (case hx => first | rfl | kernel_rfl); (case hg => exact hca); simp only [Act.put, List.setIfInBounds_toArray, List.set_cons_succ, List.set_cons_zero]) | ((with_reducible refine wv_val (d := 41) ?hd ?hw (.bool (decide (val b < val a))) ?hr ?_); (case hd => rfl); (case hw => kernel_rfl); (case hr => intro w; rw [← RES.out]; exact run_gtr64 rfl (by kernel_rfl) (by kernel_rfl) w); simp only [Act.put, List.setIfInBounds_toArray, List.set_cons_succ, List.set_cons_zero]))
            go_ret
            exact ⟨rfl, rfl⟩

      case neg =>
        have hA' : ¬ (i : Int) < (na : Int) := by omega
        have hB : i < nb := by have := EM.out; omega
        have hB' : (i : Int) < (nb : Int) := by omega
        have hx0 : a.getD i 0 = 0 := by rw [List.getD_eq_getElem?_getD, List.getElem?_eq_none (by have := EA.out; omega)]; rfl
        obtain ⟨y, hy⟩ : ∃ y, b[i]? = some y := ⟨_, List.getElem?_eq_getElem (by have := EB.out; omega)⟩
        obtain ⟨Ab, rfl, hbb, hcb⟩ := IntsV.cell KB.out hy
        have hy0 : b.getD i 0 = y := by simp [List.getD_eq_getElem?_getD, hy]
        have HX : Kept _ := ⟨hx0⟩
        have HY : Kept _ := ⟨hy0⟩
        clear hx0 hy0 hy hbb
        by_cases hxy : 0 = y
        case pos =>
          have hxy' : ((0 : Nat) : Int) = ((y : Nat) : Int) := by omega
          have EQ : Kept (∀ k, i ≤ k → a.getD k 0 = b.getD k 0) := ⟨fun k hk => by
            by_cases h : k = i
            · rw [h, HX.out, HY.out]; exact hxy
            · exact KE.out k (by omega)⟩
          go_wp2_with (first | ((with_reducible refine wv_elem (d := 35) ?hd ?hw 51 ag_u64 (.tmp 34) ?ho (Ab.add i) ?hx (.int .u64 (y : Int)) ?hg ?_); (case hd => rfl); (case hw => kernel_rfl); (case ho => rfl); (case hx => first | rfl | kernel_rfl); (case hg => exact hcb); simp only [Act.put, List.setIfInBounds_toArray, List.set_cons_succ, List.set_cons_zero]) | ((with_reducible refine wv_val (d := 19) ?hd ?hw (.int .i64 ((i : Int) - 1)) ?hr ?_); (case hd => rfl); (case hw => kernel_rfl); (case hr => intro w; exact run_dec rfl (by kernel_rfl) i62 w); simp only [Act.put, List.setIfInBounds_toArray, List.set_cons_succ, List.set_cons_zero]))
          go_roundg i
          case measure => omega
          case rel => exact ⟨i, rfl, by rfl, by omega, EQ, rfl⟩
        case neg =>
          have hxy' : ¬ ((0 : Nat) : Int) = ((y : Nat) : Int) := by omega
          have RES : Kept (decide (((y : Nat) : Int) < ((0 : Nat) : Int)) = decide (val b < val a)) := ⟨by
            have := cmp_digits a b DA.out DB.out i (fun k hk => KE.out k (by omega)) (by rw [HX.out, HY.out]; exact hxy)
            rw [HX.out, HY.out] at this
            rw [← this]
            exact decide_eq_decide.2 (by omega)⟩
          go_wp2_with (first | ((with_reducible refine wv_elem (d := 35) ?hd ?hw 51 ag_u64 (.tmp 34) ?ho (Ab.add i) ?hx (.int .u64 (y : Int)) ?hg ?_); (case hd => rfl); (case hw => kernel_rfl); (case ho => rfl); (case hx => first | rfl | kernel_rfl); (case hg => exact hcb); simp only [Act.put, List.setIfInBounds_toArray, List.set_cons_succ, List.set_cons_zero]) | ((with_reducible refine wv_val (d := 41) ?hd ?hw (.bool (decide (val b < val a))) ?hr ?_); (case hd => rfl); (case hw => kernel_rfl); (case hr => intro w; rw [← RES.out]; exact run_gtr64 rfl (by kernel_rfl) (by kernel_rfl) w); simp only [Act.put, List.setIfInBounds_toArray, List.set_cons_succ, List.set_cons_zero]))
          go_ret
          exact ⟨rfl, rfl⟩

end Go.Proofs.YthnkipicehppmaaDoor.sh
/-
  The reference's root.
-/
namespace Go.Proofs.YthnkipicehppmaaDoor.sh
open Go Go.RowKit
set_option linter.unusedVariables false
set_option linter.unusedSimpArgs false


/-- The greatest number of so many bits whose power is at most T, bit by bit. -/
def rt (T pw : Nat) : Nat → Nat
  | 0 => 0
  | j + 1 => if (rt T pw j + 2 ^ (35 - j)) ^ pw ≤ T then rt T pw j + 2 ^ (35 - j) else rt T pw j
theorem rt_le (T pw : Nat) : ∀ j, j ≤ 36 → rt T pw j + 2 ^ (36 - j) ≤ 2 ^ 36
  | 0, _ => by simp [rt]
  | j + 1, h => by
    have ih := rt_le T pw j (by omega)
    have e : 2 ^ (36 - j) = 2 ^ (35 - j) + 2 ^ (35 - j) := by rw [show 36 - j = (35 - j) + 1 from by omega, Nat.pow_succ]; omega
    have e2 : 36 - (j + 1) = 35 - j := by omega
    rw [e] at ih
    rw [rt, e2]
    generalize 2 ^ (35 - j) = B at *
    split <;> omega
theorem row_lit2 {base : Nat} (w : World) (hb : base ≤ w.heap.size) : Row base 51 .u64 [0, 0] (.slice (some ⟨w.heap.size, 0, none⟩) 2 2) (w.alloc (.cells #[.int .u64 0, .int .u64 0] 51)) := World.ownsRow_lit w #[.int .u64 0, .int .u64 0] 2 hb (by unfold maxLen; omega) rfl
theorem row_lit1 {base : Nat} (w : World) (x : Nat) (hb : base ≤ w.heap.size) : Row base 51 .u64 [x] (.slice (some ⟨w.heap.size, 0, none⟩) 1 1) (w.alloc (.cells #[.int .u64 (x : Int)] 51)) := World.ownsRow_lit w #[.int .u64 (x : Int)] 1 hb (by unfold maxLen; omega) rfl
theorem val_zeros (l : List Nat) : val ([0, 0] ++ l) = 4294967296 * val l := by simp [val]; omega
theorem run_conv32 {o : Oper} {a : Act} {x : Operand} {z : Nat} (ho : o.op = .convert 51 47 x) (hx : a.eval x = .int .u64 (z : Int)) (hz : z < 4294967296) (w : World) : (execOp a.eval o).run Tryd.prog w = .ok (.value (.int .u32 (z : Int))) w := by
  unfold execOp
  simp only [ho, hx]
  simp [go_sem, IntKind.wrap_u32']
  omega
theorem step_round {T pw j n m q : Nat} (hn : n = rt T pw j) (hm : m = n + 2 ^ q) (hq : q = 35 - j) : rt T pw (j + 1) = if m ^ pw ≤ T then m else n := by rw [rt, hm, hn, hq]
set_option maxRecDepth 100000 in
set_option maxHeartbeats 4000000 in
theorem root_any (p pw : Nat) (w : World) (hp : p < 65536) (h1 : 1 ≤ pw) (h3 : pw ≤ 3) :
    Calls Tryd.prog 41 #[.int .u64 (p : Int), .int .i64 (pw : Int)] w fun e w' => e = .returned (.int .u32 ((rt (p * 4294967296 ^ pw) pw 36 % 4294967296 : Nat) : Int)) ∧ Below w.heap.size w w' := by
  obtain ⟨T, hT⟩ : ∃ T, T = p * 4294967296 ^ pw := ⟨_, rfl⟩
  obtain ⟨z, hz⟩ : ∃ z, z = rt T pw 36 % 4294967296 := ⟨_, rfl⟩
  rw [← hT, ← hz]
  have ET : Kept _ := ⟨hT⟩
  have EZ : Kept _ := ⟨hz⟩
  have z32 : z < 4294967296 := by rw [hz]; exact Nat.mod_lt _ (by decide)
  clear hT hz
  go_enter Tryd.func41, Tryd.ntmps41
  go_wp2_with fail
  go_loopg [5, 6] pw (fun m s5 s6 wr => ∃ (i : Nat) (l : List Nat), i + m = pw ∧ s6 = .int .i64 (i : Int) ∧ Kept (Below w.heap.size w wr ∧ Row w.heap.size 51 .u64 l s5 wr ∧ Dig l ∧ l.length = 2 * i + 1 ∧ val l = p * 4294967296 ^ i))
  case atStart => exact ⟨0, [p], by omega, rfl, ⟨⟨(Below.refl _ _).alloc (Nat.le_refl _) _, row_lit1 w p (Nat.le_refl _), dig_nil.cons hp, rfl, by simp [val]⟩⟩⟩
  case round =>
    obtain ⟨i, l, hik, rfl, KK⟩ := hrel
    obtain ⟨HB, RO, DO, KL, HV⟩ := KK.out
    have KO : Kept _ := ⟨RO⟩
    have DO : Kept _ := ⟨DO⟩
    have KL : Kept _ := ⟨KL⟩
    have HV : Kept _ := ⟨HV⟩
    clear KK RO
    by_cases hk0 : gk = 0
    case neg =>
      have hA' : (i : Int) < (pw : Int) := by omega
      have SN : Kept ([0, 0].length + l.length ≤ 8796093022208) := ⟨by have := KL.out; simp; omega⟩
      go_wp2_with (first | (refine wl_app (by kernel_rfl) (.tmp 19) (.tmp 20) 76 51 .u64 8 rfl Tryd.underlying76 inf_u64 (by decide) w.heap.size [0, 0] l _ u5 rfl rfl (row_lit2 wr HB.size) ((row_cells KO.out).under ((Below.refl _ _).alloc (Nat.le_refl _) _)) SN.out (by simp; have := HB.size; omega) ?_))
      intro v5 w3 R3 G3 _
      have HB3 : Below w.heap.size w w3 := (HB.alloc HB.size _).trans (grown_mono G3 (by simp; have := HB.size; omega) (fun b hb => by cases hb; exact HB.size))
      have R3 : Kept _ := ⟨R3⟩
      have D3 : Kept (Dig ([0, 0] ++ l)) := ⟨(DO.out.cons (by decide)).cons (by decide)⟩
      have V3 : Kept (val ([0, 0] ++ l) = p * 4294967296 ^ (i + 1)) := ⟨by rw [val_zeros, HV.out, Nat.pow_succ]; rw [Nat.mul_comm 4294967296, Nat.mul_assoc]⟩
      clear G3 HB KO DO
      go_wp2_with fail
      go_roundg (gk - 1)
      case measure => omega
      case rel => exact ⟨i + 1, [0, 0] ++ l, by omega, by rfl, ⟨⟨HB3, R3.out, D3.out, by have := KL.out; simp; omega, V3.out⟩⟩⟩
    obtain rfl : pw = i := by omega
    have hA' : ¬ (pw : Int) < (pw : Int) := by omega
    have VT : Kept (val l = T) := ⟨by rw [HV.out, ET.out]⟩
    have ML : Kept (l.length ≤ 7) := ⟨by have := KL.out; omega⟩
    clear hik hk0
    go_wp2_with fail
    rename World => wz
    go_loopg [7, 8] 36 (fun m s7 s8 wq => ∃ (j n b : Nat), j + m = 36 ∧ s7 = .int .u64 (n : Int) ∧ s8 = .int .u64 (b : Int) ∧ Kept (Below wz.heap.size wz wq ∧ n = rt T pw j ∧ b = 2 ^ m))
    case atStart => exact ⟨0, 0, 68719476736, by omega, rfl, rfl, ⟨⟨Below.refl _ _, rfl, by decide⟩⟩⟩
    case round =>
      obtain ⟨j, n, b, hj, rfl, rfl, KK⟩ := hrel
      obtain ⟨HQ, hn, hbb⟩ := KK.out
      have KN : Kept _ := ⟨hn⟩
      have KBt : Kept _ := ⟨hbb⟩
      clear KK hn hbb
      have rle : Kept (n + 2 ^ gk ≤ 68719476736) := ⟨by have := rt_le T pw j (by omega); rw [KN.out, show gk = 36 - j from by omega]; exact this⟩
      cases hg : gk with
      | zero =>
        have hb1 : ¬ (1 : Int) < (b : Int) := by have := KBt.out; rw [hg] at this; simp at this; omega
        have n64 : n < 18446744073709551616 := Nat.lt_of_le_of_lt (Nat.le_trans (Nat.le_add_right n _) rle.out) (by decide)
        have ZN : Kept (z = n % 4294967296) := ⟨by rw [EZ.out, KN.out, show j = 36 from by omega]⟩
        go_wp2_with (first | ((with_reducible refine wv_val (d := 46) ?hd ?hw (.int .u64 (z : Int)) ?hr ?_); (case hd => rfl); (case hw => kernel_rfl); (case hr => intro w; exact run_rem64 rfl (by kernel_rfl) (by kernel_rfl) (by decide) n64 ZN.out w); simp only [Act.put, List.setIfInBounds_toArray, List.set_cons_succ, List.set_cons_zero]) | ((with_reducible refine wv_val (d := 47) ?hd ?hw (.int .u32 (z : Int)) ?hr ?_); (case hd => rfl); (case hw => kernel_rfl); (case hr => intro w; exact run_conv32 rfl (by kernel_rfl) z32 w); simp only [Act.put, List.setIfInBounds_toArray, List.set_cons_succ, List.set_cons_zero]))
        go_ret
        exact ⟨rfl, HB.trans (HQ.mono HB.size)⟩
      | succ q =>
        have hbv : Kept (b = 2 * 2 ^ q) := ⟨by rw [KBt.out, hg, Nat.pow_succ, Nat.mul_comm]⟩
        have q0 : 0 < 2 ^ q := Nat.pow_pos (by decide)
        obtain ⟨bq, hbq⟩ : ∃ x, x = 2 ^ q := ⟨_, rfl⟩
        obtain ⟨m, hm⟩ : ∃ x, x = n + bq := ⟨_, rfl⟩
        have hble : n + b ≤ 68719476736 := by have := rle.out; rw [hg, ← hg, ← KBt.out] at this; exact this
        have hb2 : b = 2 * bq := by rw [hbv.out, hbq]
        rw [← hbq] at q0
        have hb1 : (1 : Int) < (b : Int) := by omega
        have b64 : b < 18446744073709551616 := by omega
        have Ebq : Kept (bq = b / 2) := ⟨by omega⟩
        have Em : Kept (m = n + bq) := ⟨hm⟩
        have m36 : m < 68719476736 := by omega
        have m64 : m < 18446744073709551616 := by omega
        have STEP : Kept (rt T pw (j + 1) = if m ^ pw ≤ T then m else n) := ⟨step_round KN.out (by rw [hm, hbq]) (by omega)⟩
        have KQ : Kept _ := ⟨hbq⟩
        clear hbq hm hb2 hble rle hbv KBt
        go_wp2_with (first | ((with_reducible refine wv_val (d := 25) ?hd ?hw (.int .u64 (bq : Int)) ?hr ?_); (case hd => rfl); (case hw => kernel_rfl); (case hr => intro w; exact run_quo64 rfl (by kernel_rfl) (by kernel_rfl) (by decide) b64 Ebq.out w); simp only [Act.put, List.setIfInBounds_toArray, List.set_cons_succ, List.set_cons_zero]) | ((with_reducible refine wv_val (d := 28) ?hd ?hw (.int .u64 (m : Int)) ?hr ?_); (case hd => rfl); (case hw => kernel_rfl); (case hr => intro w; exact run_add64 rfl (by kernel_rfl) (by kernel_rfl) Em.out m64 w); simp only [Act.put, List.setIfInBounds_toArray, List.set_cons_succ, List.set_cons_zero]))
        refine (times_any [1] _ m _ (row_cells (row_lit1 (base := 0) wr 1 (Nat.zero_le _))) (dig_nil.cons (by decide)) (by simp) (by omega)).mono ?_
        rintro e w4 ⟨x, ux, rfl, RX, DX, LX, VX, hb4⟩
        have HQ4 : Below wz.heap.size wz w4 := (HQ.alloc HQ.size _).trans (hb4.mono (by simp; have := HQ.size; omega))
        have RX : Kept _ := ⟨row_cells RX⟩
        have DX : Kept _ := ⟨DX⟩
        have LX : Kept (x.length ≤ 8) := ⟨by simpa using LX⟩
        have VX : Kept (val x = m) := ⟨by rw [VX]; simp [val]⟩
        clear hb4 HQ
        go_wp2_with fail
        go_loopg [10, 11] (pw - 1) (fun k s10 s11 wq => ∃ (i : Nat) (x : List Nat), i + k = pw ∧ s11 = .int .i64 (i : Int) ∧ Kept (1 ≤ i ∧ Below wz.heap.size wz wq ∧ IntsV .u64 s10 wq x ∧ Dig x ∧ x.length ≤ 7 * i + 1 ∧ val x = m ^ i))
        case atStart => exact ⟨1, x, by omega, rfl, ⟨⟨Nat.le_refl _, HQ4, RX.out, DX.out, LX.out, by rw [VX.out, Nat.pow_one]⟩⟩⟩
        case round =>
          obtain ⟨i, y, hik, rfl, KK⟩ := hrel
          obtain ⟨i1, HQ, RY, DY, LY, VY⟩ := KK.out
          have RY : Kept _ := ⟨RY⟩
          have DY : Kept _ := ⟨DY⟩
          have VY : Kept _ := ⟨VY⟩
          have y80 : y.length ≤ 80 := by omega
          clear KK HQ4 RX
          by_cases hi : i < pw
          case pos =>
            have hi' : (i : Int) < (pw : Int) := by omega
            go_wp2_with fail
            refine (times_any y _ m _ RY.out DY.out y80 (by omega)).mono ?_
            rintro e w5 ⟨r, ur, rfl, RR, DR, LR, VR, hb5⟩
            have HQ5 := HQ.trans (hb5.mono HQ.size)
            have RR : Kept _ := ⟨row_cells RR⟩
            have DR : Kept _ := ⟨DR⟩
            have VR : Kept (val r = m ^ (i + 1)) := ⟨by rw [VR, VY.out, Nat.pow_succ]⟩
            have LR : Kept (r.length ≤ 7 * (i + 1) + 1) := ⟨by omega⟩
            clear hb5 HQ RY DY
            go_wp2_with fail
            go_roundg (gk - 1)
            case measure => omega
            case rel => exact ⟨i + 1, r, by omega, by rfl, ⟨⟨by omega, HQ5, RR.out, DR.out, LR.out, VR.out⟩⟩⟩
          obtain rfl : pw = i := by omega
          have hi' : ¬ (pw : Int) < (pw : Int) := by omega
          have RM : Kept _ := ⟨row_cells (KO.out.under HQ)⟩
          go_wp2_with fail
          refine (above_any y l _ _ _ RY.out RM.out DY.out DO.out (by omega) (by have := ML.out; omega)).mono ?_
          rintro e w5 ⟨rfl, rfl⟩
          have EV : Kept (decide (val l < val y) = decide (T < m ^ pw)) := ⟨by rw [VT.out, VY.out]⟩
          rw [EV.out]
          by_cases hle : m ^ pw ≤ T
          case pos =>
            have hd : decide (T < m ^ pw) = false := decide_eq_false (by omega)
            rw [hd]
            have SV : Kept (m = rt T pw (j + 1)) := ⟨by rw [STEP.out, if_pos hle]⟩
            clear hle hd EV RY RM
            go_wp2_with fail
            go_roundg q
            case measure => omega
            case rel => exact ⟨j + 1, m, bq, by omega, rfl, rfl, ⟨⟨HQ, SV.out, KQ.out⟩⟩⟩
          case neg =>
            have hd : decide (T < m ^ pw) = true := decide_eq_true (by omega)
            rw [hd]
            have SV : Kept (n = rt T pw (j + 1)) := ⟨by rw [STEP.out, if_neg hle]⟩
            clear hle hd EV RY RM
            go_wp2_with fail
            go_roundg q
            case measure => omega
            case rel => exact ⟨j + 1, n, bq, by omega, rfl, rfl, ⟨⟨HQ, SV.out, KQ.out⟩⟩⟩
end Go.Proofs.YthnkipicehppmaaDoor.sh
