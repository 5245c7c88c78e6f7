/-
  The reference's above.
-/
import Derived.Test.YtghinfdmkiaaiaaDoorTD
namespace Go.Proofs.YtghinfdmkiaaiaaDoor.sh
open Go Go.RowKit
set_option linter.unusedVariables false
set_option linter.unusedSimpArgs false


theorem val_tail (l : List Nat) : val l = l.getD 0 0 + 65536 * val l.tail := by cases l <;> simp [val]
theorem getD_tail (l : List Nat) (k : Nat) : l.tail.getD k 0 = l.getD (k + 1) 0 := by cases l <;> simp [List.getD_eq_getElem?_getD]
theorem val_congr : ∀ (n : Nat) (a b : List Nat), a.length ≤ n → b.length ≤ n → (∀ k, a.getD k 0 = b.getD k 0) → val a = val b
  | 0, a, b, ha, hb, h => by
    rw [List.eq_nil_of_length_eq_zero (Nat.le_zero.1 ha), List.eq_nil_of_length_eq_zero (Nat.le_zero.1 hb)]
  | n + 1, a, b, ha, hb, h => by
    rw [val_tail a, val_tail b, h 0, val_congr n a.tail b.tail (by simp; omega) (by simp; omega) (fun k => by rw [getD_tail, getD_tail, h])]
theorem dig_getD {l : List Nat} (h : Dig l) (k : Nat) : l.getD k 0 < 65536 := by
  cases hq : l[k]? with
  | none => simp [List.getD_eq_getElem?_getD, hq]
  | some y => simp [List.getD_eq_getElem?_getD, hq]; exact h k y hq
theorem dig_tail {l : List Nat} (h : Dig l) : Dig l.tail := fun i x hx => h (i + 1) x (by
  cases l with
  | nil => simp at hx
  | cons y r => simpa using hx)
theorem top_less : ∀ (i : Nat) (a b : List Nat), Dig a → Dig b → (∀ k, i < k → a.getD k 0 = b.getD k 0) → b.getD i 0 < a.getD i 0 → val b < val a
  | 0, a, b, da, db, heq, h => by
    have e : val a.tail = val b.tail := val_congr (a.length + b.length) a.tail b.tail (by simp; omega) (by simp; omega) (fun k => by rw [getD_tail, getD_tail]; exact heq (k + 1) (by omega))
    rw [val_tail a, val_tail b, e]
    omega
  | i + 1, a, b, da, db, heq, h => by
    have ih := top_less i a.tail b.tail (dig_tail da) (dig_tail db) (fun k hk => by rw [getD_tail, getD_tail]; exact heq (k + 1) (by omega)) (by rw [getD_tail, getD_tail]; exact h)
    have h0 := dig_getD db 0
    rw [val_tail a, val_tail b]
    omega
theorem cmp_digits (a b : List Nat) (da : Dig a) (db : Dig b) (i : Nat) (heq : ∀ k, i < k → a.getD k 0 = b.getD k 0) (hne : a.getD i 0 ≠ b.getD i 0) : decide (b.getD i 0 < a.getD i 0) = decide (val b < val a) := by
  apply decide_eq_decide.2
  constructor
  · exact top_less i a b da db heq
  · intro h
    rcases Nat.lt_or_ge (b.getD i 0) (a.getD i 0) with h1 | h1
    · exact h1
    · have := top_less i b a db da (fun k hk => (heq k hk).symm) (by omega)
      omega
theorem run_dec {o : Oper} {a : Act} {x : Operand} {i : Nat} (ho : o.op = .binOp .sub 3 x (.const (.int .i64 1)) 3) (hx : a.eval x = .int .i64 (i : Int)) (hi : i < 4611686018427387904) (w : World) : (execOp a.eval o).run Tryd.prog w = .ok (.value (.int .i64 ((i : Int) - 1))) w := by
  have e3 : a.eval (.const (.int .i64 1)) = .int .i64 1 := rfl
  unfold execOp
  simp only [ho, hx, e3]
  simp [go_sem, IntKind.wrap_i64, wrap64]
  omega
theorem run_max2 {o : Oper} {a : Act} {x y : Operand} {m n z : Nat} {ts : Array TypeId} (ho : o.op = .call { callee := .builtin .max, args := #[x, y], argTypes := ts }) (hx : a.eval x = .int .i64 (m : Int)) (hy : a.eval y = .int .i64 (n : Int)) (hz : z = max m n) (w : World) : (execOp a.eval o).run Tryd.prog w = .ok (.value (.int .i64 (z : Int))) w := by
  unfold execOp
  simp only [ho, resolve, invoke, builtin, Sem.run_bind, Sem.run_pure, Result.andThen_ok, List.map_toArray, List.map_cons, List.map_nil, hx, hy, run_max_int2]
  have e : (if (n : Int) > (m : Int) then (n : Int) else (m : Int)) = (z : Int) := by split <;> omega
  rw [e]
theorem run_gtr64 {o : Oper} {a : Act} {x y : Operand} {m n : Nat} (ho : o.op = .binOp .gtr 30 x y 30) (hx : a.eval x = .int .u64 (m : Int)) (hy : a.eval y = .int .u64 (n : Int)) (w : World) : (execOp a.eval o).run Tryd.prog w = .ok (.value (.bool (decide ((n : Int) < (m : Int))))) w := by
  unfold execOp
  simp only [ho, hx, hy]
  simp [go_sem]
set_option maxRecDepth 100000 in
set_option maxHeartbeats 2000000 in
theorem above_any (a b : List Nat) (va vb : Value) (w : World) (ha : IntsV .u64 va w a) (hb : IntsV .u64 vb w b) (da : Dig a) (db : Dig b) (la : a.length ≤ 100) (lb : b.length ≤ 100) :
    Calls Tryd.prog 28 #[va, vb] w fun e w' => e = .returned (.bool (decide (val b < val a))) ∧ w' = w := by
  have KA : Kept _ := ⟨ha⟩
  have KB : Kept _ := ⟨hb⟩
  have DA : Kept _ := ⟨da⟩
  have DB : Kept _ := ⟨db⟩
  obtain ⟨pa, cpa, rfl, _, _⟩ := ha
  obtain ⟨pb, cpb, rfl, _, _⟩ := hb
  obtain ⟨na, hna⟩ : ∃ n, n = a.length := ⟨_, rfl⟩
  obtain ⟨nb, hnb⟩ : ∃ n, n = b.length := ⟨_, rfl⟩
  rw [← hna] at KA la
  rw [← hnb] at KB lb
  have EA : Kept _ := ⟨hna⟩
  have EB : Kept _ := ⟨hnb⟩
  rw [← hna, ← hnb]
  clear hna hnb da db
  obtain ⟨mm, hmm⟩ : ∃ m, m = max na nb := ⟨_, rfl⟩
  have EM : Kept _ := ⟨hmm⟩
  have m62 : mm < 4611686018427387904 := by omega
  clear hmm
  go_enter Tryd.func28, Tryd.ntmps28
  go_wp2_with (first | ((with_reducible refine wv_val (d := 13) ?hd ?hw (.int .i64 (mm : Int)) ?hr ?_); (case hd => rfl); (case hw => kernel_rfl); (case hr => intro w; exact run_max2 rfl (by kernel_rfl) (by kernel_rfl) EM.out w); simp only [Act.put, List.setIfInBounds_toArray, List.set_cons_succ, List.set_cons_zero]) | ((with_reducible refine wv_val (d := 15) ?hd ?hw (.int .i64 ((mm : Int) - 1)) ?hr ?_); (case hd => rfl); (case hw => kernel_rfl); (case hr => intro w; exact run_dec rfl (by kernel_rfl) m62 w); simp only [Act.put, List.setIfInBounds_toArray, List.set_cons_succ, List.set_cons_zero]))
  go_loopg [6] mm (fun m s6 wr => ∃ j : Nat, j = m ∧ s6 = .int .i64 ((j : Int) - 1) ∧ j ≤ mm ∧ Kept (∀ k, j ≤ k → a.getD k 0 = b.getD k 0) ∧ wr = w)
  case atStart => exact ⟨mm, rfl, rfl, Nat.le_refl _, ⟨fun k hk => by rw [List.getD_eq_getElem?_getD, List.getD_eq_getElem?_getD, List.getElem?_eq_none (by have := EA.out; have := EM.out; omega), List.getElem?_eq_none (by have := EB.out; have := EM.out; omega)]⟩, rfl⟩
  case round =>
    obtain ⟨j, hj, rfl, hjm, KE, hwr⟩ := hrel
    obtain rfl := hwr.symm
    cases j with
    | zero =>
      have RES : Kept (decide (val b < val a) = false) := ⟨by
        rw [val_congr (a.length + b.length) a b (by omega) (by omega) (fun k => KE.out k (Nat.zero_le _))]
        simp⟩
      go_wp2_with fail
      go_ret
      exact ⟨by rw [RES.out]; rfl, rfl⟩
    | succ i =>
      have e1 : ((i + 1 : Nat) : Int) - 1 = (i : Int) := by omega
      rw [e1]
      have i62 : i < 4611686018427387904 := by omega
      have i0 : (0 : Int) ≤ (i : Int) := by omega
      clear e1
      by_cases hA : i < na
      case pos =>
        have hA' : (i : Int) < (na : Int) := by omega
        by_cases hB : i < nb
        case pos =>
          have hB' : (i : Int) < (nb : Int) := by omega
          obtain ⟨x, hx⟩ : ∃ x, a[i]? = some x := ⟨_, List.getElem?_eq_getElem (by have := EA.out; omega)⟩
          obtain ⟨Aa, rfl, hba, hca⟩ := IntsV.cell KA.out hx
          have hx0 : a.getD i 0 = x := by simp [List.getD_eq_getElem?_getD, hx]
          obtain ⟨y, hy⟩ : ∃ y, b[i]? = some y := ⟨_, List.getElem?_eq_getElem (by have := EB.out; omega)⟩
          obtain ⟨Ab, rfl, hbb, hcb⟩ := IntsV.cell KB.out hy
          have hy0 : b.getD i 0 = y := by simp [List.getD_eq_getElem?_getD, hy]
          have HX : Kept _ := ⟨hx0⟩
          have HY : Kept _ := ⟨hy0⟩
          clear hx0 hy0 hx hba hy hbb
          by_cases hxy : x = y
          case pos =>
            have hxy' : ((x : Nat) : Int) = ((y : Nat) : Int) := by omega
            have EQ : Kept (∀ k, i ≤ k → a.getD k 0 = b.getD k 0) := ⟨fun k hk => by
              by_cases h : k = i
              · rw [h, HX.out, HY.out]; exact hxy
              · exact KE.out k (by omega)⟩
            go_wp2_with (first | ((with_reducible refine wv_elem (d := 27) ?hd ?hw 30 ag_u64 (.tmp 26) ?ho (Aa.add i) ?hx (.int .u64 (x : Int)) ?hg ?_); (case hd => rfl); (case hw => kernel_rfl); (case ho => rfl); (case hx => first | rfl | kernel_rfl); (case hg => exact hca); simp only [Act.put, List.setIfInBounds_toArray, List.set_cons_succ, List.set_cons_zero]) | ((with_reducible refine wv_elem (d := 35) ?hd ?hw 30 ag_u64 (.tmp 34) ?ho (Ab.add i) ?hx (.int .u64 (y : Int)) ?hg ?_); (case hd => rfl); (case hw => kernel_rfl); (case ho => rfl); (case hx => first | rfl | kernel_rfl); (case hg => exact hcb); simp only [Act.put, List.setIfInBounds_toArray, List.set_cons_succ, List.set_cons_zero]) | ((with_reducible refine wv_val (d := 19) ?hd ?hw (.int .i64 ((i : Int) - 1)) ?hr ?_); (case hd => rfl); (case hw => kernel_rfl); (case hr => intro w; exact run_dec rfl (by kernel_rfl) i62 w); simp only [Act.put, List.setIfInBounds_toArray, List.set_cons_succ, List.set_cons_zero]))
            go_roundg i
            case measure => omega
            case rel => exact ⟨i, rfl, by rfl, by omega, EQ, rfl⟩
          case neg =>
            have hxy' : ¬ ((x : Nat) : Int) = ((y : Nat) : Int) := by omega
            have RES : Kept (decide (((y : Nat) : Int) < ((x : Nat) : Int)) = decide (val b < val a)) := ⟨by
              have := cmp_digits a b DA.out DB.out i (fun k hk => KE.out k (by omega)) (by rw [HX.out, HY.out]; exact hxy)
              rw [HX.out, HY.out] at this
              rw [← this]
              exact decide_eq_decide.2 (by omega)⟩
            go_wp2_with (first | ((with_reducible refine wv_elem (d := 27) ?hd ?hw 30 ag_u64 (.tmp 26) ?ho (Aa.add i) ?hx (.int .u64 (x : Int)) ?hg ?_); (case hd => rfl); (case hw => kernel_rfl); (case ho => rfl); (case hx => first | rfl | kernel_rfl); (case hg => exact hca); simp only [Act.put, List.setIfInBounds_toArray, List.set_cons_succ, List.set_cons_zero]) | ((with_reducible refine wv_elem (d := 35) ?hd ?hw 30 ag_u64 (.tmp 34) ?ho (Ab.add i) ?hx (.int .u64 (y : Int)) ?hg ?_); (case hd => rfl); (case hw => kernel_rfl); (case ho => rfl); (case hx => first | rfl | kernel_rfl); (case hg => exact hcb); simp only [Act.put, List.setIfInBounds_toArray, List.set_cons_succ, List.set_cons_zero]) | ((with_reducible refine wv_val (d := 41) ?hd ?hw (.bool (decide (val b < val a))) ?hr ?_); (case hd => rfl); (case hw => kernel_rfl); (case hr => intro w; rw [← RES.out]; exact run_gtr64 rfl (by kernel_rfl) (by kernel_rfl) w); simp only [Act.put, List.setIfInBounds_toArray, List.set_cons_succ, List.set_cons_zero]))
            go_ret
            exact ⟨rfl, rfl⟩

        case neg =>
          have hB' : ¬ (i : Int) < (nb : Int) := by omega
          obtain ⟨x, hx⟩ : ∃ x, a[i]? = some x := ⟨_, List.getElem?_eq_getElem (by have := EA.out; omega)⟩
          obtain ⟨Aa, rfl, hba, hca⟩ := IntsV.cell KA.out hx
          have hx0 : a.getD i 0 = x := by simp [List.getD_eq_getElem?_getD, hx]
          have hy0 : b.getD i 0 = 0 := by rw [List.getD_eq_getElem?_getD, List.getElem?_eq_none (by have := EB.out; omega)]; rfl
          have HX : Kept _ := ⟨hx0⟩
          have HY : Kept _ := ⟨hy0⟩
          clear hx0 hy0 hx hba
          by_cases hxy : x = 0
          case pos =>
            have hxy' : ((x : Nat) : Int) = ((0 : Nat) : Int) := by omega
            have EQ : Kept (∀ k, i ≤ k → a.getD k 0 = b.getD k 0) := ⟨fun k hk => by
              by_cases h : k = i
              · rw [h, HX.out, HY.out]; exact hxy
              · exact KE.out k (by omega)⟩
            go_wp2_with (first | ((with_reducible refine wv_elem (d := 27) ?hd ?hw 30 ag_u64 (.tmp 26) ?ho (Aa.add i) ?hx (.int .u64 (x : Int)) ?hg ?_); (case hd => rfl); (case hw => kernel_rfl); (case ho => rfl); (case hx => first | rfl | kernel_rfl); (case hg => exact hca); simp only [Act.put, List.setIfInBounds_toArray, List.set_cons_succ, List.set_cons_zero]) | ((with_reducible refine wv_val (d := 19) ?hd ?hw (.int .i64 ((i : Int) - 1)) ?hr ?_); (case hd => rfl); (case hw => kernel_rfl); (case hr => intro w; exact run_dec rfl (by kernel_rfl) i62 w); simp only [Act.put, List.setIfInBounds_toArray, List.set_cons_succ, List.set_cons_zero]))
            go_roundg i
            case measure => omega
            case rel => exact ⟨i, rfl, by rfl, by omega, EQ, rfl⟩
          case neg =>
            have hxy' : ¬ ((x : Nat) : Int) = ((0 : Nat) : Int) := by omega
            have RES : Kept (decide (((0 : Nat) : Int) < ((x : Nat) : Int)) = decide (val b < val a)) := ⟨by
              have := cmp_digits a b DA.out DB.out i (fun k hk => KE.out k (by omega)) (by rw [HX.out, HY.out]; exact hxy)
              rw [HX.out, HY.out] at this
              rw [← this]
              exact decide_eq_decide.2 (by omega)⟩
            go_wp2_with (first | ((with_reducible refine wv_elem (d := 27) ?hd ?hw 30 ag_u64 (.tmp 26) ?ho (Aa.add i) ?hx (.int .u64 (x : Int)) ?hg ?_); (case hd => rfl); (case hw => kernel_rfl); (case ho => rfl); (case hx => first | rfl | kernel_rfl); (case hg => exact hca); simp only [Act.put, List.setIfInBounds_toArray, List.set_cons_succ, List.set_cons_zero]) | ((with_reducible refine wv_val (d := 41) ?hd ?hw (.bool (decide (val b < val a))) ?hr ?_); (case hd => rfl); (case hw => kernel_rfl); (case hr => intro w; rw [← RES.out]; exact run_gtr64 rfl (by kernel_rfl) (by kernel_rfl) w); simp only [Act.put, List.setIfInBounds_toArray, List.set_cons_succ, List.set_cons_zero]))
            go_ret
            exact ⟨rfl, rfl⟩

      case neg =>
        have hA' : ¬ (i : Int) < (na : Int) := by omega
        have hB : i < nb := by have := EM.out; omega
        have hB' : (i : Int) < (nb : Int) := by omega
        have hx0 : a.getD i 0 = 0 := by rw [List.getD_eq_getElem?_getD, List.getElem?_eq_none (by have := EA.out; omega)]; rfl
        obtain ⟨y, hy⟩ : ∃ y, b[i]? = some y := ⟨_, List.getElem?_eq_getElem (by have := EB.out; omega)⟩
        obtain ⟨Ab, rfl, hbb, hcb⟩ := IntsV.cell KB.out hy
        have hy0 : b.getD i 0 = y := by simp [List.getD_eq_getElem?_getD, hy]
        have HX : Kept _ := ⟨hx0⟩
        have HY : Kept _ := ⟨hy0⟩
        clear hx0 hy0 hy hbb
        by_cases hxy : 0 = y
        case pos =>
          have hxy' : ((0 : Nat) : Int) = ((y : Nat) : Int) := by omega
          have EQ : Kept (∀ k, i ≤ k → a.getD k 0 = b.getD k 0) := ⟨fun k hk => by
            by_cases h : k = i
            · rw [h, HX.out, HY.out]; exact hxy
            · exact KE.out k (by omega)⟩
          go_wp2_with (first | ((with_reducible refine wv_elem (d := 35) ?hd ?hw 30 ag_u64 (.tmp 34) ?ho (Ab.add i) ?hx (.int .u64 (y : Int)) ?hg ?_); (case hd => rfl); (case hw => kernel_rfl); (case ho => rfl); (case hx => first | rfl | kernel_rfl); (case hg => exact hcb); simp only [Act.put, List.setIfInBounds_toArray, List.set_cons_succ, List.set_cons_zero]) | ((with_reducible refine wv_val (d := 19) ?hd ?hw (.int .i64 ((i : Int) - 1)) ?hr ?_); (case hd => rfl); (case hw => kernel_rfl); (case hr => intro w; exact run_dec rfl (by kernel_rfl) i62 w); simp only [Act.put, List.setIfInBounds_toArray, List.set_cons_succ, List.set_cons_zero]))
          go_roundg i
          case measure => omega
          case rel => exact ⟨i, rfl, by rfl, by omega, EQ, rfl⟩
        case neg =>
          have hxy' : ¬ ((0 : Nat) : Int) = ((y : Nat) : Int) := by omega
          have RES : Kept (decide (((y : Nat) : Int) < ((0 : Nat) : Int)) = decide (val b < val a)) := ⟨by
            have := cmp_digits a b DA.out DB.out i (fun k hk => KE.out k (by omega)) (by rw [HX.out, HY.out]; exact hxy)
            rw [HX.out, HY.out] at this
            rw [← this]
            exact decide_eq_decide.2 (by omega)⟩
          go_wp2_with (first | ((with_reducible refine wv_elem (d := 35) ?hd ?hw 30 ag_u64 (.tmp 34) ?ho (Ab.add i) ?hx (.int .u64 (y : Int)) ?hg ?_); (case hd => rfl); (case hw => kernel_rfl); (case ho => rfl); (case hx => first | rfl | kernel_rfl); (case hg => exact hcb); simp only [Act.put, List.setIfInBounds_toArray, List.set_cons_succ, List.set_cons_zero]) | ((with_reducible refine wv_val (d := 41) ?hd ?hw (.bool (decide (val b < val a))) ?hr ?_); (case hd => rfl); (case hw => kernel_rfl); (case hr => intro w; rw [← RES.out]; exact run_gtr64 rfl (by kernel_rfl) (by kernel_rfl) w); simp only [Act.put, List.setIfInBounds_toArray, List.set_cons_succ, List.set_cons_zero]))
          go_ret
          exact ⟨rfl, rfl⟩

end Go.Proofs.YtghinfdmkiaaiaaDoor.sh
