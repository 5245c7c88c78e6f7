/-
  What the reference's Sum wants, as plain numbers; its single operations.
-/
import Derived.Test.YtfcinakpdnblfaaYP
import Derived.Test.YtfcinakpdnblfaaYK
namespace Go.Proofs.Ytfcinakpdnblfaa.sh
open Go Go.RowKit
set_option linter.unusedVariables false
set_option linter.unusedSimpArgs false

theorem mask_else : ∀ i, i < 16 → i % 4 ≠ 3 → ¬ (i = 4 ∨ i = 8 ∨ i = 12) → maskL.getD i 0 = 255 := by decide
theorem clamp_at (key : List Nat) (h : key.length = 32) (hy : Bytes key) (i x : Nat) (hi : i < 16) (hx : key[i]? = some x) : (clampL key)[i]? = some (if i % 4 = 3 then x % 16 else if i = 4 ∨ i = 8 ∨ i = 12 then x - x % 4 else x) := by
  have x8 : x < 256 := hy i x hx
  have hm := mask_at i hi
  rw [clamp_get key h i, if_pos hi, List.getD_eq_getElem?_getD, hx, Option.getD_some]
  congr 1
  split
  · rename_i h3
    rw [hm.1 h3]
    exact and_15 x x8
  · rename_i h3
    split
    · rename_i h4
      rw [hm.2 h4]
      exact and_252 x x8
    · rename_i h4
      rw [mask_else i hi h3 h4]
      exact and_255 x x8
theorem take_snoc (l : List Nat) (i y : Nat) (h : l[i]? = some y) : l.take (i + 1) = l.take i ++ [y] := by
  rw [List.take_add_one, h]
  rfl
theorem irow_take (l : List Nat) (i y : Nat) (h : l[i]? = some y) : irow (l.take (i + 1)) = irow (l.take i) ++ [.int .i64 (y : Int)] := by
  rw [take_snoc l i y h, irow_snoc]
theorem val_add_at (X : List Nat) (k x y z : Nat) (hk : X[k]? = some x) (hz : z = x + y) : val (X.set k z) = val X + y * 256 ^ k := by
  have h := val_set X y k (List.getElem?_eq_some_iff.1 hk).1
  rw [List.getD_eq_getElem?_getD, hk, Option.getD_some, ← hz] at h
  exact h
theorem val_take_at (l : List Nat) (k x : Nat) (h : l[k]? = some x) : val (l.take (k + 1)) = val (l.take k) + x * 256 ^ k := by
  rw [val_take_succ, List.getD_eq_getElem?_getD, h]
  rfl
/-- The next number of the reference is the program's, modulo p. -/
theorem next_mod (N c r b Q : Nat) (h : N % 1361129467683753853853498429727072845819 = Q % 1361129467683753853853498429727072845819) : (N + c) * r % 1361129467683753853853498429727072845819 = timesN (Q + c) r % 1361129467683753853853498429727072845819 := by
  rw [timesN_mod, Nat.mul_mod, Nat.add_mod, h, ← Nat.add_mod, ← Nat.mul_mod]
theorem poly_next (r : Nat) (b : List Nat) (k N : Nat) (h : N % 1361129467683753853853498429727072845819 = polyT r b k % 1361129467683753853853498429727072845819) : (N + val ((b.drop (16 * k)).take 16 ++ [1])) * r % 1361129467683753853853498429727072845819 = polyT r b (k + 1) % 1361129467683753853853498429727072845819 := next_mod N _ r k _ h
theorem pad_val (pc : List Nat) (N z : Nat) (hz : pc.length = z) : N + val pc + 1 * 256 ^ z = N + val (pc ++ [1]) := by
  rw [val_append, hz]
  simp [val]
  omega
theorem last_big (N d : Nat) (hN : N < 1361129467683753853853498429727072845824) (hd : d = (N + 5) / 256 ^ 16 % 256) : 4 ≤ d ↔ 1361129467683753853853498429727072845824 ≤ N + 5 := by
  have e16 : (256 : Nat) ^ 16 = 340282366920938463463374607431768211456 := by decide
  rw [hd, e16]
  omega
theorem last_tag (N Q s : Nat) (hN : N < 1361129467683753853853498429727072845824) (h : N % 1361129467683753853853498429727072845819 = Q % 1361129467683753853853498429727072845819) : ((N + 5) % 340282366920938463463374607431768211456 + s) % 340282366920938463463374607431768211456 = (Q % 1361129467683753853853498429727072845819 + s) % 340282366920938463463374607431768211456 ∨ N + 5 < 1361129467683753853853498429727072845824 := by
  rw [← h]
  omega
theorem last_tag0 (N Q s : Nat) (hN : N + 5 < 1361129467683753853853498429727072845824) (h : N % 1361129467683753853853498429727072845819 = Q % 1361129467683753853853498429727072845819) : (N % 340282366920938463463374607431768211456 + s) % 340282366920938463463374607431768211456 = (Q % 1361129467683753853853498429727072845819 + s) % 340282366920938463463374607431768211456 := by
  rw [← h]
  omega

theorem run_remC {o : Oper} {a : Act} {x : Operand} {i z : Nat} (c : Nat) (ho : o.op = .binOp .rem 3 x (.const (.int .i64 (c : Int))) 3) (hx : a.eval x = .int .i64 (i : Int)) (hc : 0 < c) (hz : z = i % c) (hi : i < 4611686018427387904) (w : World) : (execOp a.eval o).run Try.prog w = .ok (.value (.int .i64 (z : Int))) w :=
  run_remV ho hx rfl hc hz hi w
theorem run_mulVV {o : Oper} {a : Act} {x y : Operand} {i j z : Nat} (ho : o.op = .binOp .mul 3 x y 3) (hx : a.eval x = .int .i64 (i : Int)) (hy : a.eval y = .int .i64 (j : Int)) (hz : z = i * j) (hi : z < 4611686018427387904) (w : World) : (execOp a.eval o).run Try.prog w = .ok (.value (.int .i64 (z : Int))) w := by
  have e4 : ((i : Int) * (j : Int)) = (z : Int) := by rw [hz]; simp
  unfold execOp
  simp only [ho, hx, hy]
  simp [go_sem, e4, IntKind.wrap_i64, wrap64]
  omega
theorem run_geq4 {o : Oper} {a : Act} {x : Operand} {m : Nat} (b : Bool) (ho : o.op = .binOp .geq 3 x (.const (.int .i64 4)) 3) (hx : a.eval x = .int .i64 (m : Int)) (hb : b = decide (4 ≤ m)) (w : World) : (execOp a.eval o).run Try.prog w = .ok (.value (.bool b)) w := by
  have e3 : a.eval (.const (.int .i64 4)) = .int .i64 4 := rfl
  unfold execOp
  simp only [ho, hx, e3]
  rw [hb]
  simp [go_sem]
  omega
theorem mk17 (w : World) : (Instr.makeSlice 50 (.int .i64 17) (.int .i64 17)).run Try.prog w = .ok (.slice (some ⟨w.heap.size, 0, none⟩) 17 17) (w.alloc (.cells (ints .i64 (List.replicate 17 0)) 3)) := by kernel_rfl
theorem mk40 (w : World) : (Instr.makeSlice 50 (.int .i64 40) (.int .i64 40)).run Try.prog w = .ok (.slice (some ⟨w.heap.size, 0, none⟩) 40 40) (w.alloc (.cells (ints .i64 (List.replicate 40 0)) 3)) := by kernel_rfl
theorem wl_mkI {ops : Array Oper} {rest : List Oper} {o : Oper} {a : Act} {w : World} {Q : Exit → Act → World → Prop} (n : Nat) (Z : List Nat) (hZ : Z = List.replicate n 0) (hw : Region.wanted o (yielded ops a.tmps) = true) (ho : o.op = .makeSlice 50 (.const (.int .i64 (n : Int))) (.const (.int .i64 (n : Int)))) (hm : (Instr.makeSlice 50 (.int .i64 (n : Int)) (.int .i64 (n : Int))).run Try.prog w = .ok (.slice (some ⟨w.heap.size, 0, none⟩) n n) (w.alloc (.cells (ints .i64 (List.replicate n 0)) 3)))
    (h : wpList Try.prog ops Q rest (a.put o.dst (.slice (some ⟨w.heap.size, 0, none⟩) n n)) (w.alloc (.cells (ints .i64 Z) 3))) : wpList Try.prog ops Q (o :: rest) a w :=
  BigFrame.wpList_want hw fun K hK => by
    have e3 : a.eval (.const (.int .i64 (n : Int))) = .int .i64 (n : Int) := rfl
    unfold Oper.wp execOp
    simp only [ho, e3]
    simp only [Sem.run_bind, hm, Result.andThen_ok, Sem.run_pure]
    rw [← hZ]
    exact hK _ _ h
theorem digs_zero (n : Nat) : digs 0 n = List.replicate n 0 := by
  apply List.ext_getElem?
  intro i
  by_cases hi : i < n
  · rw [digs_get _ _ _ hi, List.getElem?_replicate, if_pos hi, Nat.zero_div]
  · rw [List.getElem?_eq_none (by rw [digs_len]; omega), List.getElem?_eq_none (by rw [List.length_replicate]; omega)]
end Go.Proofs.Ytfcinakpdnblfaa.sh
