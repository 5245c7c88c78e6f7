/-
  Texts as one: codec.Join.
-/
import Derived.Test.YtfkpbmkhkhnehaaCC
namespace Go.Proofs.Ytfkpbmkhkhnehaa.sh
open Go Go.RowKit
set_option linter.unusedVariables false
set_option linter.unusedSimpArgs false

/-- What Join answers: bytes, an error's number. -/
def joinS (k : Nat) (ll : List (List Nat)) : List Nat := if Fits ll then joinL k ll else []
def joinE (ll : List (List Nat)) : Nat := if Fits ll then 0 else 3
theorem joinS_fits {k : Nat} {ll : List (List Nat)} (h : Fits ll) : joinS k ll = joinL k ll := if_pos h
theorem joinE_fits {ll : List (List Nat)} (h : Fits ll) : joinE ll = 0 := if_pos h
theorem joinS_not {k : Nat} {ll : List (List Nat)} (h : ¬ Fits ll) : joinS k ll = [] := if_neg h
theorem joinE_not {ll : List (List Nat)} (h : ¬ Fits ll) : joinE ll = 3 := if_neg h
theorem run_shr8 {o : Oper} {a : Act} {x : Operand} {m z : Nat} {u : TypeId} (ho : o.op = .binOp .shr 3 x (.const (.int .u64 8)) u) (hx : a.eval x = .int .i64 (m : Int)) (hz : z = m / 256) (hm : m < 4611686018427387904) (w : World) : (execOp a.eval o).run Try.prog w = .ok (.value (.int .i64 (z : Int))) w := by
  have e3 : a.eval (.const (.int .u64 8)) = .int .u64 8 := rfl
  have h3 : (m : Int) / 256 = (z : Int) := by omega
  unfold execOp
  simp only [ho, hx, e3]
  simp [go_sem, Op.shift, IntKind.bits, IntKind.wrap_i64, wrap64, Int.fdiv_eq_ediv_of_nonneg _ (show (0 : Int) ≤ 256 by decide), h3]
  try omega
theorem snoc_bytes {l : List Nat} {x : Nat} (h : Bytes l) (hx : x < 256) : Bytes (l ++ [x]) := h.append (bytes_of_all (fun y hy => by simp at hy; omega))

set_option maxRecDepth 100000 in
set_option maxHeartbeats 2000000 in
theorem JoinD {k : Nat} {ll : List (List Nat)} {v : Value} {w : World} (hk : k < 256) (hv : ValsV v w (strs ll)) (hl : ∀ l ∈ ll, Bytes l ∧ l.length ≤ maxLen) :
    Calls Try.prog 12 #[.int .u8 (k : Int), v] w fun e w' => e = .returned (.tuple #[.string (strOf (joinS k ll)), .int .i64 (joinE ll : Int)]) ∧ Below w.heap.size w w' := by
  have KS : Kept (∀ w2, Below w.heap.size w w2 → Calls Try.prog 22 #[v] w2 fun e w' => (∃ n : Nat, e = .returned (.tuple #[.int .i64 (n : Int), .bool (decide (Fits ll))]) ∧ (Fits ll → n = (itemsL ll).length + 3)) ∧ w' = w2) := ⟨fun w2 h => sizeOfD (hv.under h) fun l hm => (hl l hm).2⟩
  by_cases hF : Fits ll
  · rw [joinS_fits hF, joinE_fits hF]
    rw [decide_eq_true hF] at KS
    have HJ : Kept (Bytes (joinL k ll)) := ⟨joinL_bytes hk (fun l hm => (hl l hm).1) hF⟩
    have HF : Kept _ := ⟨hF⟩
    have hn255 : ll.length ≤ 255 := hF.1
    obtain ⟨p, c, rfl, hc⟩ := vals_form hv (strs_len ll)
    obtain ⟨n, hn⟩ : ∃ n, n = ll.length := ⟨_, rfl⟩
    rw [← hn] at hv hc KS hn255 ⊢
    obtain ⟨J, hJ⟩ : ∃ J, J = joinL k ll := ⟨_, rfl⟩
    rw [← hJ] at HJ ⊢
    have EJ : Kept _ := ⟨hJ⟩
    have HN : Kept _ := ⟨hn⟩
    have HV : Kept _ := ⟨hv⟩
    have HL : Kept _ := ⟨hl⟩
    clear hJ hn hv hl hF
    go_enter Try.func12, Try.ntmps12
    go_wp2_with fail
    refine (KS.out _ (Below.refl _ _)).mono ?_
    rintro e w1 ⟨⟨m, rfl, hm⟩, hw1⟩
    obtain rfl := hw1.symm
    have hm' := hm HF.out
    have hmB : m ≤ 281474976710656 := by have := HF.out.2.2; omega
    clear hm hm' KS
    go_wp2_with fail
    refine (bGrow w (Nat.le_refl _) hmB).mono ?_
    rintro e w2 ⟨rfl, b2, q2⟩
    clear hmB
    go_wp2_with fail
    refine (bByte (c := 1) b2 (by decide) q2.size).mono ?_
    rintro e w3 ⟨rfl, b3, q3⟩
    replace q3 := q2.trans q3
    clear b2 q2
    go_wp2_with fail
    refine (bByte (c := k) b3 (by simp) q3.size).mono ?_
    rintro e w4 ⟨rfl, b4, q4⟩
    replace q4 := q3.trans q4
    clear b3 q3
    have n256 : n < 256 := by omega
    go_wp2_with (first | ((with_reducible refine wv_val (d := 25) ?hd ?hw (.int .u8 (n : Int)) ?hr ?_); (case hd => rfl); (case hw => kernel_rfl); (case hr => intro w; exact run_c38 rfl (by kernel_rfl) n256 w); simp only [Act.put, List.setIfInBounds_toArray, List.set_cons_succ, List.set_cons_zero]))
    refine (bByte (c := n) b4 (by simp) q4.size).mono ?_
    rintro e w5 ⟨rfl, b5, q5⟩
    replace q5 := q4.trans q5
    have b5' : Bld w.heap.size w.heap.size (1 :: k :: n :: itemsL (ll.take 0)) w5 := by simpa [itemsL] using b5
    clear b4 q4 b5
    go_wp2_with fail
    go_loopg [29] n (fun g s29 wr => ∃ i : Nat, i + g = n ∧ s29 = .int .i64 (i : Int) ∧ Bld w.heap.size w.heap.size (1 :: k :: n :: itemsL (ll.take i)) wr ∧ Below w.heap.size w wr)
    case atStart => exact ⟨0, by omega, rfl, b5', q5⟩
    case round =>
      rename World => wz
      obtain ⟨i, hik, rfl, bi, qi⟩ := hrel
      clear b5' q5
      by_cases hk0 : gk = 0
      · obtain rfl : n = i := by omega
        have e1 : (1 :: k :: n :: itemsL (ll.take n)) = J := by rw [EJ.out, List.take_of_length_le (by rw [← HN.out]; exact Nat.le_refl _)]; unfold joinL; rw [← HN.out]
        rw [e1] at bi
        clear e1
        go_wp2_with fail
        refine (bString bi HJ.out qi.size).mono ?_
        rintro e w6 ⟨rfl, q6⟩
        go_wp2_with fail
        go_ret2
        exact ⟨rfl, qi.trans q6⟩
      · have hin : i < n := by omega
        have hin' : (i : Int) < (n : Int) := by omega
        obtain ⟨l, h1, h2, h3⟩ := strs_put (show i < ll.length by rw [← HN.out]; exact hin)
        obtain ⟨A, rfl, hA, hcell⟩ := vals_at (HV.out.under qi) h2
        have KC : Kept _ := ⟨hcell⟩
        obtain ⟨z, hz⟩ : ∃ z, z = l.length := ⟨_, rfl⟩
        have KZ : Kept _ := ⟨hz⟩
        have KL : Kept _ := ⟨h1⟩
        have hm := items_takeB (ll := ll) (i := i) (by omega) (fun x hx => HF.out.2.1 x (List.mem_of_mem_take hx))
        have hz4 : z ≤ 4000 := by rw [hz]; exact HF.out.2.1 l h3
        have hlB : Kept (Bytes l) := ⟨(HL.out l h3).1⟩
        have KI : Kept (itemsL (ll.take (i + 1)) = itemsL (ll.take i) ++ itemL l) := ⟨items_take h1⟩
        obtain ⟨x, hx⟩ : ∃ x, x = z / 256 := ⟨_, rfl⟩
        obtain ⟨y, hy⟩ : ∃ y, y = z % 256 := ⟨_, rfl⟩
        have KI2 : Kept (itemL l = x :: y :: l) := ⟨by unfold itemL; rw [← hz, hx, hy]⟩
        have KX : Kept _ := ⟨hx⟩
        have KY : Kept _ := ⟨hy⟩
        have hx8 : x < 256 := by omega
        have hz62 : z < 4611686018427387904 := by omega
        obtain ⟨T, hT⟩ : ∃ T, T = itemsL (ll.take i) := ⟨_, rfl⟩
        rw [← hT] at bi hm KI
        clear h1 h2 h3 hcell hz hx hy hT
        go_wp2_with (first | ((with_reducible refine wv_val (d := 31) ?hd ?hw (.pointer (some (A.add i))) ?hr ?_); (case hd => rfl); (case hw => kernel_rfl); (case hr => intro w; exact run_idxS rfl (by kernel_rfl) (by kernel_rfl) Try.underlying22 hin Try.sizeOf9 w); simp only [Act.put, List.setIfInBounds_toArray, List.set_cons_succ, List.set_cons_zero]) | ((with_reducible refine wv_elem (d := 32) ?hd ?hw 9 ag_str (.tmp 31) ?ho (A.add i) ?hx (.string (strOf l)) ?hc ?_); (case hd => rfl); (case hw => kernel_rfl); (case ho => rfl); (case hx => kernel_rfl); (case hc => exact KC.out); simp only [Act.put, List.setIfInBounds_toArray, List.set_cons_succ, List.set_cons_zero]) | ((with_reducible refine wv_val (d := 34) ?hd ?hw (.int .i64 (z : Int)) ?hr ?_); (case hd => rfl); (case hw => kernel_rfl); (case hr => intro w; exact run_slen rfl (by kernel_rfl) KZ.out w); simp only [Act.put, List.setIfInBounds_toArray, List.set_cons_succ, List.set_cons_zero]) | ((with_reducible refine wv_val (d := 35) ?hd ?hw (.int .i64 (x : Int)) ?hr ?_); (case hd => rfl); (case hw => kernel_rfl); (case hr => intro w; exact run_shr8 rfl (by kernel_rfl) KX.out hz62 w); simp only [Act.put, List.setIfInBounds_toArray, List.set_cons_succ, List.set_cons_zero]) | ((with_reducible refine wv_val (d := 36) ?hd ?hw (.int .u8 (x : Int)) ?hr ?_); (case hd => rfl); (case hw => kernel_rfl); (case hr => intro w; exact run_c38 rfl (by kernel_rfl) hx8 w); simp only [Act.put, List.setIfInBounds_toArray, List.set_cons_succ, List.set_cons_zero]))
        refine (bByte (c := x) bi (by simp; omega) qi.size).mono ?_
        rintro e w6 ⟨rfl, b6, q6⟩
        replace q6 := qi.trans q6
        clear bi qi KC
        go_wp2_with (first | ((with_reducible refine wv_val (d := 39) ?hd ?hw (.int .i64 (z : Int)) ?hr ?_); (case hd => rfl); (case hw => kernel_rfl); (case hr => intro w; exact run_slen rfl (by kernel_rfl) KZ.out w); simp only [Act.put, List.setIfInBounds_toArray, List.set_cons_succ, List.set_cons_zero]) | ((with_reducible refine wv_val (d := 40) ?hd ?hw (.int .u8 (y : Int)) ?hr ?_); (case hd => rfl); (case hw => kernel_rfl); (case hr => intro w; exact run_conv38 rfl (by kernel_rfl) KY.out w); simp only [Act.put, List.setIfInBounds_toArray, List.set_cons_succ, List.set_cons_zero]))
        refine (bByte (c := y) b6 (by simp; omega) q6.size).mono ?_
        rintro e w7 ⟨rfl, b7, q7⟩
        replace q7 := q6.trans q7
        clear b6 q6
        go_wp2_with fail
        refine (bStr b7 hlB.out (by simp; have := KZ.out; omega) q7.size).mono ?_
        rintro e w8 ⟨⟨r8, rfl⟩, b8, q8⟩
        replace q8 := q7.trans q8
        have e8 : (1 :: k :: n :: T) ++ [x] ++ [y] ++ l = 1 :: k :: n :: itemsL (ll.take (i + 1)) := by rw [KI.out, KI2.out]; simp
        rw [e8] at b8
        clear b7 q7 e8
        go_wp2_with fail
        go_roundg (gk - 1)
        case measure => omega
        case rel => exact ⟨i + 1, by omega, by simp, b8, q8⟩
  · rw [joinS_not hF, joinE_not hF]
    rw [decide_eq_false hF] at KS
    clear hv hl
    go_enter Try.func12, Try.ntmps12
    go_wp2_with fail
    refine (KS.out _ (Below.refl _ _)).mono ?_
    rintro e w1 ⟨⟨m, rfl, hm⟩, hw1⟩
    obtain rfl := hw1.symm
    clear hm
    go_wp2_with fail
    go_ret2
    exact ⟨rfl, Below.refl _ _⟩
end Go.Proofs.Ytfkpbmkhkhnehaa.sh
