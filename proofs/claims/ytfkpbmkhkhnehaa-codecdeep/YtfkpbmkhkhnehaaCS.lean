/-
  CodecNumbers.
-/
import Derived.Test.YtfkpbmkhkhnehaaCR
namespace Go.Proofs.Ytfkpbmkhkhnehaa.sh
open Go Go.RowKit
set_option linter.unusedVariables false
set_option linter.unusedSimpArgs false

theorem run_eqL {o : Oper} {a : Act} {x y : Operand} {m n : Nat} {b : Bool} (ho : o.op = .binOp .eql 39 x y 39) (hx : a.eval x = .int .u64 (m : Int)) (hy : a.eval y = .int .u64 (n : Int)) (hb : b = decide (m = n)) (w : World) : (execOp a.eval o).run Try.prog w = .ok (.value (.bool b)) w := by
  unfold execOp
  simp only [ho, hx, hy]
  rw [hb]
  by_cases h : m = n
  · subst h; simp [go_sem]
  · have h2 : ¬ (m : Int) = (n : Int) := by omega
    simp [go_sem, h, h2]
theorem run_ltL {o : Oper} {a : Act} {x y : Operand} {m n : Nat} {b : Bool} (ho : o.op = .binOp .lss 39 x y 39) (hx : a.eval x = .int .u64 (m : Int)) (hy : a.eval y = .int .u64 (n : Int)) (hb : b = decide (m < n)) (w : World) : (execOp a.eval o).run Try.prog w = .ok (.value (.bool b)) w := by
  unfold execOp
  simp only [ho, hx, hy]
  rw [hb]
  by_cases h : m < n
  · have h2 : (m : Int) < (n : Int) := by omega
    simp [go_sem, h, h2]
  · have h2 : ¬ (m : Int) < (n : Int) := by omega
    simp [go_sem, h, h2]
theorem run_eqB {o : Oper} {a : Act} {x y : Operand} {b : Bool} (ho : o.op = .binOp .eql 4 x y 4) (hx : a.eval x = .bool b) (hy : a.eval y = .bool b) (w : World) : (execOp a.eval o).run Try.prog w = .ok (.value (.bool true)) w := by
  unfold execOp
  simp only [ho, hx, hy]
  simp [go_sem]
theorem reads_num (n : Nat) (h : n < 18446744073709551616) : rdV (numL n) = n ∧ rdE (numL n) = 0 := by
  have hR : Reads (numL n) := ⟨numL_len n, numL_head n h⟩
  unfold rdV rdE
  rw [if_pos hR, if_pos hR]
  exact ⟨numL_read n h, rfl⟩
set_option maxRecDepth 100000 in
set_option maxHeartbeats 4000000 in
theorem numbers8 (n0 m0 : Int) (s : List Nat) (w : World) (hn0 : (Lit.int .u64 n0).wf = true) (hm0 : (Lit.int .u64 m0).wf = true) (hs : Bytes s) (hL : s.length ≤ maxLen) :
    Calls Try.prog 5 #[.int .u64 n0, .int .u64 m0, .string (strOf s)] w fun e w' => e = .returned (.bool true) ∧ Below w.heap.size w w' := by
  obtain ⟨n, rfl, hn⟩ := nat_of_u64 hn0
  obtain ⟨m, rfl, hm⟩ := nat_of_u64 hm0
  have CA := alive8 w
  obtain ⟨l, hl⟩ : ∃ m, m = s.length := ⟨_, rfl⟩
  have KM : Kept _ := ⟨hl⟩
  have YS : Kept _ := ⟨hs⟩
  have HLs : Kept _ := ⟨hL⟩
  clear hs hL hn0 hm0
  by_cases hb : 40000 < l
  case pos =>
    have hb' : (40000 : Int) < (l : Int) := by omega
    clear hl
    go_enter Try.func5, Try.ntmps5
    go_wp2_with fail
    refine CA.mono ?_
    rintro e w1 ⟨rfl, q1⟩
    go_wp2_with (first | ((with_reducible refine wv_val (d := 19) ?hd ?hw (.int .i64 (l : Int)) ?hr ?_); (case hd => rfl); (case hw => kernel_rfl); (case hr => intro w; exact run_slen rfl (by kernel_rfl) KM.out w); simp only [Act.put, List.setIfInBounds_toArray, List.set_cons_succ, List.set_cons_zero]))
    go_ret
    exact ⟨rfl, q1⟩
  case neg =>
    have hb' : ¬ (40000 : Int) < (l : Int) := by omega
    have C1 := fun w1 => ReadD (w := w1) YS.out HLs.out
    have C2 := fun w1 => rReadD (w := w1) YS.out (by omega)
    have C3 := fun w1 => NumD (w := w1) hn
    have C4 := fun w1 => NumD (w := w1) hm
    have C5 := fun w1 => ReadD (s := numL n) (w := w1) (numL_bytes n) (Nat.le_trans (numL_len n) (by decide))
    have C6 := fun w1 => rNumD (w := w1) hn
    rw [(reads_num n hn).1, (reads_num n hn).2] at C5
    have hless := numL_less n m hn hm
    have YA : Kept _ := ⟨numL_bytes n⟩
    have YB : Kept _ := ⟨numL_bytes m⟩
    obtain ⟨V, hV⟩ : ∃ V, V = rdV s := ⟨_, rfl⟩
    obtain ⟨E, hE⟩ : ∃ V, V = rdE s := ⟨_, rfl⟩
    obtain ⟨A, hA⟩ : ∃ V, V = numL n := ⟨_, rfl⟩
    obtain ⟨B, hB⟩ : ∃ V, V = numL m := ⟨_, rfl⟩
    rw [← hV, ← hE] at C1 C2
    rw [← hA] at C3 C5 C6 YA
    rw [← hB] at C4 YB
    rw [← hA, ← hB] at hless
    obtain ⟨la, hla⟩ : ∃ V, V = A.length := ⟨_, rfl⟩
    obtain ⟨lb, hlb⟩ : ∃ V, V = B.length := ⟨_, rfl⟩
    rw [← hla, ← hlb] at hless
    have HLA : Kept _ := ⟨hla⟩
    have HLB : Kept _ := ⟨hlb⟩
    have hlaB : la ≤ 8 := by rw [hla, hA]; exact numL_len n
    have hlbB : lb ≤ 8 := by rw [hlb, hB]; exact numL_len m
    have KLS : Kept _ := ⟨hless⟩
    have C1 : Kept _ := ⟨C1⟩
    have C2 : Kept _ := ⟨C2⟩
    have C3 : Kept _ := ⟨C3⟩
    have C4 : Kept _ := ⟨C4⟩
    have C5 : Kept _ := ⟨C5⟩
    have C6 : Kept _ := ⟨C6⟩
    have KA : Kept (true = decide (A = A)) := ⟨by simp⟩
    have KV : Kept (true = decide (V = V)) := ⟨by simp⟩
    have KE : Kept (true = decide ((E : Int) = (E : Int))) := ⟨by simp⟩
    have KN : Kept (true = decide (n = n)) := ⟨by simp⟩
    clear hl hV hE hA hB hla hlb hless hn hm
    go_enter Try.func5, Try.ntmps5
    go_wp2_with fail
    refine CA.mono ?_
    rintro e w1 ⟨rfl, q1⟩
    go_wp2_with (first | ((with_reducible refine wv_val (d := 19) ?hd ?hw (.int .i64 (l : Int)) ?hr ?_); (case hd => rfl); (case hw => kernel_rfl); (case hr => intro w; exact run_slen rfl (by kernel_rfl) KM.out w); simp only [Act.put, List.setIfInBounds_toArray, List.set_cons_succ, List.set_cons_zero]))
    refine (C1.out w1).mono ?_
    rintro e w2 ⟨rfl, hw2⟩
    obtain rfl := hw2.symm
    go_wp2_with fail
    refine (C2.out w1).mono ?_
    rintro e w3 ⟨rfl, q3⟩
    replace q3 := q1.trans (q3.mono q1.size)
    go_wp2_with fail
    refine (C3.out w3).mono ?_
    rintro e w4 ⟨rfl, q4⟩
    replace q4 := q3.trans (q4.mono q3.size)
    go_wp2_with fail
    refine (C5.out w4).mono ?_
    rintro e w5 ⟨rfl, hw5⟩
    obtain rfl := hw5.symm
    go_wp2_with fail
    refine (C3.out w4).mono ?_
    rintro e w6 ⟨rfl, q6⟩
    replace q6 := q4.trans (q6.mono q4.size)
    go_wp2_with fail
    refine (C4.out w6).mono ?_
    rintro e w7 ⟨rfl, q7⟩
    replace q7 := q6.trans (q7.mono q6.size)
    clear CA C1 C2 C4 C5
    by_cases h1 : la < lb
    case pos =>
      have h1' : (la : Int) < (lb : Int) := by omega
      have KL : Kept (true = decide (n < m)) := ⟨by rw [← KLS.out, decide_eq_true h1]; rfl⟩
      go_wp2_with (first | ((with_reducible refine wv_val (d := 42) ?hd ?hw (.int .i64 (la : Int)) ?hr ?_); (case hd => rfl); (case hw => kernel_rfl); (case hr => intro w; exact run_slen rfl (by kernel_rfl) HLA.out w); simp only [Act.put, List.setIfInBounds_toArray, List.set_cons_succ, List.set_cons_zero]) | ((with_reducible refine wv_val (d := 44) ?hd ?hw (.int .i64 (lb : Int)) ?hr ?_); (case hd => rfl); (case hw => kernel_rfl); (case hr => intro w; exact run_slen rfl (by kernel_rfl) HLB.out w); simp only [Act.put, List.setIfInBounds_toArray, List.set_cons_succ, List.set_cons_zero]))
      refine (C3.out w7).mono ?_
      rintro e w8 ⟨rfl, q8⟩
      replace q8 := q7.trans (q8.mono q7.size)
      go_wp2_with fail
      refine (C6.out w8).mono ?_
      rintro e w9 ⟨rfl, q9⟩
      replace q9 := q8.trans (q9.mono q8.size)
      go_wp2_with (first | ((with_reducible refine wv_val (d := 62) ?hd ?hw (.bool true) ?hr ?_); (case hd => rfl); (case hw => kernel_rfl); (case hr => intro w; exact run_seq rfl (by kernel_rfl) (by kernel_rfl) YA.out YA.out KA.out w); simp only [Act.put, List.setIfInBounds_toArray, List.set_cons_succ, List.set_cons_zero]) | ((with_reducible refine wv_val (d := 66) ?hd ?hw (.bool true) ?hr ?_); (case hd => rfl); (case hw => kernel_rfl); (case hr => intro w; exact run_eqL rfl (by kernel_rfl) (by kernel_rfl) KV.out w); simp only [Act.put, List.setIfInBounds_toArray, List.set_cons_succ, List.set_cons_zero]) | ((with_reducible refine wv_val (d := 71) ?hd ?hw (.bool true) ?hr ?_); (case hd => rfl); (case hw => kernel_rfl); (case hr => intro w; exact run_eqII rfl (by kernel_rfl) (by kernel_rfl) KE.out w); simp only [Act.put, List.setIfInBounds_toArray, List.set_cons_succ, List.set_cons_zero]) | ((with_reducible refine wv_val (d := 76) ?hd ?hw (.bool true) ?hr ?_); (case hd => rfl); (case hw => kernel_rfl); (case hr => intro w; exact run_eqL rfl (by kernel_rfl) (by kernel_rfl) KN.out w); simp only [Act.put, List.setIfInBounds_toArray, List.set_cons_succ, List.set_cons_zero]) | ((with_reducible refine wv_val (d := 86) ?hd ?hw (.bool true) ?hr ?_); (case hd => rfl); (case hw => kernel_rfl); (case hr => intro w; exact run_ltL rfl (by kernel_rfl) (by kernel_rfl) KL.out w); simp only [Act.put, List.setIfInBounds_toArray, List.set_cons_succ, List.set_cons_zero]) | ((with_reducible refine wv_val (d := 87) ?hd ?hw (.bool true) ?hr ?_); (case hd => rfl); (case hw => kernel_rfl); (case hr => intro w; exact run_eqB rfl (by kernel_rfl) (by kernel_rfl) w); simp only [Act.put, List.setIfInBounds_toArray, List.set_cons_succ, List.set_cons_zero]))
      go_ret
      exact ⟨rfl, q9⟩
    case neg =>
      have h1' : ¬ (la : Int) < (lb : Int) := by omega
      by_cases h2 : la = lb
      case pos =>
        obtain ⟨b, hb2⟩ : ∃ b, b = lessL A B := ⟨_, rfl⟩
        have KB : Kept _ := ⟨hb2⟩
        have KQ : Kept (true = decide ((la : Int) = (lb : Int))) := ⟨(decide_eq_true (by omega)).symm⟩
        have KL : Kept (b = decide (n < m)) := ⟨by rw [← KLS.out, decide_eq_false h1, decide_eq_true h2, hb2]; rfl⟩
        clear hb2 h2
        go_wp2_with (first | ((with_reducible refine wv_val (d := 42) ?hd ?hw (.int .i64 (la : Int)) ?hr ?_); (case hd => rfl); (case hw => kernel_rfl); (case hr => intro w; exact run_slen rfl (by kernel_rfl) HLA.out w); simp only [Act.put, List.setIfInBounds_toArray, List.set_cons_succ, List.set_cons_zero]) | ((with_reducible refine wv_val (d := 44) ?hd ?hw (.int .i64 (lb : Int)) ?hr ?_); (case hd => rfl); (case hw => kernel_rfl); (case hr => intro w; exact run_slen rfl (by kernel_rfl) HLB.out w); simp only [Act.put, List.setIfInBounds_toArray, List.set_cons_succ, List.set_cons_zero]) | ((with_reducible refine wv_val (d := 48) ?hd ?hw (.int .i64 (la : Int)) ?hr ?_); (case hd => rfl); (case hw => kernel_rfl); (case hr => intro w; exact run_slen rfl (by kernel_rfl) HLA.out w); simp only [Act.put, List.setIfInBounds_toArray, List.set_cons_succ, List.set_cons_zero]) | ((with_reducible refine wv_val (d := 50) ?hd ?hw (.int .i64 (lb : Int)) ?hr ?_); (case hd => rfl); (case hw => kernel_rfl); (case hr => intro w; exact run_slen rfl (by kernel_rfl) HLB.out w); simp only [Act.put, List.setIfInBounds_toArray, List.set_cons_succ, List.set_cons_zero]) | ((with_reducible refine wv_val (d := 51) ?hd ?hw (.bool true) ?hr ?_); (case hd => rfl); (case hw => kernel_rfl); (case hr => intro w; exact run_eqII rfl (by kernel_rfl) (by kernel_rfl) KQ.out w); simp only [Act.put, List.setIfInBounds_toArray, List.set_cons_succ, List.set_cons_zero]) | ((with_reducible refine wv_val (d := 55) ?hd ?hw (.bool b) ?hr ?_); (case hd => rfl); (case hw => kernel_rfl); (case hr => intro w; exact run_sless rfl (by kernel_rfl) (by kernel_rfl) YA.out YB.out KB.out w); simp only [Act.put, List.setIfInBounds_toArray, List.set_cons_succ, List.set_cons_zero]))
        refine (C3.out w7).mono ?_
        rintro e w8 ⟨rfl, q8⟩
        replace q8 := q7.trans (q8.mono q7.size)
        go_wp2_with fail
        refine (C6.out w8).mono ?_
        rintro e w9 ⟨rfl, q9⟩
        replace q9 := q8.trans (q9.mono q8.size)
        go_wp2_with (first | ((with_reducible refine wv_val (d := 62) ?hd ?hw (.bool true) ?hr ?_); (case hd => rfl); (case hw => kernel_rfl); (case hr => intro w; exact run_seq rfl (by kernel_rfl) (by kernel_rfl) YA.out YA.out KA.out w); simp only [Act.put, List.setIfInBounds_toArray, List.set_cons_succ, List.set_cons_zero]) | ((with_reducible refine wv_val (d := 66) ?hd ?hw (.bool true) ?hr ?_); (case hd => rfl); (case hw => kernel_rfl); (case hr => intro w; exact run_eqL rfl (by kernel_rfl) (by kernel_rfl) KV.out w); simp only [Act.put, List.setIfInBounds_toArray, List.set_cons_succ, List.set_cons_zero]) | ((with_reducible refine wv_val (d := 71) ?hd ?hw (.bool true) ?hr ?_); (case hd => rfl); (case hw => kernel_rfl); (case hr => intro w; exact run_eqII rfl (by kernel_rfl) (by kernel_rfl) KE.out w); simp only [Act.put, List.setIfInBounds_toArray, List.set_cons_succ, List.set_cons_zero]) | ((with_reducible refine wv_val (d := 76) ?hd ?hw (.bool true) ?hr ?_); (case hd => rfl); (case hw => kernel_rfl); (case hr => intro w; exact run_eqL rfl (by kernel_rfl) (by kernel_rfl) KN.out w); simp only [Act.put, List.setIfInBounds_toArray, List.set_cons_succ, List.set_cons_zero]) | ((with_reducible refine wv_val (d := 86) ?hd ?hw (.bool b) ?hr ?_); (case hd => rfl); (case hw => kernel_rfl); (case hr => intro w; exact run_ltL rfl (by kernel_rfl) (by kernel_rfl) KL.out w); simp only [Act.put, List.setIfInBounds_toArray, List.set_cons_succ, List.set_cons_zero]) | ((with_reducible refine wv_val (d := 87) ?hd ?hw (.bool true) ?hr ?_); (case hd => rfl); (case hw => kernel_rfl); (case hr => intro w; exact run_eqB rfl (by kernel_rfl) (by kernel_rfl) w); simp only [Act.put, List.setIfInBounds_toArray, List.set_cons_succ, List.set_cons_zero]))
        go_ret
        exact ⟨rfl, q9⟩
      case neg =>
        have KQ : Kept (false = decide ((la : Int) = (lb : Int))) := ⟨(decide_eq_false (by omega)).symm⟩
        have KL : Kept (false = decide (n < m)) := ⟨by rw [← KLS.out, decide_eq_false h1, decide_eq_false h2]; rfl⟩
        go_wp2_with (first | ((with_reducible refine wv_val (d := 42) ?hd ?hw (.int .i64 (la : Int)) ?hr ?_); (case hd => rfl); (case hw => kernel_rfl); (case hr => intro w; exact run_slen rfl (by kernel_rfl) HLA.out w); simp only [Act.put, List.setIfInBounds_toArray, List.set_cons_succ, List.set_cons_zero]) | ((with_reducible refine wv_val (d := 44) ?hd ?hw (.int .i64 (lb : Int)) ?hr ?_); (case hd => rfl); (case hw => kernel_rfl); (case hr => intro w; exact run_slen rfl (by kernel_rfl) HLB.out w); simp only [Act.put, List.setIfInBounds_toArray, List.set_cons_succ, List.set_cons_zero]) | ((with_reducible refine wv_val (d := 48) ?hd ?hw (.int .i64 (la : Int)) ?hr ?_); (case hd => rfl); (case hw => kernel_rfl); (case hr => intro w; exact run_slen rfl (by kernel_rfl) HLA.out w); simp only [Act.put, List.setIfInBounds_toArray, List.set_cons_succ, List.set_cons_zero]) | ((with_reducible refine wv_val (d := 50) ?hd ?hw (.int .i64 (lb : Int)) ?hr ?_); (case hd => rfl); (case hw => kernel_rfl); (case hr => intro w; exact run_slen rfl (by kernel_rfl) HLB.out w); simp only [Act.put, List.setIfInBounds_toArray, List.set_cons_succ, List.set_cons_zero]) | ((with_reducible refine wv_val (d := 51) ?hd ?hw (.bool false) ?hr ?_); (case hd => rfl); (case hw => kernel_rfl); (case hr => intro w; exact run_eqII rfl (by kernel_rfl) (by kernel_rfl) KQ.out w); simp only [Act.put, List.setIfInBounds_toArray, List.set_cons_succ, List.set_cons_zero]))
        refine (C3.out w7).mono ?_
        rintro e w8 ⟨rfl, q8⟩
        replace q8 := q7.trans (q8.mono q7.size)
        go_wp2_with fail
        refine (C6.out w8).mono ?_
        rintro e w9 ⟨rfl, q9⟩
        replace q9 := q8.trans (q9.mono q8.size)
        go_wp2_with (first | ((with_reducible refine wv_val (d := 62) ?hd ?hw (.bool true) ?hr ?_); (case hd => rfl); (case hw => kernel_rfl); (case hr => intro w; exact run_seq rfl (by kernel_rfl) (by kernel_rfl) YA.out YA.out KA.out w); simp only [Act.put, List.setIfInBounds_toArray, List.set_cons_succ, List.set_cons_zero]) | ((with_reducible refine wv_val (d := 66) ?hd ?hw (.bool true) ?hr ?_); (case hd => rfl); (case hw => kernel_rfl); (case hr => intro w; exact run_eqL rfl (by kernel_rfl) (by kernel_rfl) KV.out w); simp only [Act.put, List.setIfInBounds_toArray, List.set_cons_succ, List.set_cons_zero]) | ((with_reducible refine wv_val (d := 71) ?hd ?hw (.bool true) ?hr ?_); (case hd => rfl); (case hw => kernel_rfl); (case hr => intro w; exact run_eqII rfl (by kernel_rfl) (by kernel_rfl) KE.out w); simp only [Act.put, List.setIfInBounds_toArray, List.set_cons_succ, List.set_cons_zero]) | ((with_reducible refine wv_val (d := 76) ?hd ?hw (.bool true) ?hr ?_); (case hd => rfl); (case hw => kernel_rfl); (case hr => intro w; exact run_eqL rfl (by kernel_rfl) (by kernel_rfl) KN.out w); simp only [Act.put, List.setIfInBounds_toArray, List.set_cons_succ, List.set_cons_zero]) | ((with_reducible refine wv_val (d := 86) ?hd ?hw (.bool false) ?hr ?_); (case hd => rfl); (case hw => kernel_rfl); (case hr => intro w; exact run_ltL rfl (by kernel_rfl) (by kernel_rfl) KL.out w); simp only [Act.put, List.setIfInBounds_toArray, List.set_cons_succ, List.set_cons_zero]) | ((with_reducible refine wv_val (d := 87) ?hd ?hw (.bool true) ?hr ?_); (case hd => rfl); (case hw => kernel_rfl); (case hr => intro w; exact run_eqB rfl (by kernel_rfl) (by kernel_rfl) w); simp only [Act.put, List.setIfInBounds_toArray, List.set_cons_succ, List.set_cons_zero]))
        go_ret
        exact ⟨rfl, q9⟩
end Go.Proofs.Ytfkpbmkhkhnehaa.sh
