/-
  What the statements of layer 8 take and compare; CodecKinds.
-/
import Derived.Test.YtfkpbmkhkhnehaaCO
namespace Go.Proofs.Ytfkpbmkhkhnehaa.sh
open Go Go.RowKit
set_option linter.unusedVariables false
set_option linter.unusedSimpArgs false

theorem open_strV {H : Type} {enc : TypeId × Value → H} {W : World} {r : Reach} {b0 base : Nat} {sp : Nat → Bool} {held : Bool} {v : Value} {d : DataW H} {p : List MemPlace}
    (hv : Value.okWide Try.prog W r b0 9 v) (h : DataW.Trod enc Try.prog W base sp held 9 v d p) : ∃ l : List Nat, v = .string (strOf l) ∧ Bytes l ∧ l.length ≤ maxLen := by
  obtain ⟨s, rfl⟩ := WideShapes.okWide_string Try.underlying9 hv
  exact open_str Try.underlying9 rfl h
theorem open_strsV {H : Type} {enc : TypeId × Value → H} {W : World} {r : Reach} {b0 base : Nat} {sp : Nat → Bool} {held : Bool} {v : Value} {d : DataW H} {p : List MemPlace}
    (hv : Value.okWide Try.prog W r b0 22 v) (h : DataW.Trod enc Try.prog W base sp held 22 v d p) : ∃ ll : List (List Nat), ValsV v W (strs ll) ∧ (∀ l ∈ ll, Bytes l ∧ l.length ≤ maxLen) ∧ ll.length ≤ maxLen :=
  open_strs Try.underlying22 Try.underlying9 (by kernel_rfl) hv h
theorem open_a2 {H : Type} {enc : TypeId × Value → H} {W : World} {r : Reach} {b0 base : Nat} {sp : Nat → Bool} {held : Bool} {v : Value} {d : DataW H} {p : List MemPlace}
    (hv : Value.okWide Try.prog W r b0 49 v) (h : DataW.Trod enc Try.prog W base sp held 49 v d p) : ∃ l : List Nat, v = .agg (ints .u8 l) ∧ l.length = 2 ∧ Bytes l :=
  open_arr (B := 256) Try.underlying49 Try.underlying5 (by kernel_rfl) (by kernel_rfl) (fun k hk => by have := bounds_u8 hk; omega) hv h
theorem nat_of_u64 {y : Int} (h : (Lit.int .u64 y).wf = true) : ∃ a : Nat, y = (a : Int) ∧ a < 18446744073709551616 := by
  have := bounds_u64 h
  exact ⟨y.toNat, by omega, by omega⟩
theorem run_eqU {o : Oper} {a : Act} {x y : Operand} {m n : Nat} {b : Bool} (ho : o.op = .binOp .eql 5 x y 5) (hx : a.eval x = .int .u8 (m : Int)) (hy : a.eval y = .int .u8 (n : Int)) (hb : b = decide (m = n)) (w : World) : (execOp a.eval o).run Try.prog w = .ok (.value (.bool b)) w := by
  unfold execOp
  simp only [ho, hx, hy]
  rw [hb]
  by_cases h : m = n
  · subst h; simp [go_sem]
  · have h2 : ¬ (m : Int) = (n : Int) := by omega
    simp [go_sem, h, h2]
theorem run_eqII {o : Oper} {a : Act} {x y : Operand} {m n : Int} {b : Bool} (ho : o.op = .binOp .eql 3 x y 3) (hx : a.eval x = .int .i64 m) (hy : a.eval y = .int .i64 n) (hb : b = decide (m = n)) (w : World) : (execOp a.eval o).run Try.prog w = .ok (.value (.bool b)) w := by
  unfold execOp
  simp only [ho, hx, hy]
  rw [hb]
  by_cases h : m = n
  · subst h; simp [go_sem]
  · simp [go_sem, h]
theorem take_join {k : Nat} {ll : List (List Nat)} (hF : Fits ll) (j : Nat) (n : Int) : takeL (joinL k ll) j n = if k = j ∧ (ll.length : Int) = n then some ll else none := by
  unfold takeL
  rw [splitL_join hF]
  rfl
theorem tkE_join {k : Nat} {ll : List (List Nat)} (hF : Fits ll) (j : Nat) (n : Int) : tkE (joinL k ll) j n = if k = j ∧ (ll.length : Int) = n then 0 else 4 := by
  unfold tkE
  rw [take_join hF]
  by_cases h : k = j ∧ (ll.length : Int) = n
  · rw [if_pos h, if_pos h]; rfl
  · rw [if_neg h, if_neg h]; rfl
theorem tkL_join {k : Nat} {ll : List (List Nat)} (hF : Fits ll) (j : Nat) (n : Int) (h : k = j ∧ (ll.length : Int) = n) : tkL (joinL k ll) j n = ll := by
  unfold tkL
  rw [take_join hF, if_pos h]
  rfl
theorem join_lenB {k : Nat} {ll : List (List Nat)} (hF : Fits ll) : (joinL k ll).length ≤ maxLen := by
  have := hF.2.2
  rw [joinL_len]
  unfold maxLen
  omega
theorem TakeE {s : List Nat} {k : Nat} {n : Int} {w : World} {r : Nat} (hs : Bytes s) (hL : s.length ≤ maxLen) (hr : tkE s k n = r) :
    Calls Try.prog 15 #[.string (strOf s), .int .u8 (k : Int), .int .i64 n] w fun e w' => (∃ V, e = .returned (.tuple #[V, .int .i64 (r : Int)]) ∧ VRow w.heap.size 9 (strs (tkL s k n)) V w') ∧ Below w.heap.size w w' := by
  rw [← hr]
  exact TakeD hs hL

set_option maxRecDepth 100000 in
set_option maxHeartbeats 4000000 in
theorem kinds8 (k0 o0 : Int) (v : Value) (ll : List (List Nat)) (w : World) (hk0 : (Lit.int .u8 k0).wf = true) (ho0 : (Lit.int .u8 o0).wf = true) (hv : ValsV v w (strs ll)) (hl : ∀ l ∈ ll, Bytes l ∧ l.length ≤ maxLen) (hN : ll.length ≤ maxLen) :
    Calls Try.prog 9 #[.int .u8 k0, .int .u8 o0, v] w fun e w' => e = .returned (.bool true) ∧ Below w.heap.size w w' := by
  obtain ⟨k, rfl, hk⟩ := nat_of_u8 hk0
  obtain ⟨o, rfl, ho⟩ := nat_of_u8 ho0
  have CA := alive8 w
  have CF : Kept (∀ w1, Below w.heap.size w w1 → Calls Try.prog 11 #[v] w1 fun e w' => IsBool e ∧ w' = w1) := ⟨fun w1 h => fewD (hv.under h) hN⟩
  have CJ : Kept (∀ w1, Below w.heap.size w w1 → Calls Try.prog 12 #[.int .u8 (k : Int), v] w1 fun e w' => e = .returned (.tuple #[.string (strOf (joinS k ll)), .int .i64 (joinE ll : Int)]) ∧ Below w1.heap.size w1 w') := ⟨fun w1 h => JoinD hk (hv.under h) hl⟩
  obtain ⟨p, c, rfl, hc⟩ := vals_form hv (strs_len ll)
  obtain ⟨n, hn⟩ : ∃ n, n = ll.length := ⟨_, rfl⟩
  rw [← hn] at hv hc CF CJ hN ⊢
  have HN : Kept _ := ⟨hn⟩
  have HL : Kept _ := ⟨hl⟩
  clear hv hl hn
  go_enter Try.func9, Try.ntmps9
  go_wp2_with fail
  refine CA.mono ?_
  rintro e w1 ⟨rfl, q1⟩
  go_wp2_with fail
  refine (CF.out _ q1).mono ?_
  rintro e w2 ⟨⟨b, rfl⟩, hw2⟩
  obtain rfl := hw2.symm
  cases b with
  | false =>
    go_wp2_with fail
    go_ret
    exact ⟨rfl, q1⟩
  | true =>
    go_wp2_with fail
    refine (CJ.out _ q1).mono ?_
    rintro e w3 ⟨rfl, q3⟩
    replace q3 := q1.trans (q3.mono q1.size)
    clear CA CF CJ
    by_cases hF : Fits ll
    case neg =>
      rw [joinS_not hF, joinE_not hF]
      have KE : Kept (true = decide (([] : List Nat) = [])) := ⟨rfl⟩
      clear hF
      go_wp2_with (first | ((with_reducible refine wv_val (d := 29) ?hd ?hw (.bool true) ?hr ?_); (case hd => rfl); (case hw => kernel_rfl); (case hr => intro w; exact run_seq (l := []) (m := []) rfl (by kernel_rfl) rfl nil_bytes nil_bytes KE.out w); simp only [Act.put, List.setIfInBounds_toArray, List.set_cons_succ, List.set_cons_zero]))
      go_ret
      exact ⟨rfl, q3⟩
    case pos =>
      rw [joinS_fits hF, joinE_fits hF]
      have hn255 : n ≤ 255 := by rw [HN.out]; exact hF.1
      have hy := joinL_bytes hk (fun l hm => (HL.out l hm).1) hF
      have hb := join_lenB (k := k) hF
      obtain ⟨J, hJ⟩ : ∃ J, J = joinL k ll := ⟨_, rfl⟩
      have hT := tkE_join (k := k) hF
      rw [← hJ] at hT hy hb ⊢
      obtain ⟨r1, hr1⟩ : ∃ r1, r1 = tkE J o (n : Int) := ⟨_, rfl⟩
      obtain ⟨n1, hn1⟩ : ∃ n1 : Nat, n1 = n + 1 := ⟨_, rfl⟩
      have T1 := fun w1 => TakeE (w := w1) hy hb hr1.symm
      have T2 := fun w1 => TakeE (w := w1) (k := k) (n := (n1 : Int)) (r := 4) hy hb (by rw [hT, if_neg (by rw [hn1, HN.out]; omega)])
      have T3 := fun w1 => TakeE (w := w1) (k := k) (n := -1) (r := 4) hy hb (by rw [hT, if_neg (by omega)])
      have K1 : Kept ((k = o → r1 = 0) ∧ (k ≠ o → r1 = 4)) := ⟨by
        rw [hr1, hT]
        exact ⟨fun h => if_pos ⟨h, by rw [HN.out]⟩, fun h => if_neg (fun h2 => h h2.1)⟩⟩
      have KN1 : Kept _ := ⟨hn1⟩
      have T1 : Kept _ := ⟨T1⟩
      have T2 : Kept _ := ⟨T2⟩
      have T3 : Kept _ := ⟨T3⟩
      have bn : n1 < 4611686018427387904 := by omega
      clear hT hr1 hn1 hy hb hJ hF
      go_wp2_with fail
      refine (T1.out w3).mono ?_
      rintro e w4 ⟨⟨V4, rfl, _⟩, q4⟩
      replace q4 := q3.trans (q4.mono q3.size)
      go_wp2_with (first | ((with_reducible refine wv_val (d := 43) ?hd ?hw (.int .i64 (n1 : Int)) ?hr ?_); (case hd => rfl); (case hw => kernel_rfl); (case hr => intro w; exact run_addZ 1 rfl (by kernel_rfl) KN1.out bn w); simp only [Act.put, List.setIfInBounds_toArray, List.set_cons_succ, List.set_cons_zero]))
      refine (T2.out w4).mono ?_
      rintro e w5 ⟨⟨V5, rfl, _⟩, q5⟩
      replace q5 := q4.trans (q5.mono q4.size)
      go_wp2_with fail
      refine (T3.out w5).mono ?_
      rintro e w6 ⟨⟨V6, rfl, _⟩, q6⟩
      replace q6 := q5.trans (q6.mono q5.size)
      by_cases hko : k = o
      case pos =>
        have hr := K1.out.1 hko
        subst hr
        have KB : Kept (true = decide (k = o)) := ⟨(decide_eq_true hko).symm⟩
        clear hko K1 T1 T2 T3
        go_wp2_with (first | ((with_reducible refine wv_val (d := 57) ?hd ?hw (.bool true) ?hr ?_); (case hd => rfl); (case hw => kernel_rfl); (case hr => intro w; exact run_eqU rfl (by kernel_rfl) (by kernel_rfl) KB.out w); simp only [Act.put, List.setIfInBounds_toArray, List.set_cons_succ, List.set_cons_zero]))
        go_ret
        exact ⟨rfl, q6⟩
      case neg =>
        have hr := K1.out.2 hko
        subst hr
        have KB : Kept (false = decide (k = o)) := ⟨(decide_eq_false hko).symm⟩
        clear hko K1 T1 T2 T3
        go_wp2_with (first | ((with_reducible refine wv_val (d := 57) ?hd ?hw (.bool false) ?hr ?_); (case hd => rfl); (case hw => kernel_rfl); (case hr => intro w; exact run_eqU rfl (by kernel_rfl) (by kernel_rfl) KB.out w); simp only [Act.put, List.setIfInBounds_toArray, List.set_cons_succ, List.set_cons_zero]))
        go_ret
        exact ⟨rfl, q6⟩
end Go.Proofs.Ytfkpbmkhkhnehaa.sh
