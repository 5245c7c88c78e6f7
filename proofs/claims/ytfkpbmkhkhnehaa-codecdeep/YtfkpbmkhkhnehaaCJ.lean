/-
  codec.Split, codec.Take.
-/
import Derived.Test.YtfkpbmkhkhnehaaCI
namespace Go.Proofs.Ytfkpbmkhkhnehaa.sh
open Go Go.RowKit
set_option linter.unusedVariables false
set_option linter.unusedSimpArgs false

theorem three_of : ∀ {s : List Nat}, ¬ s.length < 3 → ∃ x k n r, s = x :: k :: n :: r
  | [], h => absurd (by decide) h
  | [_], h => absurd (by simp) h
  | [_, _], h => absurd (by simp) h
  | x :: k :: n :: r, _ => ⟨x, k, n, r, rfl⟩
theorem apartD {s : List Nat} {O : Bool} {w : World} (hs : Bytes s) (hL : s.length ≤ 40000) (hO : O = (splitL s).isSome) :
    Calls Try.prog 27 #[.string (strOf s)] w fun e w' => (∃ K V, e = .returned (.tuple #[K, V, .bool O]) ∧ Told w.heap.size s K V w') ∧ Below w.heap.size w w' := by
  by_cases h : s.length < 3
  · have hN := split_short h
    have : O = false := by rw [hO, hN]; rfl
    subst this
    exact (apart_short hs h).mono fun e w' h => h
  · obtain ⟨x, k, n, r, rfl⟩ := three_of h
    · refine (apart_long hs (by simp at hL; omega) hO).mono ?_
      rintro e w' ⟨⟨K, V, rfl, hT⟩, hb⟩
      exact ⟨⟨K, V, rfl, fun k' ll e => ⟨(hT k' ll e).1, (hT k' ll e).2.mono (by omega)⟩⟩, hb⟩
/-- What Split answers: a kind, texts, an error's number. -/
def spK (s : List Nat) : Nat := ((splitL s).map (·.1)).getD 0
def spL (s : List Nat) : List (List Nat) := ((splitL s).map (·.2)).getD []
def spE (s : List Nat) : Nat := if (splitL s).isSome then 0 else 4
theorem split_big {s : List Nat} (hs : Bytes s) (h : 30000 < s.length) : splitL s = none := by
  cases e : splitL s with
  | none => rfl
  | some q =>
    obtain ⟨k, ll⟩ := q
    have := says_len ((splitL_says hs).1 e)
    omega
def SPost (s : List Nat) (w : World) (e : Ending) (w' : World) : Prop := (∃ V, e = .returned (.tuple #[.int .u8 (spK s : Int), V, .int .i64 (spE s : Int)]) ∧ VRow w.heap.size 9 (strs (spL s)) V w') ∧ Below w.heap.size w w'
set_option maxRecDepth 100000 in
set_option maxHeartbeats 1000000 in
theorem SplitD {s : List Nat} {w : World} (hs : Bytes s) (hL : s.length ≤ maxLen) :
    Calls Try.prog 14 #[.string (strOf s)] w fun e w' => SPost s w e w' := by
  have none_post : ∀ w', splitL s = none → Below w.heap.size w w' → SPost s w (.returned (.tuple #[.int .u8 0, .slice none 0 0, .int .i64 4])) w' := fun w' h hb => by
    refine ⟨⟨.slice none 0 0, ?_, ?_⟩, hb⟩
    · unfold spK spE; rw [h]; rfl
    · unfold spL; rw [h]; exact vrow_nil _ _ _
  have KP : Kept _ := ⟨none_post⟩
  clear none_post
  obtain ⟨m, hm⟩ : ∃ m, m = s.length := ⟨_, rfl⟩
  have KM : Kept _ := ⟨hm⟩
  by_cases h : 30000 < s.length
  · have hN := split_big hs h
    have h' : (30000 : Int) < (m : Int) := by omega
    clear hm
    go_enter Try.func14, Try.ntmps14
    go_wp2_with (first | ((with_reducible refine wv_val (d := 9) ?hd ?hw (.int .i64 (m : Int)) ?hr ?_); (case hd => rfl); (case hw => kernel_rfl); (case hr => intro w; exact run_slen rfl (by kernel_rfl) KM.out w); simp only [Act.put, List.setIfInBounds_toArray, List.set_cons_succ, List.set_cons_zero]))
    refine bodyPost_ret (v := .tuple #[.int .u8 0, .slice none 0 0, .int .i64 4]) (by simp [results, Try.results14, go_sem]) rfl ?_
    exact KP.out _ hN (Below.refl _ _)
  · have h' : ¬ (30000 : Int) < (m : Int) := by omega
    have CA := apartD (O := (splitL s).isSome) (w := w) hs (by omega) rfl
    obtain ⟨q, hq⟩ : ∃ q, q = splitL s := ⟨_, rfl⟩
    have KQ : Kept _ := ⟨hq⟩
    rw [← hq] at CA
    clear hm hq
    cases q with
    | none =>
      go_enter Try.func14, Try.ntmps14
      go_wp2_with (first | ((with_reducible refine wv_val (d := 9) ?hd ?hw (.int .i64 (m : Int)) ?hr ?_); (case hd => rfl); (case hw => kernel_rfl); (case hr => intro w; exact run_slen rfl (by kernel_rfl) KM.out w); simp only [Act.put, List.setIfInBounds_toArray, List.set_cons_succ, List.set_cons_zero]))
      refine CA.mono ?_
      rintro e w1 ⟨⟨K, V, rfl, _⟩, hb⟩
      simp only [Option.isSome_none]
      go_wp2_with fail
      refine bodyPost_ret (v := .tuple #[.int .u8 0, .slice none 0 0, .int .i64 4]) (by simp [results, Try.results14, go_sem]) rfl ?_
      exact KP.out _ KQ.out.symm hb
    | some q =>
      obtain ⟨k, ll⟩ := q
      go_enter Try.func14, Try.ntmps14
      go_wp2_with (first | ((with_reducible refine wv_val (d := 9) ?hd ?hw (.int .i64 (m : Int)) ?hr ?_); (case hd => rfl); (case hw => kernel_rfl); (case hr => intro w; exact run_slen rfl (by kernel_rfl) KM.out w); simp only [Act.put, List.setIfInBounds_toArray, List.set_cons_succ, List.set_cons_zero]))
      refine CA.mono ?_
      rintro e w1 ⟨⟨K, V, rfl, hT⟩, hb⟩
      obtain ⟨rfl, hr⟩ := hT k ll KQ.out.symm
      have KR : Kept _ := ⟨hr⟩
      clear hT CA KP hr
      simp only [Option.isSome_some]
      go_wp2_with fail
      refine bodyPost_ret (v := .tuple #[.int .u8 (k : Int), V, .int .i64 0]) (by simp [results, Try.results14, go_sem]) rfl ?_
      refine ⟨⟨V, ?_, ?_⟩, hb⟩
      · unfold spK spE; rw [← KQ.out]; rfl
      · unfold spL; rw [← KQ.out]; exact KR.out
/-- What Take answers. -/
def takeL (s : List Nat) (k : Nat) (n : Int) : Option (List (List Nat)) := (splitL s).bind fun q => if q.1 = k ∧ (q.2.length : Int) = n then some q.2 else none
def tkE (s : List Nat) (k : Nat) (n : Int) : Nat := if (takeL s k n).isSome then 0 else 4
def tkL (s : List Nat) (k : Nat) (n : Int) : List (List Nat) := (takeL s k n).getD []
def TPost (s : List Nat) (k : Nat) (n : Int) (w : World) (e : Ending) (w' : World) : Prop := (∃ V, e = .returned (.tuple #[V, .int .i64 (tkE s k n : Int)]) ∧ VRow w.heap.size 9 (strs (tkL s k n)) V w') ∧ Below w.heap.size w w'
theorem run_neU {o : Oper} {a : Act} {x y : Operand} {m n : Nat} {b : Bool} (ho : o.op = .binOp .neq 5 x y 5) (hx : a.eval x = .int .u8 (m : Int)) (hy : a.eval y = .int .u8 (n : Int)) (hb : b = !decide (m = n)) (w : World) : (execOp a.eval o).run Try.prog w = .ok (.value (.bool b)) w := by
  unfold execOp
  simp only [ho, hx, hy]
  rw [hb]
  by_cases h : m = n
  · subst h; simp [go_sem]
  · have h2 : ¬ (m : Int) = (n : Int) := by omega
    simp [go_sem, h, h2]
theorem run_neI {o : Oper} {a : Act} {x y : Operand} {m n : Int} {b : Bool} (ho : o.op = .binOp .neq 3 x y 3) (hx : a.eval x = .int .i64 m) (hy : a.eval y = .int .i64 n) (hb : b = !decide (m = n)) (w : World) : (execOp a.eval o).run Try.prog w = .ok (.value (.bool b)) w := by
  unfold execOp
  simp only [ho, hx, hy]
  rw [hb]
  by_cases h : m = n
  · subst h; simp [go_sem]
  · have h2 : ¬ (m : Int) = (n : Int) := by omega
    simp [go_sem, h, h2]
set_option maxRecDepth 100000 in
set_option maxHeartbeats 1000000 in
theorem TakeD {s : List Nat} {k : Nat} {n : Int} {w : World} (hs : Bytes s) (hL : s.length ≤ maxLen) :
    Calls Try.prog 15 #[.string (strOf s), .int .u8 (k : Int), .int .i64 n] w fun e w' => TPost s k n w e w' := by
  have CS := SplitD (w := w) hs hL
  have none_post : ∀ w', takeL s k n = none → Below w.heap.size w w' → TPost s k n w (.returned (.tuple #[.slice none 0 0, .int .i64 4])) w' := fun w' h hb => by
    refine ⟨⟨.slice none 0 0, ?_, ?_⟩, hb⟩
    · unfold tkE; rw [h]; rfl
    · unfold tkL; rw [h]; exact vrow_nil _ _ _
  have KP : Kept _ := ⟨none_post⟩
  clear none_post
  unfold SPost spK spL spE at CS
  obtain ⟨q, hq⟩ : ∃ q, q = splitL s := ⟨_, rfl⟩
  have KQ : Kept _ := ⟨hq⟩
  rw [← hq] at CS
  clear hq
  cases q with
  | none =>
    go_enter Try.func15, Try.ntmps15
    go_wp2_with fail
    refine CS.mono ?_
    rintro e w1 ⟨⟨V, rfl, _⟩, hb⟩
    simp only [Option.map_none, Option.getD_none, Option.isSome_none, Bool.false_eq_true, if_false]
    go_wp2_with fail
    go_ret2
    exact KP.out _ (by unfold takeL; rw [← KQ.out]; rfl) hb
  | some q =>
    obtain ⟨k', ll⟩ := q
    go_enter Try.func15, Try.ntmps15
    go_wp2_with fail
    refine CS.mono ?_
    rintro e w1 ⟨⟨V, rfl, hr⟩, hb⟩
    simp only [Option.map_some, Option.getD_some, Option.isSome_some, if_true] at hr ⊢
    obtain ⟨p, c, rfl, hc⟩ := vals_form (vrow_vals hr) (strs_len ll)
    have KR : Kept _ := ⟨hr⟩
    clear hr CS
    by_cases h1 : k' = k
    case neg =>
      have B1 : Kept (true = !decide (k' = k)) := ⟨by rw [decide_eq_false h1]; rfl⟩
      go_wp2_with (first | ((with_reducible refine wv_val (d := 22) ?hd ?hw (.bool true) ?hr ?_); (case hd => rfl); (case hw => kernel_rfl); (case hr => intro w; exact run_neU rfl (by kernel_rfl) (by kernel_rfl) B1.out w); simp only [Act.put, List.setIfInBounds_toArray, List.set_cons_succ, List.set_cons_zero]))
      go_ret2
      exact KP.out _ (by unfold takeL; rw [← KQ.out]; simp [h1]) hb
    case pos =>
      have B1 : Kept (false = !decide (k' = k)) := ⟨by rw [decide_eq_true h1]; rfl⟩
      have H1 : Kept _ := ⟨h1⟩
      clear h1
      by_cases h2 : (ll.length : Int) = n
      case neg =>
        have B2 : Kept (true = !decide ((ll.length : Int) = n)) := ⟨by rw [decide_eq_false h2]; rfl⟩
        have KN : Kept _ := ⟨h2⟩
        clear h2
        go_wp2_with (first | ((with_reducible refine wv_val (d := 22) ?hd ?hw (.bool false) ?hr ?_); (case hd => rfl); (case hw => kernel_rfl); (case hr => intro w; exact run_neU rfl (by kernel_rfl) (by kernel_rfl) B1.out w); simp only [Act.put, List.setIfInBounds_toArray, List.set_cons_succ, List.set_cons_zero]) | ((with_reducible refine wv_val (d := 27) ?hd ?hw (.bool true) ?hr ?_); (case hd => rfl); (case hw => kernel_rfl); (case hr => intro w; exact run_neI rfl (by kernel_rfl) (by kernel_rfl) B2.out w); simp only [Act.put, List.setIfInBounds_toArray, List.set_cons_succ, List.set_cons_zero]))
        go_ret2
        exact KP.out _ (by unfold takeL; rw [← KQ.out]; have := KN.out; simp [this]) hb
      case pos =>
        have B2 : Kept (false = !decide ((ll.length : Int) = n)) := ⟨by rw [decide_eq_true h2]; rfl⟩
        have KT : Kept (takeL s k n = some ll) := ⟨by unfold takeL; rw [← KQ.out]; simp [H1.out, h2]⟩
        clear h2
        go_wp2_with (first | ((with_reducible refine wv_val (d := 22) ?hd ?hw (.bool false) ?hr ?_); (case hd => rfl); (case hw => kernel_rfl); (case hr => intro w; exact run_neU rfl (by kernel_rfl) (by kernel_rfl) B1.out w); simp only [Act.put, List.setIfInBounds_toArray, List.set_cons_succ, List.set_cons_zero]) | ((with_reducible refine wv_val (d := 27) ?hd ?hw (.bool false) ?hr ?_); (case hd => rfl); (case hw => kernel_rfl); (case hr => intro w; exact run_neI rfl (by kernel_rfl) (by kernel_rfl) B2.out w); simp only [Act.put, List.setIfInBounds_toArray, List.set_cons_succ, List.set_cons_zero]))
        go_ret2
        refine ⟨⟨.slice p ll.length c, ?_, ?_⟩, hb⟩
        · unfold tkE; rw [KT.out]; rfl
        · unfold tkL; rw [KT.out]; exact KR.out
end Go.Proofs.Ytfkpbmkhkhnehaa.sh
