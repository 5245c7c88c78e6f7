/-
  How many bytes texts have as one: codec.sizeOf; the statements' few.
-/
import Derived.Test.YtfkpbmkhkhnehaaSE
import Derived.Test.YtfkpbmkhkhnehaaCB
import Derived.Test.YtfkpbmkhkhnehaaBL
namespace Go.Proofs.Ytfkpbmkhkhnehaa.sh
open Go Go.RowKit
set_option linter.unusedVariables false
set_option linter.unusedSimpArgs false

theorem run_nadd {o : Oper} {a : Act} {x y : Operand} {i j z : Nat} (ho : o.op = .binOp .add 3 x y 3) (hx : a.eval x = .int .i64 (i : Int)) (hy : a.eval y = .int .i64 (j : Int)) (hz : z = i + j) (hi : z < 4611686018427387904) (w : World) : (execOp a.eval o).run Try.prog w = .ok (.value (.int .i64 (z : Int))) w := by
  have e : ((i : Int) + (j : Int)) = (z : Int) := by omega
  unfold execOp
  simp only [ho, hx, hy]
  simp [go_sem, IntKind.wrap_i64, e]
  omega
theorem ag_str : ∀ w, (isAgg 9).run Try.prog w = .ok false w := Try.isAgg9
theorem strs_put {ll : List (List Nat)} {i : Nat} (h : i < ll.length) : ∃ l, ll[i]? = some l ∧ (strs ll)[i]? = some (.string (strOf l)) ∧ l ∈ ll := by
  obtain ⟨l, hl⟩ : ∃ l, ll[i]? = some l := ⟨_, List.getElem?_eq_getElem h⟩
  exact ⟨l, hl, strs_get hl, List.mem_of_getElem? hl⟩
theorem items_take {ll : List (List Nat)} {i : Nat} {l : List Nat} (h : ll[i]? = some l) : itemsL (ll.take (i + 1)) = itemsL (ll.take i) ++ itemL l := by
  rw [List.take_add_one, h, Option.toList_some, itemsL_snoc]
theorem items_small : ∀ (ll : List (List Nat)) (b : Nat), (∀ l ∈ ll, l.length ≤ b) → (itemsL ll).length ≤ ll.length * (b + 2)
  | [], b, _ => by simp [itemsL]
  | l :: ll, b, h => by
    rw [itemsL_cons, List.length_append, itemL_len]
    have h1 := items_small ll b fun x hx => h x (List.mem_cons_of_mem _ hx)
    have h2 := h l List.mem_cons_self
    rw [List.length_cons, Nat.add_mul]
    omega
theorem small_take {ll : List (List Nat)} {i : Nat} {l : List Nat} (h : ll[i]? = some l) (hs : ∀ x ∈ ll.take i, x.length ≤ 4000) (hl : l.length ≤ 4000) : ∀ x ∈ ll.take (i + 1), x.length ≤ 4000 := by
  intro x hx
  rw [List.take_add_one, h, Option.toList_some] at hx
  rcases List.mem_append.1 hx with hx | hx
  · exact hs x hx
  · rw [List.mem_singleton] at hx; subst hx; exact hl
theorem items_takeB {ll : List (List Nat)} {i : Nat} (hi : i ≤ 255) (hs : ∀ x ∈ ll.take i, x.length ≤ 4000) : (itemsL (ll.take i)).length ≤ 1020510 := by
  have h1 := items_small (ll.take i) 4000 hs
  have h2 : (ll.take i).length ≤ 255 := by rw [List.length_take]; omega
  have h3 := Nat.mul_le_mul_right 4002 h2
  omega

set_option maxRecDepth 100000 in
set_option maxHeartbeats 1000000 in
theorem sizeOfD {ll : List (List Nat)} {v : Value} {w : World} (hv : ValsV v w (strs ll)) (hl : ∀ l ∈ ll, l.length ≤ maxLen) :
    Calls Try.prog 22 #[v] w fun e w' => (∃ n : Nat, e = .returned (.tuple #[.int .i64 (n : Int), .bool (decide (Fits ll))]) ∧ (Fits ll → n = (itemsL ll).length + 3)) ∧ w' = w := by
  obtain ⟨p, c, rfl, hc⟩ := vals_form hv (strs_len ll)
  obtain ⟨n, hn⟩ : ∃ n, n = ll.length := ⟨_, rfl⟩
  rw [← hn] at hv hc ⊢
  have HN : Kept _ := ⟨hn⟩
  have HV : Kept _ := ⟨hv⟩
  have HL : Kept _ := ⟨hl⟩
  obtain ⟨F, hF⟩ : ∃ F, F = decide (Fits ll) := ⟨_, rfl⟩
  rw [← hF]
  have HF : Kept _ := ⟨hF⟩
  clear hn hv hl hF
  by_cases h255 : 255 < n
  · have h' : (255 : Int) < (n : Int) := by omega
    have hF : ¬ Fits ll := fun h => by have := h.1; have := HN.out; omega
    have HF1 : Kept (F = false) := ⟨by rw [HF.out]; exact decide_eq_false hF⟩
    have HF2 : Kept _ := ⟨hF⟩
    clear hF
    go_enter Try.func22, Try.ntmps22
    go_wp2_with fail
    go_ret2
    exact ⟨⟨0, congrArg (fun b => Ending.returned (.tuple #[.int .i64 0, .bool b])) HF1.out.symm, fun h => absurd h HF2.out⟩, rfl⟩
  · have h' : ¬ (255 : Int) < (n : Int) := by omega
    go_enter Try.func22, Try.ntmps22
    go_wp2_with fail
    go_loopg [4, 12] n (fun k s4 s12 wr => ∃ i m : Nat, i + k = n ∧ s12 = .int .i64 (i : Int) ∧ s4 = .int .i64 (m : Int) ∧ Kept (m = (itemsL (ll.take i)).length + 3 ∧ ∀ x ∈ ll.take i, x.length ≤ 4000) ∧ wr = w)
    case atStart => exact ⟨0, 3, by omega, rfl, rfl, ⟨by simp [itemsL], fun x hx => by simp at hx⟩, rfl⟩
    case round =>
      obtain ⟨i, m, hik, rfl, rfl, KM, hwr⟩ := hrel
      obtain rfl := hwr.symm
      by_cases hk0 : gk = 0
      · obtain rfl : n = i := by omega
        have hM : m = (itemsL ll).length + 3 ∧ ∀ x ∈ ll, x.length ≤ 4000 := by
          have := KM.out
          rwa [List.take_of_length_le (by rw [← HN.out]; exact Nat.le_refl _)] at this
        have KB : Kept (F = decide (m ≤ 30000)) := ⟨by
          rw [HF.out]
          refine decide_eq_decide.2 ⟨fun h => ?_, fun h => ⟨?_, hM.2, ?_⟩⟩
          · have := h.2.2; have := hM.1; omega
          · have := HN.out; omega
          · have := hM.1; omega⟩
        have KM2 : Kept _ := ⟨hM.1⟩
        clear hM KM
        go_wp2_with (first | ((with_reducible refine wv_val (d := 27) ?hd ?hw (.bool F) ?hr ?_); (case hd => rfl); (case hw => kernel_rfl); (case hr => intro w; exact run_leqI (n := 30000) rfl (by kernel_rfl) (by kernel_rfl) KB.out w); simp only [Act.put, List.setIfInBounds_toArray, List.set_cons_succ, List.set_cons_zero]))
        go_ret2
        exact ⟨⟨m, rfl, fun _ => KM2.out⟩, rfl⟩
      · have hin : i < n := by omega
        have hin' : (i : Int) < (n : Int) := by omega
        obtain ⟨l, h1, h2, h3⟩ := strs_put (show i < ll.length by rw [← HN.out]; exact hin)
        obtain ⟨A, rfl, hA, hcell⟩ := vals_at HV.out h2
        have KC : Kept _ := ⟨hcell⟩
        obtain ⟨z, hz⟩ : ∃ z, z = l.length := ⟨_, rfl⟩
        have KZ : Kept _ := ⟨hz⟩
        have KL : Kept _ := ⟨h1⟩
        have hm := items_takeB (ll := ll) (i := i) (by omega) KM.out.2
        have hmL := HL.out l h3
        rw [← hz] at hmL
        unfold maxLen at hmL
        clear h1 h2 h3 hcell hz
        by_cases h4 : 4000 < z
        · have h4' : (4000 : Int) < (z : Int) := by omega
          have hF : ¬ Fits ll := fun h => by have := h.2.1 l (List.mem_of_getElem? KL.out); have := KZ.out; omega
          have HF1 : Kept (F = false) := ⟨by rw [HF.out]; exact decide_eq_false hF⟩
          have HF2 : Kept _ := ⟨hF⟩
          clear hF
          go_wp2_with (first | ((with_reducible refine wv_val (d := 14) ?hd ?hw (.pointer (some (A.add i))) ?hr ?_); (case hd => rfl); (case hw => kernel_rfl); (case hr => intro w; exact run_idxS rfl (by kernel_rfl) (by kernel_rfl) Try.underlying22 hin Try.sizeOf9 w); simp only [Act.put, List.setIfInBounds_toArray, List.set_cons_succ, List.set_cons_zero]) | ((with_reducible refine wv_elem (d := 15) ?hd ?hw 9 ag_str (.tmp 14) ?ho (A.add i) ?hx (.string (strOf l)) ?hc ?_); (case hd => rfl); (case hw => kernel_rfl); (case ho => rfl); (case hx => kernel_rfl); (case hc => exact KC.out); simp only [Act.put, List.setIfInBounds_toArray, List.set_cons_succ, List.set_cons_zero]) | ((with_reducible refine wv_val (d := 17) ?hd ?hw (.int .i64 (z : Int)) ?hr ?_); (case hd => rfl); (case hw => kernel_rfl); (case hr => intro w; exact run_slen rfl (by kernel_rfl) KZ.out w); simp only [Act.put, List.setIfInBounds_toArray, List.set_cons_succ, List.set_cons_zero]))
          go_ret2
          exact ⟨⟨0, congrArg (fun b => Ending.returned (.tuple #[.int .i64 0, .bool b])) HF1.out.symm, fun h => absurd h HF2.out⟩, rfl⟩
        · have h4' : ¬ (4000 : Int) < (z : Int) := by omega
          obtain ⟨z2, hz2⟩ : ∃ z2, z2 = 2 + z := ⟨_, rfl⟩
          obtain ⟨m2, hm2⟩ : ∃ m2, m2 = m + z2 := ⟨_, rfl⟩
          have KZ2 : Kept _ := ⟨hz2⟩
          have KM2 : Kept _ := ⟨hm2⟩
          have hb2 : m2 < 4611686018427387904 := by have := KM.out.1; omega
          have hb3 : z2 < 4611686018427387904 := by omega
          clear hz2 hm2
          go_wp2_with (first | ((with_reducible refine wv_val (d := 14) ?hd ?hw (.pointer (some (A.add i))) ?hr ?_); (case hd => rfl); (case hw => kernel_rfl); (case hr => intro w; exact run_idxS rfl (by kernel_rfl) (by kernel_rfl) Try.underlying22 hin Try.sizeOf9 w); simp only [Act.put, List.setIfInBounds_toArray, List.set_cons_succ, List.set_cons_zero]) | ((with_reducible refine wv_elem (d := 15) ?hd ?hw 9 ag_str (.tmp 14) ?ho (A.add i) ?hx (.string (strOf l)) ?hc ?_); (case hd => rfl); (case hw => kernel_rfl); (case ho => rfl); (case hx => kernel_rfl); (case hc => exact KC.out); simp only [Act.put, List.setIfInBounds_toArray, List.set_cons_succ, List.set_cons_zero]) | ((with_reducible refine wv_val (d := 17) ?hd ?hw (.int .i64 (z : Int)) ?hr ?_); (case hd => rfl); (case hw => kernel_rfl); (case hr => intro w; exact run_slen rfl (by kernel_rfl) KZ.out w); simp only [Act.put, List.setIfInBounds_toArray, List.set_cons_succ, List.set_cons_zero]) | ((with_reducible refine wv_val (d := 21) ?hd ?hw (.int .i64 (z : Int)) ?hr ?_); (case hd => rfl); (case hw => kernel_rfl); (case hr => intro w; exact run_slen rfl (by kernel_rfl) KZ.out w); simp only [Act.put, List.setIfInBounds_toArray, List.set_cons_succ, List.set_cons_zero]) | ((with_reducible refine wv_val (d := 22) ?hd ?hw (.int .i64 (z2 : Int)) ?hr ?_); (case hd => rfl); (case hw => kernel_rfl); (case hr => intro w; exact run_addC 2 rfl (by kernel_rfl) KZ2.out hb3 w); simp only [Act.put, List.setIfInBounds_toArray, List.set_cons_succ, List.set_cons_zero]) | ((with_reducible refine wv_val (d := 23) ?hd ?hw (.int .i64 (m2 : Int)) ?hr ?_); (case hd => rfl); (case hw => kernel_rfl); (case hr => intro w; exact run_nadd rfl (by kernel_rfl) (by kernel_rfl) KM2.out hb2 w); simp only [Act.put, List.setIfInBounds_toArray, List.set_cons_succ, List.set_cons_zero]))
          go_roundg (gk - 1)
          case measure => omega
          case rel =>
            refine ⟨i + 1, m2, by omega, by simp, rfl, ⟨?_, small_take KL.out KM.out.2 (by have := KZ.out; omega)⟩, rfl⟩
            rw [items_take KL.out, List.length_append, itemL_len, ← KZ.out, KM2.out, KZ2.out, KM.out.1]
            omega

def IsBool (e : Ending) : Prop := ∃ b : Bool, e = .returned (.bool b)
set_option maxRecDepth 100000 in
set_option maxHeartbeats 1000000 in
theorem fewD {ll : List (List Nat)} {v : Value} {w : World} (hv : ValsV v w (strs ll)) (hM : ll.length ≤ maxLen) :
    Calls Try.prog 11 #[v] w fun e w' => IsBool e ∧ w' = w := by
  obtain ⟨p, c, rfl, hc⟩ := vals_form hv (strs_len ll)
  obtain ⟨n, hn⟩ : ∃ n, n = ll.length := ⟨_, rfl⟩
  rw [← hn] at hv hc ⊢
  have HN : Kept _ := ⟨hn⟩
  have HV : Kept _ := ⟨hv⟩
  rw [← hn] at hM
  unfold maxLen at hM
  clear hn hv
  go_enter Try.func11, Try.ntmps11
  go_wp2_with fail
  go_loopg [3, 8] n (fun k s3 s8 wr => ∃ (i : Nat) (m : Int), i + k = n ∧ s8 = .int .i64 (i : Int) ∧ s3 = .int .i64 m ∧ wr = w)
  case atStart => exact ⟨0, 0, by omega, rfl, rfl, rfl⟩
  case round =>
    obtain ⟨i, m, hik, rfl, rfl, hwr⟩ := hrel
    obtain rfl := hwr.symm
    by_cases hk0 : gk = 0
    · obtain rfl : n = i := by omega
      go_wp2_with fail
      go_ret
      exact ⟨⟨_, rfl⟩, rfl⟩
    · have hin : i < n := by omega
      have hin' : (i : Int) < (n : Int) := by omega
      have hi1 : (i : Int) + 1 ≤ 9223372036854775807 := by omega
      obtain ⟨l, h1, h2, h3⟩ := strs_put (show i < ll.length by rw [← HN.out]; exact hin)
      obtain ⟨A, rfl, hA, hcell⟩ := vals_at HV.out h2
      have KC : Kept _ := ⟨hcell⟩
      obtain ⟨z, hz⟩ : ∃ z, z = l.length := ⟨_, rfl⟩
      have KZ : Kept _ := ⟨hz⟩
      clear h1 h2 h3 hcell hz
      go_wp2_with (first | ((with_reducible refine wv_val (d := 10) ?hd ?hw (.pointer (some (A.add i))) ?hr ?_); (case hd => rfl); (case hw => kernel_rfl); (case hr => intro w; exact run_idxS rfl (by kernel_rfl) (by kernel_rfl) Try.underlying22 hin Try.sizeOf9 w); simp only [Act.put, List.setIfInBounds_toArray, List.set_cons_succ, List.set_cons_zero]) | ((with_reducible refine wv_elem (d := 11) ?hd ?hw 9 ag_str (.tmp 10) ?ho (A.add i) ?hx (.string (strOf l)) ?hc ?_); (case hd => rfl); (case hw => kernel_rfl); (case ho => rfl); (case hx => kernel_rfl); (case hc => exact KC.out); simp only [Act.put, List.setIfInBounds_toArray, List.set_cons_succ, List.set_cons_zero]) | ((with_reducible refine wv_val (d := 14) ?hd ?hw (.int .i64 (z : Int)) ?hr ?_); (case hd => rfl); (case hw => kernel_rfl); (case hr => intro w; exact run_slen rfl (by kernel_rfl) KZ.out w); simp only [Act.put, List.setIfInBounds_toArray, List.set_cons_succ, List.set_cons_zero]))
      go_roundg (gk - 1)
      case measure => omega
      case rel => exact ⟨i + 1, _, by omega, by simp, rfl, rfl⟩
end Go.Proofs.Ytfkpbmkhkhnehaa.sh
