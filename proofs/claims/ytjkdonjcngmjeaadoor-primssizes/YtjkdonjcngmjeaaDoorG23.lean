/-
  General pieces, joined: CA CB CC CD CE CF SHM CH CI CJ CK CL CM CN CO CP.
-/
import Derived.Test.YtjkdonjcngmjeaaDoorG22
import Derived.Recover
/-
  Texts of texts in one form, as lists of bytes: joined, cut; numbers, the highest byte first.
-/
namespace Go.Proofs.YtjkdonjcngmjeaaDoor.sh
open Go Go.RowKit
set_option linter.unusedVariables false
set_option linter.unusedSimpArgs false

/-- A text, with how many bytes it has ahead of it. -/
def itemL (l : List Nat) : List Nat := l.length / 256 :: l.length % 256 :: l
def itemsL (ll : List (List Nat)) : List Nat := (ll.map itemL).flatten
def joinL (kind : Nat) (ll : List (List Nat)) : List Nat := 1 :: kind :: ll.length :: itemsL ll
def Fits (ll : List (List Nat)) : Prop := ll.length ≤ 255 ∧ (∀ l ∈ ll, l.length ≤ 4000) ∧ (itemsL ll).length ≤ 29997
theorem itemL_len (l : List Nat) : (itemL l).length = l.length + 2 := rfl
theorem itemsL_cons (l : List Nat) (ll : List (List Nat)) : itemsL (l :: ll) = itemL l ++ itemsL ll := by simp [itemsL]
theorem itemsL_snoc (ll : List (List Nat)) (l : List Nat) : itemsL (ll ++ [l]) = itemsL ll ++ itemL l := by simp [itemsL]
theorem itemL_bytes {l : List Nat} (h : Bytes l) (hl : l.length < 65536) : Bytes (itemL l) := bytes_of_all (fun x hx => by
  rcases List.mem_cons.1 hx with rfl | hx
  · omega
  rcases List.mem_cons.1 hx with rfl | hx
  · omega
  · exact h.all x hx)
theorem itemsL_bytes : ∀ {ll : List (List Nat)}, (∀ l ∈ ll, Bytes l ∧ l.length < 65536) → Bytes (itemsL ll)
  | [], _ => nil_bytes
  | l :: ll, h => by
    rw [itemsL_cons]
    exact (itemL_bytes (h l List.mem_cons_self).1 (h l List.mem_cons_self).2).append (itemsL_bytes fun x hx => h x (List.mem_cons_of_mem _ hx))
theorem joinL_len (kind : Nat) (ll : List (List Nat)) : (joinL kind ll).length = (itemsL ll).length + 3 := rfl
theorem itemsL_len : ∀ ll : List (List Nat), (itemsL ll).length = (ll.map fun l => l.length + 2).sum
  | [] => rfl
  | l :: ll => by rw [itemsL_cons, List.length_append, itemL_len, itemsL_len ll]; rfl
theorem joinL_bytes {kind : Nat} {ll : List (List Nat)} (hk : kind < 256) (h : ∀ l ∈ ll, Bytes l) (hf : Fits ll) : Bytes (joinL kind ll) := bytes_of_all (fun x hx => by
  rcases List.mem_cons.1 hx with rfl | hx
  · decide
  rcases List.mem_cons.1 hx with rfl | hx
  · exact hk
  rcases List.mem_cons.1 hx with rfl | hx
  · have := hf.1; omega
  · exact (itemsL_bytes fun l hl => ⟨h l hl, by have := hf.2.1 l hl; omega⟩).all x hx)

/-- So many texts, and nothing behind them. -/
def cutL : Nat → List Nat → Option (List (List Nat))
  | 0, s => if s = [] then some [] else none
  | n + 1, a :: b :: r => if r.length < 256 * a + b then none else (cutL n (r.drop (256 * a + b))).map (r.take (256 * a + b) :: ·)
  | _ + 1, _ => none
theorem cutL_items : ∀ ll : List (List Nat), cutL ll.length (itemsL ll) = some ll
  | [] => rfl
  | l :: ll => by
    have hm : 256 * (l.length / 256) + l.length % 256 = l.length := Nat.div_add_mod _ _
    rw [itemsL_cons, List.length_cons]
    show cutL (ll.length + 1) (l.length / 256 :: l.length % 256 :: (l ++ itemsL ll)) = _
    rw [cutL, hm, if_neg (by rw [List.length_append]; omega), List.drop_left, List.take_left, cutL_items ll]
    rfl
theorem items_one {ll mm : List (List Nat)} (hn : ll.length = mm.length) (h : itemsL ll = itemsL mm) : ll = mm := by
  have h1 := cutL_items ll
  have h2 := cutL_items mm
  rw [hn, h, h2] at h1
  exact (Option.some.inj h1).symm
theorem join_one {k j : Nat} {ll mm : List (List Nat)} (h : joinL k ll = joinL j mm) : k = j ∧ ll = mm := by
  unfold joinL at h
  simp only [List.cons.injEq, true_and] at h
  exact ⟨h.1, items_one h.2.1 h.2.2⟩

/-- A number's bytes, the highest first. -/
def numT (n : Nat) : Nat → List Nat
  | 0 => []
  | k + 1 => if n = 0 then [] else numT (n / 256) k ++ [n % 256]
def numL (n : Nat) : List Nat := numT n 8
def readT (s : List Nat) : Nat := s.foldl (fun a x => a * 256 + x) 0
theorem readT_snoc (s : List Nat) (x : Nat) : readT (s ++ [x]) = readT s * 256 + x := by simp [readT]
theorem numT_zero (k : Nat) : numT 0 k = [] := by cases k <;> simp [numT]
theorem numT_len : ∀ (k n : Nat), (numT n k).length ≤ k
  | 0, _ => Nat.le_refl _
  | k + 1, n => by
    unfold numT
    split
    · exact Nat.zero_le _
    · rw [List.length_append]; have := numT_len k (n / 256); simp; omega
theorem numT_bytes : ∀ (k n : Nat), Bytes (numT n k)
  | 0, _ => nil_bytes
  | k + 1, n => by
    unfold numT
    split
    · exact nil_bytes
    · exact (numT_bytes k _).append (bytes_of_all (fun x hx => by simp at hx; omega))
theorem numL_len (n : Nat) : (numL n).length ≤ 8 := numT_len 8 n
theorem numL_bytes (n : Nat) : Bytes (numL n) := numT_bytes 8 n
end Go.Proofs.YtjkdonjcngmjeaaDoor.sh
/-
  Texts of texts: cut one after another; a byte more or fewer is none; what is split is what is said.
-/
namespace Go.Proofs.YtjkdonjcngmjeaaDoor.sh
open Go Go.RowKit
set_option linter.unusedVariables false
set_option linter.unusedSimpArgs false

instance decFits (ll : List (List Nat)) : Decidable (Fits ll) := inferInstanceAs (Decidable (_ ∧ _ ∧ _))
end Go.Proofs.YtjkdonjcngmjeaaDoor.sh
/-
  How many bytes texts have as one: codec.sizeOf; the statements' few.
-/
namespace Go.Proofs.YtjkdonjcngmjeaaDoor.sh
open Go Go.RowKit
set_option linter.unusedVariables false
set_option linter.unusedSimpArgs false

theorem run_nadd {o : Oper} {a : Act} {x y : Operand} {i j z : Nat} (ho : o.op = .binOp .add 3 x y 3) (hx : a.eval x = .int .i64 (i : Int)) (hy : a.eval y = .int .i64 (j : Int)) (hz : z = i + j) (hi : z < 4611686018427387904) (w : World) : (execOp a.eval o).run Tryd.prog w = .ok (.value (.int .i64 (z : Int))) w := by
  have e : ((i : Int) + (j : Int)) = (z : Int) := by omega
  unfold execOp
  simp only [ho, hx, hy]
  simp [go_sem, IntKind.wrap_i64, e]
  omega
theorem ag_str : ∀ w, (isAgg 9).run Tryd.prog w = .ok false w := Tryd.isAgg9
theorem strs_put {ll : List (List Nat)} {i : Nat} (h : i < ll.length) : ∃ l, ll[i]? = some l ∧ (strs ll)[i]? = some (.string (strOf l)) ∧ l ∈ ll := by
  obtain ⟨l, hl⟩ : ∃ l, ll[i]? = some l := ⟨_, List.getElem?_eq_getElem h⟩
  exact ⟨l, hl, strs_get hl, List.mem_of_getElem? hl⟩
theorem items_take {ll : List (List Nat)} {i : Nat} {l : List Nat} (h : ll[i]? = some l) : itemsL (ll.take (i + 1)) = itemsL (ll.take i) ++ itemL l := by
  rw [List.take_add_one, h, Option.toList_some, itemsL_snoc]
theorem items_small : ∀ (ll : List (List Nat)) (b : Nat), (∀ l ∈ ll, l.length ≤ b) → (itemsL ll).length ≤ ll.length * (b + 2)
  | [], b, _ => by simp [itemsL]
  | l :: ll, b, h => by
    rw [itemsL_cons, List.length_append, itemL_len]
    have h1 := items_small ll b fun x hx => h x (List.mem_cons_of_mem _ hx)
    have h2 := h l List.mem_cons_self
    rw [List.length_cons, Nat.add_mul]
    omega
theorem small_take {ll : List (List Nat)} {i : Nat} {l : List Nat} (h : ll[i]? = some l) (hs : ∀ x ∈ ll.take i, x.length ≤ 4000) (hl : l.length ≤ 4000) : ∀ x ∈ ll.take (i + 1), x.length ≤ 4000 := by
  intro x hx
  rw [List.take_add_one, h, Option.toList_some] at hx
  rcases List.mem_append.1 hx with hx | hx
  · exact hs x hx
  · rw [List.mem_singleton] at hx; subst hx; exact hl
theorem items_takeB {ll : List (List Nat)} {i : Nat} (hi : i ≤ 255) (hs : ∀ x ∈ ll.take i, x.length ≤ 4000) : (itemsL (ll.take i)).length ≤ 1020510 := by
  have h1 := items_small (ll.take i) 4000 hs
  have h2 : (ll.take i).length ≤ 255 := by rw [List.length_take]; omega
  have h3 := Nat.mul_le_mul_right 4002 h2
  omega

set_option maxRecDepth 100000 in
set_option maxHeartbeats 1000000 in
theorem sizeOfD {ll : List (List Nat)} {v : Value} {w : World} (hv : ValsV v w (strs ll)) (hl : ∀ l ∈ ll, l.length ≤ maxLen) :
    Calls Tryd.prog 43 #[v] w fun e w' => (∃ n : Nat, e = .returned (.tuple #[.int .i64 (n : Int), .bool (decide (Fits ll))]) ∧ (Fits ll → n = (itemsL ll).length + 3)) ∧ w' = w := by
  obtain ⟨p, c, rfl, hc⟩ := vals_form hv (strs_len ll)
  obtain ⟨n, hn⟩ : ∃ n, n = ll.length := ⟨_, rfl⟩
  rw [← hn] at hv hc ⊢
  have HN : Kept _ := ⟨hn⟩
  have HV : Kept _ := ⟨hv⟩
  have HL : Kept _ := ⟨hl⟩
  obtain ⟨F, hF⟩ : ∃ F, F = decide (Fits ll) := ⟨_, rfl⟩
  rw [← hF]
  have HF : Kept _ := ⟨hF⟩
  clear hn hv hl hF
  by_cases h255 : 255 < n
  · have h' : (255 : Int) < (n : Int) := by omega
    have hF : ¬ Fits ll := fun h => by have := h.1; have := HN.out; omega
    have HF1 : Kept (F = false) := ⟨by rw [HF.out]; exact decide_eq_false hF⟩
    have HF2 : Kept _ := ⟨hF⟩
    clear hF
    go_enter Tryd.func43, Tryd.ntmps43
    go_wp2_with fail
    go_ret2
    exact ⟨⟨0, congrArg (fun b => Ending.returned (.tuple #[.int .i64 0, .bool b])) HF1.out.symm, fun h => absurd h HF2.out⟩, rfl⟩
  · have h' : ¬ (255 : Int) < (n : Int) := by omega
    go_enter Tryd.func43, Tryd.ntmps43
    go_wp2_with fail
    go_loopg [4, 12] n (fun k s4 s12 wr => ∃ i m : Nat, i + k = n ∧ s12 = .int .i64 (i : Int) ∧ s4 = .int .i64 (m : Int) ∧ Kept (m = (itemsL (ll.take i)).length + 3 ∧ ∀ x ∈ ll.take i, x.length ≤ 4000) ∧ wr = w)
    case atStart => exact ⟨0, 3, by omega, rfl, rfl, ⟨by simp [itemsL], fun x hx => by simp at hx⟩, rfl⟩
    case round =>
      obtain ⟨i, m, hik, rfl, rfl, KM, hwr⟩ := hrel
      obtain rfl := hwr.symm
      by_cases hk0 : gk = 0
      · obtain rfl : n = i := by omega
        have hM : m = (itemsL ll).length + 3 ∧ ∀ x ∈ ll, x.length ≤ 4000 := by
          have := KM.out
          rwa [List.take_of_length_le (by rw [← HN.out]; exact Nat.le_refl _)] at this
        have KB : Kept (F = decide (m ≤ 30000)) := ⟨by
          rw [HF.out]
          refine decide_eq_decide.2 ⟨fun h => ?_, fun h => ⟨?_, hM.2, ?_⟩⟩
          · have := h.2.2; have := hM.1; omega
          · have := HN.out; omega
          · have := hM.1; omega⟩
        have KM2 : Kept _ := ⟨hM.1⟩
        clear hM KM
        go_wp2_with (first | ((with_reducible refine wv_val (d := 27) ?hd ?hw (.bool F) ?hr ?_); (case hd => rfl); (case hw => kernel_rfl); (case hr => intro w; exact run_leqI (n := 30000) rfl (by kernel_rfl) (by kernel_rfl) KB.out w); simp only [Act.put, List.setIfInBounds_toArray, List.set_cons_succ, List.set_cons_zero]))
        go_ret2
        exact ⟨⟨m, rfl, fun _ => KM2.out⟩, rfl⟩
      · have hin : i < n := by omega
        have hin' : (i : Int) < (n : Int) := by omega
        obtain ⟨l, h1, h2, h3⟩ := strs_put (show i < ll.length by rw [← HN.out]; exact hin)
        obtain ⟨A, rfl, hA, hcell⟩ := vals_at HV.out h2
        have KC : Kept _ := ⟨hcell⟩
        obtain ⟨z, hz⟩ : ∃ z, z = l.length := ⟨_, rfl⟩
        have KZ : Kept _ := ⟨hz⟩
        have KL : Kept _ := ⟨h1⟩
        have hm := items_takeB (ll := ll) (i := i) (by omega) KM.out.2
        have hmL := HL.out l h3
        rw [← hz] at hmL
        unfold maxLen at hmL
        clear h1 h2 h3 hcell hz
        by_cases h4 : 4000 < z
        · have h4' : (4000 : Int) < (z : Int) := by omega
          have hF : ¬ Fits ll := fun h => by have := h.2.1 l (List.mem_of_getElem? KL.out); have := KZ.out; omega
          have HF1 : Kept (F = false) := ⟨by rw [HF.out]; exact decide_eq_false hF⟩
          have HF2 : Kept _ := ⟨hF⟩
          clear hF
          go_wp2_with (first | ((with_reducible refine wv_val (d := 14) ?hd ?hw (.pointer (some (A.add i))) ?hr ?_); (case hd => rfl); (case hw => kernel_rfl); (case hr => intro w; exact run_idxS rfl (by kernel_rfl) (by kernel_rfl) Tryd.underlying34 hin Tryd.sizeOf9 w); simp only [Act.put, List.setIfInBounds_toArray, List.set_cons_succ, List.set_cons_zero]) | ((with_reducible refine wv_elem (d := 15) ?hd ?hw 9 ag_str (.tmp 14) ?ho (A.add i) ?hx (.string (strOf l)) ?hc ?_); (case hd => rfl); (case hw => kernel_rfl); (case ho => rfl); (case hx => kernel_rfl); (case hc => exact KC.out); simp only [Act.put, List.setIfInBounds_toArray, List.set_cons_succ, List.set_cons_zero]) | ((with_reducible refine wv_val (d := 17) ?hd ?hw (.int .i64 (z : Int)) ?hr ?_); (case hd => rfl); (case hw => kernel_rfl); (case hr => intro w; exact run_slen rfl (by kernel_rfl) KZ.out w); simp only [Act.put, List.setIfInBounds_toArray, List.set_cons_succ, List.set_cons_zero]))
          go_ret2
          exact ⟨⟨0, congrArg (fun b => Ending.returned (.tuple #[.int .i64 0, .bool b])) HF1.out.symm, fun h => absurd h HF2.out⟩, rfl⟩
        · have h4' : ¬ (4000 : Int) < (z : Int) := by omega
          obtain ⟨z2, hz2⟩ : ∃ z2, z2 = 2 + z := ⟨_, rfl⟩
          obtain ⟨m2, hm2⟩ : ∃ m2, m2 = m + z2 := ⟨_, rfl⟩
          have KZ2 : Kept _ := ⟨hz2⟩
          have KM2 : Kept _ := ⟨hm2⟩
          have hb2 : m2 < 4611686018427387904 := by have := KM.out.1; omega
          have hb3 : z2 < 4611686018427387904 := by omega
          clear hz2 hm2
          go_wp2_with (first | ((with_reducible refine wv_val (d := 14) ?hd ?hw (.pointer (some (A.add i))) ?hr ?_); (case hd => rfl); (case hw => kernel_rfl); (case hr => intro w; exact run_idxS rfl (by kernel_rfl) (by kernel_rfl) Tryd.underlying34 hin Tryd.sizeOf9 w); simp only [Act.put, List.setIfInBounds_toArray, List.set_cons_succ, List.set_cons_zero]) | ((with_reducible refine wv_elem (d := 15) ?hd ?hw 9 ag_str (.tmp 14) ?ho (A.add i) ?hx (.string (strOf l)) ?hc ?_); (case hd => rfl); (case hw => kernel_rfl); (case ho => rfl); (case hx => kernel_rfl); (case hc => exact KC.out); simp only [Act.put, List.setIfInBounds_toArray, List.set_cons_succ, List.set_cons_zero]) | ((with_reducible refine wv_val (d := 17) ?hd ?hw (.int .i64 (z : Int)) ?hr ?_); (case hd => rfl); (case hw => kernel_rfl); (case hr => intro w; exact run_slen rfl (by kernel_rfl) KZ.out w); simp only [Act.put, List.setIfInBounds_toArray, List.set_cons_succ, List.set_cons_zero]) | ((with_reducible refine wv_val (d := 21) ?hd ?hw (.int .i64 (z : Int)) ?hr ?_); (case hd => rfl); (case hw => kernel_rfl); (case hr => intro w; exact run_slen rfl (by kernel_rfl) KZ.out w); simp only [Act.put, List.setIfInBounds_toArray, List.set_cons_succ, List.set_cons_zero]) | ((with_reducible refine wv_val (d := 22) ?hd ?hw (.int .i64 (z2 : Int)) ?hr ?_); (case hd => rfl); (case hw => kernel_rfl); (case hr => intro w; exact run_addC 2 rfl (by kernel_rfl) KZ2.out hb3 w); simp only [Act.put, List.setIfInBounds_toArray, List.set_cons_succ, List.set_cons_zero]) | ((with_reducible refine wv_val (d := 23) ?hd ?hw (.int .i64 (m2 : Int)) ?hr ?_); (case hd => rfl); (case hw => kernel_rfl); (case hr => intro w; exact run_nadd rfl (by kernel_rfl) (by kernel_rfl) KM2.out hb2 w); simp only [Act.put, List.setIfInBounds_toArray, List.set_cons_succ, List.set_cons_zero]))
          go_roundg (gk - 1)
          case measure => omega
          case rel =>
            refine ⟨i + 1, m2, by omega, by simp, rfl, ⟨?_, small_take KL.out KM.out.2 (by have := KZ.out; omega)⟩, rfl⟩
            rw [items_take KL.out, List.length_append, itemL_len, ← KZ.out, KM2.out, KZ2.out, KM.out.1]
            omega

end Go.Proofs.YtjkdonjcngmjeaaDoor.sh
/-
  Texts as one: codec.Join.
-/
namespace Go.Proofs.YtjkdonjcngmjeaaDoor.sh
open Go Go.RowKit
set_option linter.unusedVariables false
set_option linter.unusedSimpArgs false

/-- What Join answers: bytes, an error's number. -/
def joinS (k : Nat) (ll : List (List Nat)) : List Nat := if Fits ll then joinL k ll else []
def joinE (ll : List (List Nat)) : Nat := if Fits ll then 0 else 3
theorem joinS_fits {k : Nat} {ll : List (List Nat)} (h : Fits ll) : joinS k ll = joinL k ll := if_pos h
theorem joinE_fits {ll : List (List Nat)} (h : Fits ll) : joinE ll = 0 := if_pos h
theorem joinS_not {k : Nat} {ll : List (List Nat)} (h : ¬ Fits ll) : joinS k ll = [] := if_neg h
theorem joinE_not {ll : List (List Nat)} (h : ¬ Fits ll) : joinE ll = 3 := if_neg h
theorem run_shr8 {o : Oper} {a : Act} {x : Operand} {m z : Nat} {u : TypeId} (ho : o.op = .binOp .shr 3 x (.const (.int .u64 8)) u) (hx : a.eval x = .int .i64 (m : Int)) (hz : z = m / 256) (hm : m < 4611686018427387904) (w : World) : (execOp a.eval o).run Tryd.prog w = .ok (.value (.int .i64 (z : Int))) w := by
  have e3 : a.eval (.const (.int .u64 8)) = .int .u64 8 := rfl
  have h3 : (m : Int) / 256 = (z : Int) := by omega
  unfold execOp
  simp only [ho, hx, e3]
  simp [go_sem, Op.shift, IntKind.bits, IntKind.wrap_i64, wrap64, Int.fdiv_eq_ediv_of_nonneg _ (show (0 : Int) ≤ 256 by decide), h3]
  try omega
set_option maxRecDepth 100000 in
set_option maxHeartbeats 2000000 in
theorem JoinD {k : Nat} {ll : List (List Nat)} {v : Value} {w : World} (hk : k < 256) (hv : ValsV v w (strs ll)) (hl : ∀ l ∈ ll, Bytes l ∧ l.length ≤ maxLen) :
    Calls Tryd.prog 41 #[.int .u8 (k : Int), v] w fun e w' => e = .returned (.tuple #[.string (strOf (joinS k ll)), .int .i64 (joinE ll : Int)]) ∧ Below w.heap.size w w' := by
  have KS : Kept (∀ w2, Below w.heap.size w w2 → Calls Tryd.prog 43 #[v] w2 fun e w' => (∃ n : Nat, e = .returned (.tuple #[.int .i64 (n : Int), .bool (decide (Fits ll))]) ∧ (Fits ll → n = (itemsL ll).length + 3)) ∧ w' = w2) := ⟨fun w2 h => sizeOfD (hv.under h) fun l hm => (hl l hm).2⟩
  by_cases hF : Fits ll
  · rw [joinS_fits hF, joinE_fits hF]
    rw [decide_eq_true hF] at KS
    have HJ : Kept (Bytes (joinL k ll)) := ⟨joinL_bytes hk (fun l hm => (hl l hm).1) hF⟩
    have HF : Kept _ := ⟨hF⟩
    have hn255 : ll.length ≤ 255 := hF.1
    obtain ⟨p, c, rfl, hc⟩ := vals_form hv (strs_len ll)
    obtain ⟨n, hn⟩ : ∃ n, n = ll.length := ⟨_, rfl⟩
    rw [← hn] at hv hc KS hn255 ⊢
    obtain ⟨J, hJ⟩ : ∃ J, J = joinL k ll := ⟨_, rfl⟩
    rw [← hJ] at HJ ⊢
    have EJ : Kept _ := ⟨hJ⟩
    have HN : Kept _ := ⟨hn⟩
    have HV : Kept _ := ⟨hv⟩
    have HL : Kept _ := ⟨hl⟩
    clear hJ hn hv hl hF
    go_enter Tryd.func41, Tryd.ntmps41
    go_wp2_with fail
    refine (KS.out _ (Below.refl _ _)).mono ?_
    rintro e w1 ⟨⟨m, rfl, hm⟩, hw1⟩
    obtain rfl := hw1.symm
    have hm' := hm HF.out
    have hmB : m ≤ 281474976710656 := by have := HF.out.2.2; omega
    clear hm hm' KS
    go_wp2_with fail
    refine (bGrow w (Nat.le_refl _) hmB).mono ?_
    rintro e w2 ⟨rfl, b2, q2⟩
    clear hmB
    go_wp2_with fail
    refine (bByte (c := 1) b2 (by decide) q2.size).mono ?_
    rintro e w3 ⟨rfl, b3, q3⟩
    replace q3 := q2.trans q3
    clear b2 q2
    go_wp2_with fail
    refine (bByte (c := k) b3 (by simp) q3.size).mono ?_
    rintro e w4 ⟨rfl, b4, q4⟩
    replace q4 := q3.trans q4
    clear b3 q3
    have n256 : n < 256 := by omega
    go_wp2_with (first | ((with_reducible refine wv_val (d := 25) ?hd ?hw (.int .u8 (n : Int)) ?hr ?_); (case hd => rfl); (case hw => kernel_rfl); (case hr => intro w; exact run_c38 rfl (by kernel_rfl) n256 w); simp only [Act.put, List.setIfInBounds_toArray, List.set_cons_succ, List.set_cons_zero]))
    refine (bByte (c := n) b4 (by simp) q4.size).mono ?_
    rintro e w5 ⟨rfl, b5, q5⟩
    replace q5 := q4.trans q5
    have b5' : Bld w.heap.size w.heap.size (1 :: k :: n :: itemsL (ll.take 0)) w5 := by simpa [itemsL] using b5
    clear b4 q4 b5
    go_wp2_with fail
    go_loopg [29] n (fun g s29 wr => ∃ i : Nat, i + g = n ∧ s29 = .int .i64 (i : Int) ∧ Bld w.heap.size w.heap.size (1 :: k :: n :: itemsL (ll.take i)) wr ∧ Below w.heap.size w wr)
    case atStart => exact ⟨0, by omega, rfl, b5', q5⟩
    case round =>
      rename World => wz
      obtain ⟨i, hik, rfl, bi, qi⟩ := hrel
      clear b5' q5
      by_cases hk0 : gk = 0
      · obtain rfl : n = i := by omega
        have e1 : (1 :: k :: n :: itemsL (ll.take n)) = J := by rw [EJ.out, List.take_of_length_le (by rw [← HN.out]; exact Nat.le_refl _)]; unfold joinL; rw [← HN.out]
        rw [e1] at bi
        clear e1
        go_wp2_with fail
        refine (bString bi HJ.out qi.size).mono ?_
        rintro e w6 ⟨rfl, q6⟩
        go_wp2_with fail
        go_ret2
        exact ⟨rfl, qi.trans q6⟩
      · have hin : i < n := by omega
        have hin' : (i : Int) < (n : Int) := by omega
        obtain ⟨l, h1, h2, h3⟩ := strs_put (show i < ll.length by rw [← HN.out]; exact hin)
        obtain ⟨A, rfl, hA, hcell⟩ := vals_at (HV.out.under qi) h2
        have KC : Kept _ := ⟨hcell⟩
        obtain ⟨z, hz⟩ : ∃ z, z = l.length := ⟨_, rfl⟩
        have KZ : Kept _ := ⟨hz⟩
        have KL : Kept _ := ⟨h1⟩
        have hm := items_takeB (ll := ll) (i := i) (by omega) (fun x hx => HF.out.2.1 x (List.mem_of_mem_take hx))
        have hz4 : z ≤ 4000 := by rw [hz]; exact HF.out.2.1 l h3
        have hlB : Kept (Bytes l) := ⟨(HL.out l h3).1⟩
        have KI : Kept (itemsL (ll.take (i + 1)) = itemsL (ll.take i) ++ itemL l) := ⟨items_take h1⟩
        obtain ⟨x, hx⟩ : ∃ x, x = z / 256 := ⟨_, rfl⟩
        obtain ⟨y, hy⟩ : ∃ y, y = z % 256 := ⟨_, rfl⟩
        have KI2 : Kept (itemL l = x :: y :: l) := ⟨by unfold itemL; rw [← hz, hx, hy]⟩
        have KX : Kept _ := ⟨hx⟩
        have KY : Kept _ := ⟨hy⟩
        have hx8 : x < 256 := by omega
        have hz62 : z < 4611686018427387904 := by omega
        obtain ⟨T, hT⟩ : ∃ T, T = itemsL (ll.take i) := ⟨_, rfl⟩
        rw [← hT] at bi hm KI
        clear h1 h2 h3 hcell hz hx hy hT
        go_wp2_with (first | ((with_reducible refine wv_val (d := 31) ?hd ?hw (.pointer (some (A.add i))) ?hr ?_); (case hd => rfl); (case hw => kernel_rfl); (case hr => intro w; exact run_idxS rfl (by kernel_rfl) (by kernel_rfl) Tryd.underlying34 hin Tryd.sizeOf9 w); simp only [Act.put, List.setIfInBounds_toArray, List.set_cons_succ, List.set_cons_zero]) | ((with_reducible refine wv_elem (d := 32) ?hd ?hw 9 ag_str (.tmp 31) ?ho (A.add i) ?hx (.string (strOf l)) ?hc ?_); (case hd => rfl); (case hw => kernel_rfl); (case ho => rfl); (case hx => kernel_rfl); (case hc => exact KC.out); simp only [Act.put, List.setIfInBounds_toArray, List.set_cons_succ, List.set_cons_zero]) | ((with_reducible refine wv_val (d := 34) ?hd ?hw (.int .i64 (z : Int)) ?hr ?_); (case hd => rfl); (case hw => kernel_rfl); (case hr => intro w; exact run_slen rfl (by kernel_rfl) KZ.out w); simp only [Act.put, List.setIfInBounds_toArray, List.set_cons_succ, List.set_cons_zero]) | ((with_reducible refine wv_val (d := 35) ?hd ?hw (.int .i64 (x : Int)) ?hr ?_); (case hd => rfl); (case hw => kernel_rfl); (case hr => intro w; exact run_shr8 rfl (by kernel_rfl) KX.out hz62 w); simp only [Act.put, List.setIfInBounds_toArray, List.set_cons_succ, List.set_cons_zero]) | ((with_reducible refine wv_val (d := 36) ?hd ?hw (.int .u8 (x : Int)) ?hr ?_); (case hd => rfl); (case hw => kernel_rfl); (case hr => intro w; exact run_c38 rfl (by kernel_rfl) hx8 w); simp only [Act.put, List.setIfInBounds_toArray, List.set_cons_succ, List.set_cons_zero]))
        refine (bByte (c := x) bi (by simp; omega) qi.size).mono ?_
        rintro e w6 ⟨rfl, b6, q6⟩
        replace q6 := qi.trans q6
        clear bi qi KC
        go_wp2_with (first | ((with_reducible refine wv_val (d := 39) ?hd ?hw (.int .i64 (z : Int)) ?hr ?_); (case hd => rfl); (case hw => kernel_rfl); (case hr => intro w; exact run_slen rfl (by kernel_rfl) KZ.out w); simp only [Act.put, List.setIfInBounds_toArray, List.set_cons_succ, List.set_cons_zero]) | ((with_reducible refine wv_val (d := 40) ?hd ?hw (.int .u8 (y : Int)) ?hr ?_); (case hd => rfl); (case hw => kernel_rfl); (case hr => intro w; exact run_conv38 rfl (by kernel_rfl) KY.out w); simp only [Act.put, List.setIfInBounds_toArray, List.set_cons_succ, List.set_cons_zero]))
        refine (bByte (c := y) b6 (by simp; omega) q6.size).mono ?_
        rintro e w7 ⟨rfl, b7, q7⟩
        replace q7 := q6.trans q7
        clear b6 q6
        go_wp2_with fail
        refine (bStr b7 hlB.out (by simp; have := KZ.out; omega) q7.size).mono ?_
        rintro e w8 ⟨⟨r8, rfl⟩, b8, q8⟩
        replace q8 := q7.trans q8
        have e8 : (1 :: k :: n :: T) ++ [x] ++ [y] ++ l = 1 :: k :: n :: itemsL (ll.take (i + 1)) := by rw [KI.out, KI2.out]; simp
        rw [e8] at b8
        clear b7 q7 e8
        go_wp2_with fail
        go_roundg (gk - 1)
        case measure => omega
        case rel => exact ⟨i + 1, by omega, by simp, b8, q8⟩
  · rw [joinS_not hF, joinE_not hF]
    rw [decide_eq_false hF] at KS
    clear hv hl
    go_enter Tryd.func41, Tryd.ntmps41
    go_wp2_with fail
    refine (KS.out _ (Below.refl _ _)).mono ?_
    rintro e w1 ⟨⟨m, rfl, hm⟩, hw1⟩
    obtain rfl := hw1.symm
    clear hm
    go_wp2_with fail
    go_ret2
    exact ⟨rfl, Below.refl _ _⟩
end Go.Proofs.YtjkdonjcngmjeaaDoor.sh
/-
  What goes through a text: bytes, number, text; where it is too short they panic.
-/
namespace Go.Proofs.YtjkdonjcngmjeaaDoor.sh
open Go Go.RowKit
set_option linter.unusedVariables false
set_option linter.unusedSimpArgs false

section
variable {ops : Array Oper} {rest : List Oper} {o : Oper} {a : Act} {w : World} {Q : Exit → Act → World → Prop}
/-- A cell is written, whatever value of one cell it gets. -/
theorem wl_set1 (hgd : o.guard = none) (e : TypeId) (sz : ∀ w, (sizeOf e).run Tryd.prog w = .ok 1 w) (x y : Operand) (ho : o.op = .store e x y) (g k : Nat) (v : Value) (hx : a.eval x = .pointer (some ⟨g, k, none⟩)) (hy : a.eval y = v) (h1 : v.oneCell' = true) {t : TypeId} (A : Array Value)
    (hg : Blk w g t A) (hk : k < A.size) (h : ∀ w', Blk w' g t (A.setIfInBounds k v) → Put w w' g → wpList Tryd.prog ops Q rest (a.put o.dst undef) w') : wpList Tryd.prog ops Q (o :: rest) a w :=
  wpList_plain hgd fun K hK => by
    have hc : w.cell? ⟨g, k, none⟩ = some A[k] := cell_row hg (Array.getElem?_eq_getElem hk)
    have hf : w.frozen? ⟨g, k, none⟩ = false := frozen_of_row w g k A _ hg
    have hv : v.cells = #[v] := by cases v <;> simp_all [Value.oneCell', Value.cells]
    have hv' := hv
    unfold Value.cells at hv'
    have hrun : (execOp a.eval o).run Tryd.prog w = .ok .skip (w.setCell ⟨g, k, none⟩ v) := by
      unfold execOp
      simp only [ho, hx, hy, Instr.storeAt, Instr.sureAddr, Sem.run_bind, Sem.run_pure, Result.andThen_ok]
      simp [storeVar, storeCells, sz, go_sem, hc, hf, hv']
      rw [run_store _ _ _ _ _ h1, hc]
      simp [hf]
    unfold Oper.wp
    rw [hrun]
    exact hK _ _ (h _ (heap_setCell_same _ _ _ _ _ _ hg) ⟨⟨rfl, rfl, rfl, by simp, fun j _ hj => heap_setCell_other w ⟨g, k, none⟩ j _ (fun e => hj (by rw [e]))⟩, by simp⟩)
end
end Go.Proofs.YtjkdonjcngmjeaaDoor.sh
/-
  A region that draws its order, order by order: what may come first, each carried out as in a plain region.
-/
namespace Go.Proofs.YtjkdonjcngmjeaaDoor.sh
open Go Go.RowKit
set_option linter.unusedVariables false
set_option linter.unusedSimpArgs false

section
variable {P : Program} {ops : Array Oper} {Q : Exit → Act → World → Prop} {a : Act} {w : World}
end

section
variable {P : Program} {ops : Array Oper} {Q : Exit → Act → World → Prop} {a : Act} {w : World} {rest : List Oper} {o : Oper}
end
end Go.Proofs.YtjkdonjcngmjeaaDoor.sh
/-
  A region that draws its order, in which stores may stand that change nothing (each writes what the cell holds).
-/
namespace Go.Proofs.YtjkdonjcngmjeaaDoor.sh
open Go Go.RowKit
set_option linter.unusedVariables false
set_option linter.unusedSimpArgs false

end Go.Proofs.YtjkdonjcngmjeaaDoor.sh
/-
  codec.apart: what a text says, or that it says nothing.
-/
namespace Go.Proofs.YtjkdonjcngmjeaaDoor.sh
open Go Go.RowKit
set_option linter.unusedVariables false
set_option linter.unusedSimpArgs false

theorem sz_strs : ∀ w, (sizeOf 34).run Tryd.prog w = .ok 1 w := Tryd.sizeOf34
theorem ag_strs : ∀ w, (isAgg 34).run Tryd.prog w = .ok false w := Tryd.isAgg34
end Go.Proofs.YtjkdonjcngmjeaaDoor.sh
/-
  codec.apart, of a text of three bytes or more.
-/
namespace Go.Proofs.YtjkdonjcngmjeaaDoor.sh
open Go Go.RowKit
set_option linter.unusedVariables false
set_option linter.unusedSimpArgs false

theorem inf_str : (Tryd.prog.info? 9).map (fun i => (i.zero, i.size, i.bytes)) = some (some (.string .empty), 1, 16) := by kernel_rfl
theorem wl_build1S {ops : Array Oper} {rest : List Oper} {o : Oper} {a : Act} {w : World} {Q : Exit → Act → World → Prop} (hg : o.guard = none) (x : Operand) (ho : o.op = .buildSlice 34 1 #[(0, x)]) (s : List Nat) (hx : a.eval x = .string (strOf s))
    (h : wpList Tryd.prog ops Q rest (a.put o.dst (.slice (some ⟨w.heap.size, 0, none⟩) 1 1)) (w.alloc (.cells #[.string (strOf s)] 9))) : wpList Tryd.prog ops Q (o :: rest) a w := by
  obtain ⟨ie, hie, hz0, hz1, _⟩ := info_parts inf_str
  have hf := Great.fill_whole (s := 1) (by decide) [Value.string (strOf s)] ((Array.range (1 * 1)).map ((Value.string .empty).cells[· % (Value.string .empty).cells.size]!)) (fun v hv => by simp at hv; subst hv; rfl) (by simp)
  refine wpList_buildSlice hg 34 9 1 #[(0, x)] ho _ ie _ Tryd.underlying34 hie hz0 (by rw [hz1]; decide) (by rw [hz1]; decide) ?_ h
  rw [hz1]
  simpa [hx, Value.cells] using hf
theorem blk_grown {w w' : World} {r : Option Nat} {k : Nat} {t : TypeId} {A : Array Value} (h : w.grownBy w' r) (hk : Blk w k t A) (hne : some k ≠ r) : Blk w' k t A := (h.block k hk.lt hne).trans hk
end Go.Proofs.YtjkdonjcngmjeaaDoor.sh
/-
  codec.Split, codec.Take.
-/
namespace Go.Proofs.YtjkdonjcngmjeaaDoor.sh
open Go Go.RowKit
set_option linter.unusedVariables false
set_option linter.unusedSimpArgs false

theorem run_neI {o : Oper} {a : Act} {x y : Operand} {m n : Int} {b : Bool} (ho : o.op = .binOp .neq 3 x y 3) (hx : a.eval x = .int .i64 m) (hy : a.eval y = .int .i64 n) (hb : b = !decide (m = n)) (w : World) : (execOp a.eval o).run Tryd.prog w = .ok (.value (.bool b)) w := by
  unfold execOp
  simp only [ho, hx, hy]
  rw [hb]
  by_cases h : m = n
  · subst h; simp [go_sem]
  · have h2 : ¬ (m : Int) = (n : Int) := by omega
    simp [go_sem, h, h2]
end Go.Proofs.YtjkdonjcngmjeaaDoor.sh
/-
  codec.Num, codec.Read.
-/
namespace Go.Proofs.YtjkdonjcngmjeaaDoor.sh
open Go Go.RowKit
set_option linter.unusedVariables false
set_option linter.unusedSimpArgs false

section
variable {ops : Array Oper} {rest : List Oper} {o : Oper} {a : Act} {w : World} {Q : Exit → Act → World → Prop} {d : Nat}
/-- A value, in this world. -/
theorem wv_valW (hd : o.dst = some d) (hw : Region.wanted o (yielded ops a.tmps) = true) (v : Value) (hrun : (execOp a.eval o).run Tryd.prog w = .ok (.value v) w) (h : wpList Tryd.prog ops Q rest (a.put o.dst v) w) : wpList Tryd.prog ops Q (o :: rest) a w :=
  BigFrame.wpList_want hw fun K hK => by
    unfold Oper.wp
    rw [hrun]
    exact hK _ _ h
end
theorem run_c64b {o : Oper} {a : Act} {x : Operand} {m z : Nat} (ho : o.op = .convert 49 5 x) (hx : a.eval x = .int .u64 (m : Int)) (hz : z = m % 256) (w : World) : (execOp a.eval o).run Tryd.prog w = .ok (.value (.int .u8 (z : Int))) w := by
  unfold execOp
  simp only [ho, hx]
  simp [go_sem, IntKind.wrap_u8', hz]
theorem run_shr8u {o : Oper} {a : Act} {x : Operand} {m z : Nat} {u : TypeId} (ho : o.op = .binOp .shr 49 x (.const (.int .u64 8)) u) (hx : a.eval x = .int .u64 (m : Int)) (hz : z = m / 256) (hm : m < 18446744073709551616) (w : World) : (execOp a.eval o).run Tryd.prog w = .ok (.value (.int .u64 (z : Int))) w := by
  have e3 : a.eval (.const (.int .u64 8)) = .int .u64 8 := rfl
  have h3 : (m : Int) / 256 = (z : Int) := by omega
  have h4 : (z : Int) % 18446744073709551616 = (z : Int) := by omega
  unfold execOp
  simp only [ho, hx, e3]
  simp [go_sem, Op.shift, IntKind.bits, IntKind.wrap_u64, Int.fdiv_eq_ediv_of_nonneg _ (show (0 : Int) ≤ 256 by decide), h3, h4]
theorem arr_fromV {o : Oper} {a : Act} {x y : Operand} {g n k : Nat} {p : Option Addr} {t e : TypeId} (ho : o.op = .slice t x (some y) none none) (hx : a.eval x = .pointer (some ⟨g, 0, none⟩)) (hy : a.eval y = .int .i64 (k : Int)) (ht : Tryd.prog.underlying t = some (.array n e)) (sz : ∀ w, (sizeOf e).run Tryd.prog w = .ok 1 w) (hn : k ≤ n) (hp : p = if n = k then some ⟨g, 0, none⟩ else some ⟨g, k, none⟩) (w : World) :
    (execOp a.eval o).run Tryd.prog w = .ok (.value (.slice p (n - k) (n - k))) w := by
  subst hp
  have h1 : ((k : Int) ≤ (n : Int)) := by omega
  unfold execOp
  simp only [ho, hx, hy, Option.map_none, Option.map_some, Instr.sliceAt, Instr.slice, Instr.sliceBounds, Sem.run_bind, run_underlying ht, Result.andThen_ok]
  simp [Instr.sliceBound, asIntOf, sz, go_sem, h1, hn, Addr.add]
  by_cases h0 : k = 0
  · subst h0
    split <;> rfl
  · simp [h0]
    split <;> rfl
theorem set_zero : ∀ (k z : Nat) (D : List Nat), (List.replicate (k + 1) 0 ++ D).set k z = List.replicate k 0 ++ (z :: D)
  | 0, z, D => by simp
  | k + 1, z, D => by
    rw [List.replicate_succ, List.cons_append, List.set_cons_succ, set_zero k z D, List.replicate_succ, List.cons_append]
theorem z8_cells : (#[.int .u8 0, .int .u8 0, .int .u8 0, .int .u8 0, .int .u8 0, .int .u8 0, .int .u8 0, .int .u8 0] : Array Value) = ints .u8 (List.replicate 8 0 ++ []) := by kernel_rfl

set_option maxRecDepth 100000 in
set_option maxHeartbeats 1000000 in
theorem NumD {n : Nat} {w : World} (hn : n < 18446744073709551616) :
    Calls Tryd.prog 48 #[.int .u64 (n : Int)] w fun e w' => e = .returned (.string (strOf (numL n))) ∧ Below w.heap.size w w' := by
  obtain ⟨R, hR⟩ : ∃ R, R = numL n := ⟨_, rfl⟩
  rw [← hR]
  have E0 : Kept ((#[.int .u8 0, .int .u8 0, .int .u8 0, .int .u8 0, .int .u8 0, .int .u8 0, .int .u8 0, .int .u8 0] : Array Value) = ints .u8 (List.replicate 8 0 ++ [])) := ⟨z8_cells⟩
  have A0 : Blk (w.alloc (.cells #[.int .u8 0, .int .u8 0, .int .u8 0, .int .u8 0, .int .u8 0, .int .u8 0, .int .u8 0, .int .u8 0] 104)) w.heap.size 104 (ints .u8 (List.replicate 8 0 ++ [])) := by rw [E0.out]; exact blk_new w _ _
  have Q0 : Below w.heap.size w (w.alloc (.cells #[.int .u8 0, .int .u8 0, .int .u8 0, .int .u8 0, .int .u8 0, .int .u8 0, .int .u8 0, .int .u8 0] 104)) := (Below.refl _ _).alloc (Nat.le_refl _) _
  have KR : Kept (numT n 8 ++ [] = R) := ⟨by rw [hR, List.append_nil]; rfl⟩
  clear hR
  go_enter Tryd.func48, Tryd.ntmps48
  go_wp2_with fail
  generalize hW : w.alloc (.cells #[.int .u8 0, .int .u8 0, .int .u8 0, .int .u8 0, .int .u8 0, .int .u8 0, .int .u8 0, .int .u8 0] 104) = wa at *
  clear hW E0
  go_loopg [0, 4] 8 (fun k s0 s4 wr => ∃ (m : Nat) (D : List Nat), s0 = .int .u64 (m : Int) ∧ s4 = .int .i64 (k : Int) ∧ k ≤ 8 ∧ m < 18446744073709551616 ∧ Kept (m < 256 ^ k ∧ D.length + k = 8 ∧ Bytes D ∧ numT m k ++ D = R) ∧ Below w.heap.size w wr ∧ Blk wr w.heap.size 104 (ints .u8 (List.replicate k 0 ++ D)))
  case atStart => exact ⟨n, [], rfl, rfl, Nat.le_refl _, hn, ⟨hn, rfl, nil_bytes, KR.out⟩, Q0, A0⟩
  case round =>
    rename World => wz
    obtain ⟨m, D, rfl, rfl, hk8, hm, KD, HB, AZ⟩ := hrel
    clear A0 Q0 KR
    by_cases hm0 : m = 0
    case pos =>
      subst hm0
      have h0 : ¬ (0 : Int) < ((0 : Nat) : Int) := by omega
      have eD : Kept (D = R) := ⟨by have := KD.out.2.2.2; rwa [numT_zero, List.nil_append] at this⟩
      obtain ⟨p, hp⟩ : ∃ p : Option Addr, p = if 8 = gk then some ⟨w.heap.size, 0, none⟩ else some ⟨w.heap.size, gk, none⟩ := ⟨_, rfl⟩
      have KPP : Kept _ := ⟨hp⟩
      have sl : Kept (IntsV .u8 (.slice p (8 - gk) (8 - gk)) wz R) := ⟨by
        have hDl : D.length = 8 - gk := by have := KD.out.2.1; omega
        refine ⟨_, 8 - gk, by rw [← eD.out, hDl], by rw [← eD.out, hDl]; exact Nat.le_refl _, fun hne => ?_⟩
        have hg8 : ¬ 8 = gk := fun h => hne (List.eq_nil_of_length_eq_zero (by rw [← eD.out, hDl]; omega))
        refine ⟨⟨w.heap.size, gk, none⟩, by rw [hp, if_neg hg8], AZ.lt, fun j x hx => ?_⟩
        rw [addr_add]
        refine AZ.cell (ints_get ?_)
        rw [List.getElem?_append_right (by rw [List.length_replicate]; omega), List.length_replicate, show gk + j - gk = j by omega, eD.out]
        exact hx⟩
      clear hp
      go_wp2_with (first | ((with_reducible refine wv_val (d := 16) ?hd ?hw (.slice p (8 - gk) (8 - gk)) ?hr ?_); (case hd => rfl); (case hw => kernel_rfl); (case hr => intro w; exact arr_fromV rfl (by kernel_rfl) (by kernel_rfl) Tryd.underlying104 sz_u8 hk8 KPP.out w); simp only [Act.put, List.setIfInBounds_toArray, List.set_cons_succ, List.set_cons_zero]) | ((with_reducible refine wv_valW (d := 17) ?hd ?hw (.string (strOf R)) ?hr ?_); (case hd => rfl); (case hw => kernel_rfl); (case hr => exact run_str rfl (by kernel_rfl) sl.out); simp only [Act.put, List.setIfInBounds_toArray, List.set_cons_succ, List.set_cons_zero]))
      go_ret
      exact ⟨rfl, HB⟩
    case neg =>
      have h0 : (0 : Int) < (m : Int) := by omega
      obtain ⟨k, hk⟩ : ∃ k, gk = k + 1 := by
        cases gk with
        | zero => have := KD.out.1; simp at this; omega
        | succ k => exact ⟨k, rfl⟩
      obtain ⟨z, hz⟩ : ∃ z, z = m % 256 := ⟨_, rfl⟩
      obtain ⟨m2, hm2⟩ : ∃ m2, m2 = m / 256 := ⟨_, rfl⟩
      have KZ : Kept _ := ⟨hz⟩
      have K2 : Kept _ := ⟨hm2⟩
      have K1 : Kept (gk = k + 1) := ⟨hk⟩
      have hk7 : k < 8 := by omega
      have hm2' : m2 < 18446744073709551616 := by omega
      have EB : Kept ((ints .u8 (List.replicate gk 0 ++ D)).setIfInBounds k (.int .u8 (z : Int)) = ints .u8 (List.replicate k 0 ++ (z :: D))) := ⟨by rw [ints_set, hk, set_zero]⟩
      have SB : k < (ints .u8 (List.replicate gk 0 ++ D)).size := by rw [ints_size, List.length_append, List.length_replicate]; omega
      have KD2 : Kept (m2 < 256 ^ k ∧ (z :: D).length + k = 8 ∧ Bytes (z :: D) ∧ numT m2 k ++ (z :: D) = R) := ⟨by
        obtain ⟨d1, d2, d3, d4⟩ := KD.out
        rw [hk, Nat.pow_succ] at d1
        refine ⟨by omega, by rw [List.length_cons]; omega, (bytes_of_all (fun y hy => by simp at hy; omega) : Bytes [z]).append d3, ?_⟩
        rw [← d4, hk]
        show _ = (if m = 0 then [] else numT (m / 256) k ++ [m % 256]) ++ D
        rw [if_neg hm0, hm2, hz, List.append_assoc]
        rfl⟩
      clear hz hm2 hk hm0 KD
      go_wp2_with (first | ((with_reducible refine wv_val (d := 10) ?hd ?hw (.int .i64 (k : Int)) ?hr ?_); (case hd => rfl); (case hw => kernel_rfl); (case hr => intro w; exact run_subZ 1 rfl (by kernel_rfl) K1.out (by omega) w); simp only [Act.put, List.setIfInBounds_toArray, List.set_cons_succ, List.set_cons_zero]) | ((with_reducible refine wv_val (d := 13) ?hd ?hw (.int .u8 (z : Int)) ?hr ?_); (case hd => rfl); (case hw => kernel_rfl); (case hr => intro w; exact run_c64b rfl (by kernel_rfl) KZ.out w); simp only [Act.put, List.setIfInBounds_toArray, List.set_cons_succ, List.set_cons_zero]) | ((with_reducible refine wv_val (d := 14) ?hd ?hw (.pointer (some ⟨w.heap.size, k, none⟩)) ?hr ?_); (case hd => rfl); (case hw => kernel_rfl); (case hr => intro w; exact run_idx rfl (by kernel_rfl) (by kernel_rfl) Tryd.underlying104 hk7 sz_u8 w); simp only [Act.put, List.setIfInBounds_toArray, List.set_cons_succ, List.set_cons_zero]) | (refine wl_setElem rfl 5 sz_u8 (.tmp 14) (.tmp 13) rfl w.heap.size k .u8 (z : Int) rfl rfl _ AZ SB ?_))
      intro w4 A4 P4
      rw [EB.out] at A4
      have HB4 := HB.trans (P4.below (Nat.le_refl _))
      clear AZ HB P4 SB EB
      go_wp2_with (first | ((with_reducible refine wv_val (d := 8) ?hd ?hw (.int .u64 (m2 : Int)) ?hr ?_); (case hd => rfl); (case hw => kernel_rfl); (case hr => intro w; exact run_shr8u rfl (by kernel_rfl) K2.out hm w); simp only [Act.put, List.setIfInBounds_toArray, List.set_cons_succ, List.set_cons_zero]))
      go_roundg k
      case measure => have := K1.out; omega
      case rel => exact ⟨m2, z :: D, rfl, rfl, by omega, hm2', KD2, HB4, A4⟩

/-- What Read answers. -/
def Reads (s : List Nat) : Prop := s.length ≤ 8 ∧ s.head? ≠ some 0
instance decReads (s : List Nat) : Decidable (Reads s) := inferInstanceAs (Decidable (_ ∧ _))
end Go.Proofs.YtjkdonjcngmjeaaDoor.sh
/-
  The reference's Same, Num, Read.
-/
namespace Go.Proofs.YtjkdonjcngmjeaaDoor.sh
open Go Go.RowKit
set_option linter.unusedVariables false
set_option linter.unusedSimpArgs false

end Go.Proofs.YtjkdonjcngmjeaaDoor.sh
/-
  The reference's Join.
-/
namespace Go.Proofs.YtjkdonjcngmjeaaDoor.sh
open Go Go.RowKit
set_option linter.unusedVariables false
set_option linter.unusedSimpArgs false

section
variable {h : List Oper} {A0 A : Act} {W0 : World} {S : Nat → Option (Value → World → Prop)} {sp O : List Nat} {E : List (Nat × Nat)} {i : Nat} {o : Oper}
end
end Go.Proofs.YtjkdonjcngmjeaaDoor.sh
/-
  The reference's Split.
-/
namespace Go.Proofs.YtjkdonjcngmjeaaDoor.sh
open Go Go.RowKit
set_option linter.unusedVariables false
set_option linter.unusedSimpArgs false

end Go.Proofs.YtjkdonjcngmjeaaDoor.sh
/-
  The statements' alive: answers that the document fixes.
-/
namespace Go.Proofs.YtjkdonjcngmjeaaDoor.sh
open Go Go.RowKit
set_option linter.unusedVariables false
set_option linter.unusedSimpArgs false

def s8 : List Nat := [1, 7, 2, 0, 1, 97, 0, 0]
end Go.Proofs.YtjkdonjcngmjeaaDoor.sh
/-
  What the statements of layer 8 take and compare; CodecKinds.
-/
namespace Go.Proofs.YtjkdonjcngmjeaaDoor.sh
open Go Go.RowKit
set_option linter.unusedVariables false
set_option linter.unusedSimpArgs false

set_option maxRecDepth 100000 in
theorem open_strV {H : Type} {enc : TypeId × Value → H} {W : World} {r : Reach} {b0 base : Nat} {sp : Nat → Bool} {held : Bool} {v : Value} {d : DataW H} {p : List MemPlace}
    (hv : Value.okWide Tryd.prog W r b0 9 v) (h : DataW.Trod enc Tryd.prog W base sp held 9 v d p) : ∃ l : List Nat, v = .string (strOf l) ∧ Bytes l ∧ l.length ≤ maxLen := by
  obtain ⟨s, rfl⟩ := WideShapes.okWide_string Tryd.underlying9 hv
  exact open_str Tryd.underlying9 rfl h
theorem join_lenB {k : Nat} {ll : List (List Nat)} (hF : Fits ll) : (joinL k ll).length ≤ maxLen := by
  have := hF.2.2
  rw [joinL_len]
  unfold maxLen
  omega
end Go.Proofs.YtjkdonjcngmjeaaDoor.sh
