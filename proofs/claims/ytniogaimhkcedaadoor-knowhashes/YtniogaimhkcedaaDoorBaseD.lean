/-
  General pieces, joined: CD CE CF SHM CG CH CI CJ CK CL CM CN CO CP DA DB DC.
-/
import Derived.Test.YtniogaimhkcedaaDoorBaseC
import Derived.Recover
import Derived.Shelf.Strings.Repeat
import Derived.Shelf.Small.Wraps
import Derived.Shelf.Strings.Trim
/-
  Texts as one: codec.Join.
-/
namespace Go.Proofs.YtniogaimhkcedaaDoor.sh
open Go Go.RowKit
set_option linter.unusedVariables false
set_option linter.unusedSimpArgs false

/-- What Join answers: bytes, an error's number. -/
def joinS (k : Nat) (ll : List (List Nat)) : List Nat := if Fits ll then joinL k ll else []
def joinE (ll : List (List Nat)) : Nat := if Fits ll then 0 else 3
theorem joinS_fits {k : Nat} {ll : List (List Nat)} (h : Fits ll) : joinS k ll = joinL k ll := if_pos h
theorem joinE_fits {ll : List (List Nat)} (h : Fits ll) : joinE ll = 0 := if_pos h
theorem joinS_not {k : Nat} {ll : List (List Nat)} (h : ¬ Fits ll) : joinS k ll = [] := if_neg h
theorem joinE_not {ll : List (List Nat)} (h : ¬ Fits ll) : joinE ll = 3 := if_neg h
theorem run_shr8 {o : Oper} {a : Act} {x : Operand} {m z : Nat} {u : TypeId} (ho : o.op = .binOp .shr 3 x (.const (.int .u64 8)) u) (hx : a.eval x = .int .i64 (m : Int)) (hz : z = m / 256) (hm : m < 4611686018427387904) (w : World) : (execOp a.eval o).run Tryd.prog w = .ok (.value (.int .i64 (z : Int))) w := by
  have e3 : a.eval (.const (.int .u64 8)) = .int .u64 8 := rfl
  have h3 : (m : Int) / 256 = (z : Int) := by omega
  unfold execOp
  simp only [ho, hx, e3]
  simp [go_sem, Op.shift, IntKind.bits, IntKind.wrap_i64, wrap64, Int.fdiv_eq_ediv_of_nonneg _ (show (0 : Int) ≤ 256 by decide), h3]
  try omega
set_option maxRecDepth 100000 in
set_option maxHeartbeats 2000000 in
theorem JoinD {k : Nat} {ll : List (List Nat)} {v : Value} {w : World} (hk : k < 256) (hv : ValsV v w (strs ll)) (hl : ∀ l ∈ ll, Bytes l ∧ l.length ≤ maxLen) :
    Calls Tryd.prog 23 #[.int .u8 (k : Int), v] w fun e w' => e = .returned (.tuple #[.string (strOf (joinS k ll)), .int .i64 (joinE ll : Int)]) ∧ Below w.heap.size w w' := by
  have KS : Kept (∀ w2, Below w.heap.size w w2 → Calls Tryd.prog 44 #[v] w2 fun e w' => (∃ n : Nat, e = .returned (.tuple #[.int .i64 (n : Int), .bool (decide (Fits ll))]) ∧ (Fits ll → n = (itemsL ll).length + 3)) ∧ w' = w2) := ⟨fun w2 h => sizeOfD (hv.under h) fun l hm => (hl l hm).2⟩
  by_cases hF : Fits ll
  · rw [joinS_fits hF, joinE_fits hF]
    rw [decide_eq_true hF] at KS
    have HJ : Kept (Bytes (joinL k ll)) := ⟨joinL_bytes hk (fun l hm => (hl l hm).1) hF⟩
    have HF : Kept _ := ⟨hF⟩
    have hn255 : ll.length ≤ 255 := hF.1
    obtain ⟨p, c, rfl, hc⟩ := vals_form hv (strs_len ll)
    obtain ⟨n, hn⟩ : ∃ n, n = ll.length := ⟨_, rfl⟩
    rw [← hn] at hv hc KS hn255 ⊢
    obtain ⟨J, hJ⟩ : ∃ J, J = joinL k ll := ⟨_, rfl⟩
    rw [← hJ] at HJ ⊢
    have EJ : Kept _ := ⟨hJ⟩
    have HN : Kept _ := ⟨hn⟩
    have HV : Kept _ := ⟨hv⟩
    have HL : Kept _ := ⟨hl⟩
    clear hJ hn hv hl hF
    go_enter Tryd.func23, Tryd.ntmps23
    go_wp2_with fail
    refine (KS.out _ (Below.refl _ _)).mono ?_
    rintro e w1 ⟨⟨m, rfl, hm⟩, hw1⟩
    obtain rfl := hw1.symm
    have hm' := hm HF.out
    have hmB : m ≤ 281474976710656 := by have := HF.out.2.2; omega
    clear hm hm' KS
    go_wp2_with fail
    refine (bGrow w (Nat.le_refl _) hmB).mono ?_
    rintro e w2 ⟨rfl, b2, q2⟩
    clear hmB
    go_wp2_with fail
    refine (bByte (c := 1) b2 (by decide) q2.size).mono ?_
    rintro e w3 ⟨rfl, b3, q3⟩
    replace q3 := q2.trans q3
    clear b2 q2
    go_wp2_with fail
    refine (bByte (c := k) b3 (by simp) q3.size).mono ?_
    rintro e w4 ⟨rfl, b4, q4⟩
    replace q4 := q3.trans q4
    clear b3 q3
    have n256 : n < 256 := by omega
    go_wp2_with (first | ((with_reducible refine wv_val (d := 25) ?hd ?hw (.int .u8 (n : Int)) ?hr ?_); (case hd => rfl); (case hw => kernel_rfl); (case hr => intro w; exact run_c38 rfl (by kernel_rfl) n256 w); simp only [Act.put, List.setIfInBounds_toArray, List.set_cons_succ, List.set_cons_zero]))
    refine (bByte (c := n) b4 (by simp) q4.size).mono ?_
    rintro e w5 ⟨rfl, b5, q5⟩
    replace q5 := q4.trans q5
    have b5' : Bld w.heap.size w.heap.size (1 :: k :: n :: itemsL (ll.take 0)) w5 := by simpa [itemsL] using b5
    clear b4 q4 b5
    go_wp2_with fail
    go_loopg [29] n (fun g s29 wr => ∃ i : Nat, i + g = n ∧ s29 = .int .i64 (i : Int) ∧ Bld w.heap.size w.heap.size (1 :: k :: n :: itemsL (ll.take i)) wr ∧ Below w.heap.size w wr)
    case atStart => exact ⟨0, by omega, rfl, b5', q5⟩
    case round =>
      rename World => wz
      obtain ⟨i, hik, rfl, bi, qi⟩ := hrel
      clear b5' q5
      by_cases hk0 : gk = 0
      · obtain rfl : n = i := by omega
        have e1 : (1 :: k :: n :: itemsL (ll.take n)) = J := by rw [EJ.out, List.take_of_length_le (by rw [← HN.out]; exact Nat.le_refl _)]; unfold joinL; rw [← HN.out]
        rw [e1] at bi
        clear e1
        go_wp2_with fail
        refine (bString bi HJ.out qi.size).mono ?_
        rintro e w6 ⟨rfl, q6⟩
        go_wp2_with fail
        go_ret2
        exact ⟨rfl, qi.trans q6⟩
      · have hin : i < n := by omega
        have hin' : (i : Int) < (n : Int) := by omega
        obtain ⟨l, h1, h2, h3⟩ := strs_put (show i < ll.length by rw [← HN.out]; exact hin)
        obtain ⟨A, rfl, hA, hcell⟩ := vals_at (HV.out.under qi) h2
        have KC : Kept _ := ⟨hcell⟩
        obtain ⟨z, hz⟩ : ∃ z, z = l.length := ⟨_, rfl⟩
        have KZ : Kept _ := ⟨hz⟩
        have KL : Kept _ := ⟨h1⟩
        have hm := items_takeB (ll := ll) (i := i) (by omega) (fun x hx => HF.out.2.1 x (List.mem_of_mem_take hx))
        have hz4 : z ≤ 4000 := by rw [hz]; exact HF.out.2.1 l h3
        have hlB : Kept (Bytes l) := ⟨(HL.out l h3).1⟩
        have KI : Kept (itemsL (ll.take (i + 1)) = itemsL (ll.take i) ++ itemL l) := ⟨items_take h1⟩
        obtain ⟨x, hx⟩ : ∃ x, x = z / 256 := ⟨_, rfl⟩
        obtain ⟨y, hy⟩ : ∃ y, y = z % 256 := ⟨_, rfl⟩
        have KI2 : Kept (itemL l = x :: y :: l) := ⟨by unfold itemL; rw [← hz, hx, hy]⟩
        have KX : Kept _ := ⟨hx⟩
        have KY : Kept _ := ⟨hy⟩
        have hx8 : x < 256 := by omega
        have hz62 : z < 4611686018427387904 := by omega
        obtain ⟨T, hT⟩ : ∃ T, T = itemsL (ll.take i) := ⟨_, rfl⟩
        rw [← hT] at bi hm KI
        clear h1 h2 h3 hcell hz hx hy hT
        go_wp2_with (first | ((with_reducible refine wv_val (d := 31) ?hd ?hw (.pointer (some (A.add i))) ?hr ?_); (case hd => rfl); (case hw => kernel_rfl); (case hr => intro w; exact run_idxS rfl (by kernel_rfl) (by kernel_rfl) Tryd.underlying29 hin Tryd.sizeOf9 w); simp only [Act.put, List.setIfInBounds_toArray, List.set_cons_succ, List.set_cons_zero]) | ((with_reducible refine wv_elem (d := 32) ?hd ?hw 9 ag_str (.tmp 31) ?ho (A.add i) ?hx (.string (strOf l)) ?hc ?_); (case hd => rfl); (case hw => kernel_rfl); (case ho => rfl); (case hx => kernel_rfl); (case hc => exact KC.out); simp only [Act.put, List.setIfInBounds_toArray, List.set_cons_succ, List.set_cons_zero]) | ((with_reducible refine wv_val (d := 34) ?hd ?hw (.int .i64 (z : Int)) ?hr ?_); (case hd => rfl); (case hw => kernel_rfl); (case hr => intro w; exact run_slen rfl (by kernel_rfl) KZ.out w); simp only [Act.put, List.setIfInBounds_toArray, List.set_cons_succ, List.set_cons_zero]) | ((with_reducible refine wv_val (d := 35) ?hd ?hw (.int .i64 (x : Int)) ?hr ?_); (case hd => rfl); (case hw => kernel_rfl); (case hr => intro w; exact run_shr8 rfl (by kernel_rfl) KX.out hz62 w); simp only [Act.put, List.setIfInBounds_toArray, List.set_cons_succ, List.set_cons_zero]) | ((with_reducible refine wv_val (d := 36) ?hd ?hw (.int .u8 (x : Int)) ?hr ?_); (case hd => rfl); (case hw => kernel_rfl); (case hr => intro w; exact run_c38 rfl (by kernel_rfl) hx8 w); simp only [Act.put, List.setIfInBounds_toArray, List.set_cons_succ, List.set_cons_zero]))
        refine (bByte (c := x) bi (by simp; omega) qi.size).mono ?_
        rintro e w6 ⟨rfl, b6, q6⟩
        replace q6 := qi.trans q6
        clear bi qi KC
        go_wp2_with (first | ((with_reducible refine wv_val (d := 39) ?hd ?hw (.int .i64 (z : Int)) ?hr ?_); (case hd => rfl); (case hw => kernel_rfl); (case hr => intro w; exact run_slen rfl (by kernel_rfl) KZ.out w); simp only [Act.put, List.setIfInBounds_toArray, List.set_cons_succ, List.set_cons_zero]) | ((with_reducible refine wv_val (d := 40) ?hd ?hw (.int .u8 (y : Int)) ?hr ?_); (case hd => rfl); (case hw => kernel_rfl); (case hr => intro w; exact run_conv38 rfl (by kernel_rfl) KY.out w); simp only [Act.put, List.setIfInBounds_toArray, List.set_cons_succ, List.set_cons_zero]))
        refine (bByte (c := y) b6 (by simp; omega) q6.size).mono ?_
        rintro e w7 ⟨rfl, b7, q7⟩
        replace q7 := q6.trans q7
        clear b6 q6
        go_wp2_with fail
        refine (bStr b7 hlB.out (by simp; have := KZ.out; omega) q7.size).mono ?_
        rintro e w8 ⟨⟨r8, rfl⟩, b8, q8⟩
        replace q8 := q7.trans q8
        have e8 : (1 :: k :: n :: T) ++ [x] ++ [y] ++ l = 1 :: k :: n :: itemsL (ll.take (i + 1)) := by rw [KI.out, KI2.out]; simp
        rw [e8] at b8
        clear b7 q7 e8
        go_wp2_with fail
        go_roundg (gk - 1)
        case measure => omega
        case rel => exact ⟨i + 1, by omega, by simp, b8, q8⟩
  · rw [joinS_not hF, joinE_not hF]
    rw [decide_eq_false hF] at KS
    clear hv hl
    go_enter Tryd.func23, Tryd.ntmps23
    go_wp2_with fail
    refine (KS.out _ (Below.refl _ _)).mono ?_
    rintro e w1 ⟨⟨m, rfl, hm⟩, hw1⟩
    obtain rfl := hw1.symm
    clear hm
    go_wp2_with fail
    go_ret2
    exact ⟨rfl, Below.refl _ _⟩
end Go.Proofs.YtniogaimhkcedaaDoor.sh
/-
  What goes through a text: bytes, number, text; where it is too short they panic.
-/
namespace Go.Proofs.YtniogaimhkcedaaDoor.sh
open Go Go.RowKit
set_option linter.unusedVariables false
set_option linter.unusedSimpArgs false

section
variable {ops : Array Oper} {rest : List Oper} {o : Oper} {a : Act} {w : World} {Q : Exit → Act → World → Prop}
/-- A cell is written, whatever value of one cell it gets. -/
theorem wl_set1 (hgd : o.guard = none) (e : TypeId) (sz : ∀ w, (sizeOf e).run Tryd.prog w = .ok 1 w) (x y : Operand) (ho : o.op = .store e x y) (g k : Nat) (v : Value) (hx : a.eval x = .pointer (some ⟨g, k, none⟩)) (hy : a.eval y = v) (h1 : v.oneCell' = true) {t : TypeId} (A : Array Value)
    (hg : Blk w g t A) (hk : k < A.size) (h : ∀ w', Blk w' g t (A.setIfInBounds k v) → Put w w' g → wpList Tryd.prog ops Q rest (a.put o.dst undef) w') : wpList Tryd.prog ops Q (o :: rest) a w :=
  wpList_plain hgd fun K hK => by
    have hc : w.cell? ⟨g, k, none⟩ = some A[k] := cell_row hg (Array.getElem?_eq_getElem hk)
    have hf : w.frozen? ⟨g, k, none⟩ = false := frozen_of_row w g k A _ hg
    have hv : v.cells = #[v] := by cases v <;> simp_all [Value.oneCell', Value.cells]
    have hv' := hv
    unfold Value.cells at hv'
    have hrun : (execOp a.eval o).run Tryd.prog w = .ok .skip (w.setCell ⟨g, k, none⟩ v) := by
      unfold execOp
      simp only [ho, hx, hy, Instr.storeAt, Instr.sureAddr, Sem.run_bind, Sem.run_pure, Result.andThen_ok]
      simp [storeVar, storeCells, sz, go_sem, hc, hf, hv']
      rw [run_store _ _ _ _ _ h1, hc]
      simp [hf]
    unfold Oper.wp
    rw [hrun]
    exact hK _ _ (h _ (heap_setCell_same _ _ _ _ _ _ hg) ⟨⟨rfl, rfl, rfl, by simp, fun j _ hj => heap_setCell_other w ⟨g, k, none⟩ j _ (fun e => hj (by rw [e]))⟩, by simp⟩)
end
/-- A text that is gone through, in a block. -/
def Wk (b : Nat) (l : List Nat) (w : World) : Prop := Blk w b 131 #[.string (strOf l)]

set_option maxRecDepth 100000 in
set_option maxHeartbeats 1000000 in
theorem bytes_ok {b n : Nat} {l : List Nat} {w : World} (h : Wk b l w) (hn : n ≤ l.length) (hm : l.length < 4611686018427387904) :
    Calls Tryd.prog 85 #[.pointer (some ⟨b, 0, none⟩), .int .i64 (n : Int)] w fun e w' => e = .returned (.string (strOf (l.take n))) ∧ Wk b (l.drop n) w' ∧ Put w w' b := by
  obtain ⟨T, hT⟩ : ∃ T, T = l.take n := ⟨_, rfl⟩
  obtain ⟨D, hD⟩ : ∃ D, D = l.drop n := ⟨_, rfl⟩
  obtain ⟨m, hM⟩ : ∃ m, m = l.length := ⟨_, rfl⟩
  rw [← hT, ← hD]
  have KT : Kept _ := ⟨hT⟩
  have KD : Kept _ := ⟨hD⟩
  have KM : Kept _ := ⟨hM⟩
  have KN : Kept _ := ⟨hn⟩
  have KH : Kept _ := ⟨h⟩
  have h1 : ¬ (m : Int) < (n : Int) := by omega
  clear hT hD hM hn h
  go_enter Tryd.func85, Tryd.ntmps85
  go_wp2_with (first | ((with_reducible refine wv_elem (d := 10) ?hd ?hw 9 ag_str (.tmp 9) ?ho (⟨b, 0, none⟩) ?hx (.string (strOf l)) ?hc ?_); (case hd => rfl); (case hw => kernel_rfl); (case ho => rfl); (case hx => kernel_rfl); (case hc => exact (cell_row KH.out rfl)); simp only [Act.put, List.setIfInBounds_toArray, List.set_cons_succ, List.set_cons_zero]) | ((with_reducible refine wv_val (d := 11) ?hd ?hw (.int .i64 (m : Int)) ?hr ?_); (case hd => rfl); (case hw => kernel_rfl); (case hr => intro w; exact run_slen rfl (by kernel_rfl) KM.out w); simp only [Act.put, List.setIfInBounds_toArray, List.set_cons_succ, List.set_cons_zero]) | ((with_reducible refine wv_elem (d := 17) ?hd ?hw 9 ag_str (.tmp 16) ?ho (⟨b, 0, none⟩) ?hx (.string (strOf l)) ?hc ?_); (case hd => rfl); (case hw => kernel_rfl); (case ho => rfl); (case hx => kernel_rfl); (case hc => exact (cell_row KH.out rfl)); simp only [Act.put, List.setIfInBounds_toArray, List.set_cons_succ, List.set_cons_zero]) | ((with_reducible refine wv_val (d := 19) ?hd ?hw (.string (strOf T)) ?hr ?_); (case hd => rfl); (case hw => kernel_rfl); (case hr => intro w; exact run_scutT rfl (by kernel_rfl) (by kernel_rfl) KN.out KT.out w); simp only [Act.put, List.setIfInBounds_toArray, List.set_cons_succ, List.set_cons_zero]) | ((with_reducible refine wv_elem (d := 24) ?hd ?hw 9 ag_str (.tmp 23) ?ho (⟨b, 0, none⟩) ?hx (.string (strOf l)) ?hc ?_); (case hd => rfl); (case hw => kernel_rfl); (case ho => rfl); (case hx => kernel_rfl); (case hc => exact (cell_row KH.out rfl)); simp only [Act.put, List.setIfInBounds_toArray, List.set_cons_succ, List.set_cons_zero]) | ((with_reducible refine wv_val (d := 26) ?hd ?hw (.string (strOf D)) ?hr ?_); (case hd => rfl); (case hw => kernel_rfl); (case hr => intro w; exact run_scutF rfl (by kernel_rfl) (by kernel_rfl) KN.out KD.out w); simp only [Act.put, List.setIfInBounds_toArray, List.set_cons_succ, List.set_cons_zero]) | (refine wl_set1 rfl 9 Tryd.sizeOf9 (.tmp 28) (.tmp 26) rfl b 0 (.string (strOf D)) rfl rfl rfl #[.string (strOf l)] KH.out Nat.zero_lt_one ?_))
  intro w2 b2 p2
  go_wp2_with fail
  go_ret
  exact ⟨rfl, b2, p2⟩
/-- What it panics with. -/
def PV : Value := .iface 9 (.string { data := #[99, 111, 100, 101, 99, 58, 32, 97, 32, 116, 101, 120, 116, 32, 116, 104, 97, 116, 32, 105, 115, 32, 116, 111, 111, 32, 115, 104, 111, 114, 116] })
def Dies (e : Ending) : Prop := e = .panicked [{ v := PV, recovered := false }]
theorem gb_refl (w : World) (r : Option Nat) : w.grownBy w r := ⟨rfl, rfl, rfl, Nat.le_refl _, fun _ _ _ => rfl⟩
theorem gb_trans {w w1 w2 : World} {r : Option Nat} (h : w.grownBy w1 r) (h2 : w1.grownBy w2 r) : w.grownBy w2 r := ⟨h2.os.trans h.os, h2.tape.trans h.tape, h2.output.trans h.output, Nat.le_trans h.size h2.size, fun k hk hr => (h2.block k (Nat.lt_of_lt_of_le hk h.size) hr).trans (h.block k hk hr)⟩
theorem gb_below {w w' : World} {B b : Nat} (h : w.grownBy w' (some b)) (hB : B ≤ w.heap.size) (hb : B ≤ b) : Below B w w' := grown_mono h hB (fun k hk => by cases hk; exact hb)
theorem gb_under {w w' : World} (h : Below w.heap.size w w') (r : Option Nat) : w.grownBy w' r := ⟨h.os, h.tape, h.output, h.size, fun k hk _ => h.block k hk⟩
theorem gb_blk {w w' : World} {b k : Nat} {t : TypeId} {A : Array Value} (h : w.grownBy w' (some b)) (hk : Blk w k t A) (hne : k ≠ b) : Blk w' k t A := (h.block k hk.lt (fun e => by cases e; exact hne rfl)).trans hk
theorem Wk.under {b : Nat} {l : List Nat} {w w' : World} (h : Wk b l w) (hb : Below w.heap.size w w') : Wk b l w' := Blk.under h hb

set_option maxRecDepth 100000 in
set_option maxHeartbeats 1000000 in
theorem bytes_dies {b n : Nat} {l : List Nat} {w : World} (h : Wk b l w) (hn : l.length < n) :
    Calls Tryd.prog 85 #[.pointer (some ⟨b, 0, none⟩), .int .i64 (n : Int)] w fun e w' => Dies e ∧ w' = w := by
  obtain ⟨m, hM⟩ : ∃ m, m = l.length := ⟨_, rfl⟩
  have KM : Kept _ := ⟨hM⟩
  have KH : Kept _ := ⟨h⟩
  have h1 : (m : Int) < (n : Int) := by omega
  clear hM hn h
  go_enter Tryd.func85, Tryd.ntmps85
  go_wp2_with (first | ((with_reducible refine wv_elem (d := 10) ?hd ?hw 9 ag_str (.tmp 9) ?ho (⟨b, 0, none⟩) ?hx (.string (strOf l)) ?hc ?_); (case hd => rfl); (case hw => kernel_rfl); (case ho => rfl); (case hx => kernel_rfl); (case hc => exact (cell_row KH.out rfl)); simp only [Act.put, List.setIfInBounds_toArray, List.set_cons_succ, List.set_cons_zero]) | ((with_reducible refine wv_val (d := 11) ?hd ?hw (.int .i64 (m : Int)) ?hr ?_); (case hd => rfl); (case hw => kernel_rfl); (case hr => intro w; exact run_slen rfl (by kernel_rfl) KM.out w); simp only [Act.put, List.setIfInBounds_toArray, List.set_cons_succ, List.set_cons_zero]))
  exact ⟨rfl, rfl, rfl⟩
set_option maxRecDepth 100000 in
set_option maxHeartbeats 1000000 in
theorem number_ok {b x : Nat} {r : List Nat} {w : World} (h : Wk b (x :: r) w) (hx : x < 256) (hy : Bytes (x :: r)) (hm : (x :: r).length < 4611686018427387904) :
    Calls Tryd.prog 77 #[.pointer (some ⟨b, 0, none⟩)] w fun e w' => e = .returned (.int .i64 (x : Int)) ∧ Wk b r w' ∧ Put w w' b := by
  have CB := bytes_ok (n := 1) h (by simp) hm
  have hy1 : Bytes [x] := bytes_of_all (fun y hy => by simp at hy; omega)
  go_enter Tryd.func77, Tryd.ntmps77
  go_wp2_with fail
  refine CB.mono ?_
  rintro e w1 ⟨rfl, b1, p1⟩
  have e1 : (x :: r).take 1 = [x] := rfl
  rw [e1]
  go_wp2_with (first | ((with_reducible refine wv_val (d := 5) ?hd ?hw (.int .u8 (x : Int)) ?hr ?_); (case hd => rfl); (case hw => kernel_rfl); (case hr => intro w; exact run_sidx (i := 0) rfl (by kernel_rfl) rfl hy1 rfl w); simp only [Act.put, List.setIfInBounds_toArray, List.set_cons_succ, List.set_cons_zero]) | ((with_reducible refine wv_val (d := 6) ?hd ?hw (.int .i64 (x : Int)) ?hr ?_); (case hd => rfl); (case hw => kernel_rfl); (case hr => intro w; exact run_conv83 rfl (by kernel_rfl) hx w); simp only [Act.put, List.setIfInBounds_toArray, List.set_cons_succ, List.set_cons_zero]))
  go_ret
  exact ⟨rfl, b1, p1⟩
set_option maxRecDepth 100000 in
set_option maxHeartbeats 1000000 in
theorem number_dies {b : Nat} {w : World} (h : Wk b [] w) :
    Calls Tryd.prog 77 #[.pointer (some ⟨b, 0, none⟩)] w fun e w' => Dies e ∧ w' = w := by
  have CB := bytes_dies (n := 1) h (by simp)
  go_enter Tryd.func77, Tryd.ntmps77
  go_wp2_with fail
  refine CB.mono ?_
  rintro e w1 ⟨hd, rfl⟩
  obtain rfl := hd
  exact ⟨rfl, rfl, rfl⟩
theorem run_shl8 {o : Oper} {a : Act} {x : Operand} {m z : Nat} {u : TypeId} (ho : o.op = .binOp .shl 3 x (.const (.int .u64 8)) u) (hx : a.eval x = .int .i64 (m : Int)) (hz : z = m * 256) (hm : m < 65536) (w : World) : (execOp a.eval o).run Tryd.prog w = .ok (.value (.int .i64 (z : Int))) w := by
  have e3 : a.eval (.const (.int .u64 8)) = .int .u64 8 := rfl
  unfold execOp
  simp only [ho, hx, e3]
  simp [go_sem, Op.shift, IntKind.bits, IntKind.wrap_i64, wrap64]
  omega
theorem i64_or_nat (a b : Nat) (ha : a < 9223372036854775808) (hb : b < 9223372036854775808) : bits .or .i64 (a : Int) (b : Int) = ((a ||| b : Nat) : Int) := by
  have hx : a ||| b < 2 ^ 63 := Nat.or_lt_two_pow (by omega) (by omega)
  show IntKind.i64.wrap ((BitVec.ofInt 64 (a : Int) ||| BitVec.ofInt 64 (b : Int)).toNat : Int) = _
  rw [BitVec.toNat_or, ofInt_u64 a (by omega), ofInt_u64 b (by omega), IntKind.wrap_i64]
  omega
theorem or_256 (a b : Nat) (hb : b < 256) : a * 256 ||| b = 256 * a + b := by
  have h := Nat.two_pow_add_eq_or_of_lt (i := 8) (b := b) hb a
  rw [show (2 : Nat) ^ 8 = 256 by decide] at h
  rw [Nat.mul_comm a 256, ← h]
theorem run_or8 {o : Oper} {a : Act} {x y : Operand} {m n p z : Nat} (ho : o.op = .binOp .or 3 x y 3) (hx : a.eval x = .int .i64 (m : Int)) (hy : a.eval y = .int .i64 (n : Int)) (hm : m = p * 256) (hp : p < 65536) (hn : n < 256) (hz : z = 256 * p + n) (w : World) : (execOp a.eval o).run Tryd.prog w = .ok (.value (.int .i64 (z : Int))) w := by
  have h := i64_or_nat m n (by omega) (by omega)
  rw [hm, or_256 p n hn, ← hz, ← hm] at h
  unfold execOp
  simp only [ho, hx, hy]
  simp [go_sem]
  exact h
set_option maxRecDepth 100000 in
set_option maxHeartbeats 1000000 in
theorem Clone_any (l : List Nat) (w : World) (hl : l.length ≤ 281474976710656) :
    Calls Tryd.prog 39 #[.string (strOf l)] w fun e w' => e = .returned (.string (strOf l)) ∧ Below w.heap.size w w' := by
  go_enter Tryd.func39, Tryd.ntmps39
  go_wp2_with fail
  refine (sClone l w hl).mono ?_
  rintro e w1 ⟨rfl, q⟩
  go_wp2_with fail
  go_ret
  exact ⟨rfl, q⟩
set_option maxRecDepth 100000 in
set_option maxHeartbeats 1000000 in
theorem text_ok {b x y n : Nat} {r : List Nat} {w : World} (h : Wk b (x :: y :: r) w) (hy : Bytes (x :: y :: r)) (hm : (x :: y :: r).length ≤ 1000000) (hn : n = 256 * x + y) (hr : n ≤ r.length) :
    Calls Tryd.prog 78 #[.pointer (some ⟨b, 0, none⟩)] w fun e w' => e = .returned (.string (strOf (r.take n))) ∧ Wk b (r.drop n) w' ∧ w.grownBy w' (some b) := by
  have hx8 : x < 256 := hy 0 x rfl
  have hy8 : y < 256 := hy 1 y rfl
  have hr2 : Bytes (y :: r) := fun i z hz => hy (i + 1) z hz
  have hL : r.length + 2 ≤ 1000000 := by simpa using hm
  have C1 := number_ok h hx8 hy (by simp; omega)
  have C2 := fun w2 (h2 : Wk b (y :: r) w2) => number_ok h2 hy8 hr2 (by simp; omega)
  have C3 := fun w2 (h2 : Wk b r w2) => bytes_ok h2 hr (by omega)
  have C4 := fun w2 => Clone_any (r.take n) w2 (by rw [List.length_take]; omega)
  obtain ⟨T, hT⟩ : ∃ T, T = r.take n := ⟨_, rfl⟩
  obtain ⟨D, hD⟩ : ∃ D, D = r.drop n := ⟨_, rfl⟩
  rw [← hT] at C4
  have C3 : Kept (∀ w2, Wk b r w2 → Calls Tryd.prog 85 #[.pointer (some ⟨b, 0, none⟩), .int .i64 (n : Int)] w2 fun e w' => e = .returned (.string (strOf T)) ∧ Wk b D w' ∧ Put w2 w' b) := ⟨by rw [hT, hD]; exact C3⟩
  rw [← hT, ← hD]
  obtain ⟨m, hM⟩ : ∃ m, m = x * 256 := ⟨_, rfl⟩
  have KM : Kept _ := ⟨hM⟩
  have KN : Kept _ := ⟨hn⟩
  have hx6 : x < 65536 := by omega
  clear hM hn hT hD hr hy hr2 hm hL h
  go_enter Tryd.func78, Tryd.ntmps78
  go_wp2_with fail
  refine C1.mono ?_
  rintro e w1 ⟨rfl, b1, p1⟩
  go_wp2_with fail
  refine (C2 _ b1).mono ?_
  rintro e w2 ⟨rfl, b2, p2⟩
  replace p2 := gb_trans p1.grown p2.grown
  clear b1 p1 C1 C2
  go_wp2_with (first | ((with_reducible refine wv_val (d := 11) ?hd ?hw (.int .i64 (m : Int)) ?hr ?_); (case hd => rfl); (case hw => kernel_rfl); (case hr => intro w; exact run_shl8 rfl (by kernel_rfl) KM.out hx6 w); simp only [Act.put, List.setIfInBounds_toArray, List.set_cons_succ, List.set_cons_zero]) | ((with_reducible refine wv_val (d := 13) ?hd ?hw (.int .i64 (n : Int)) ?hr ?_); (case hd => rfl); (case hw => kernel_rfl); (case hr => intro w; exact run_or8 rfl (by kernel_rfl) (by kernel_rfl) KM.out hx6 hy8 KN.out w); simp only [Act.put, List.setIfInBounds_toArray, List.set_cons_succ, List.set_cons_zero]))
  refine (C3.out _ b2).mono ?_
  rintro e w3 ⟨rfl, b3, p3⟩
  replace p3 := gb_trans p2 p3.grown
  clear b2 p2 C3
  go_wp2_with fail
  refine (C4 w3).mono ?_
  rintro e w4 ⟨rfl, q4⟩
  go_wp2_with fail
  go_ret
  exact ⟨rfl, b3.under q4, gb_trans p3 (gb_under q4 _)⟩
/-- The three ways in which a text is too short. -/
def Short (l : List Nat) : Prop := l = [] ∨ (∃ x, l = [x]) ∨ ∃ x y r, l = x :: y :: r ∧ r.length < 256 * x + y
set_option maxRecDepth 100000 in
set_option maxHeartbeats 1000000 in
theorem text_dies {b : Nat} {l : List Nat} {w : World} (h : Wk b l w) (hy : Bytes l) (hm : l.length ≤ 1000000) (hs : Short l) :
    Calls Tryd.prog 78 #[.pointer (some ⟨b, 0, none⟩)] w fun e w' => Dies e ∧ w.grownBy w' (some b) := by
  rcases hs with rfl | ⟨x, rfl⟩ | ⟨x, y, r, rfl, hr⟩
  · have C1 := number_dies h
    go_enter Tryd.func78, Tryd.ntmps78
    go_wp2_with fail
    refine C1.mono ?_
    rintro e w1 ⟨hd, rfl⟩
    obtain rfl := hd
    exact ⟨rfl, rfl, gb_refl _ _⟩
  · have C1 := number_ok h (hy 0 x rfl) hy (by simp)
    have C2 := fun w2 (h2 : Wk b [] w2) => number_dies h2
    go_enter Tryd.func78, Tryd.ntmps78
    go_wp2_with fail
    refine C1.mono ?_
    rintro e w1 ⟨rfl, b1, p1⟩
    go_wp2_with fail
    refine (C2 _ b1).mono ?_
    rintro e w2 ⟨hd, rfl⟩
    obtain rfl := hd
    exact ⟨rfl, rfl, p1.grown⟩
  · have hx8 : x < 256 := hy 0 x rfl
    have hy8 : y < 256 := hy 1 y rfl
    have hr2 : Bytes (y :: r) := fun i z hz => hy (i + 1) z hz
    have hL : r.length + 2 ≤ 1000000 := by simpa using hm
    have C1 := number_ok h hx8 hy (by simp; omega)
    have C2 := fun w2 (h2 : Wk b (y :: r) w2) => number_ok h2 hy8 hr2 (by simp; omega)
    obtain ⟨n, hn⟩ : ∃ n, n = 256 * x + y := ⟨_, rfl⟩
    rw [← hn] at hr
    have C3 := fun w2 (h2 : Wk b r w2) => bytes_dies h2 hr
    obtain ⟨m, hM⟩ : ∃ m, m = x * 256 := ⟨_, rfl⟩
    have KM : Kept _ := ⟨hM⟩
    have KN : Kept _ := ⟨hn⟩
    have hx6 : x < 65536 := by omega
    clear hM hn hr hy hr2 hm hL h
    go_enter Tryd.func78, Tryd.ntmps78
    go_wp2_with fail
    refine C1.mono ?_
    rintro e w1 ⟨rfl, b1, p1⟩
    go_wp2_with fail
    refine (C2 _ b1).mono ?_
    rintro e w2 ⟨rfl, b2, p2⟩
    replace p2 := gb_trans p1.grown p2.grown
    clear b1 p1 C1 C2
    go_wp2_with (first | ((with_reducible refine wv_val (d := 11) ?hd ?hw (.int .i64 (m : Int)) ?hr ?_); (case hd => rfl); (case hw => kernel_rfl); (case hr => intro w; exact run_shl8 rfl (by kernel_rfl) KM.out hx6 w); simp only [Act.put, List.setIfInBounds_toArray, List.set_cons_succ, List.set_cons_zero]) | ((with_reducible refine wv_val (d := 13) ?hd ?hw (.int .i64 (n : Int)) ?hr ?_); (case hd => rfl); (case hw => kernel_rfl); (case hr => intro w; exact run_or8 rfl (by kernel_rfl) (by kernel_rfl) KM.out hx6 hy8 KN.out w); simp only [Act.put, List.setIfInBounds_toArray, List.set_cons_succ, List.set_cons_zero]))
    refine (C3 _ b2).mono ?_
    rintro e w3 ⟨hd, rfl⟩
    obtain rfl := hd
    exact ⟨rfl, rfl, p2⟩
end Go.Proofs.YtniogaimhkcedaaDoor.sh
/-
  A region that draws its order, order by order: what may come first, each carried out as in a plain region.
-/
namespace Go.Proofs.YtniogaimhkcedaaDoor.sh
open Go Go.RowKit
set_option linter.unusedVariables false
set_option linter.unusedSimpArgs false

section
variable {P : Program} {ops : Array Oper} {Q : Exit → Act → World → Prop} {a : Act} {w : World}
theorem wp_then {o : Oper} {K X : Act → World → Prop} (h : o.wp P a w X (Exit.then K Q)) : o.wp P a w X Q := by
  unfold Oper.wp at *
  generalize (execOp a.eval o).run P w = r at *
  cases r with
  | ok n w' => cases n <;> exact h
  | halt x w' => cases x <;> exact h
theorem any_op {i : Nat} {o : Oper} {K : Act → World → Prop} (ho : ops[i]? = some o) (h : wpList P ops (Exit.then K Q) [o] a w) : wpOp P ops Q i K a w := by
  unfold wpOp
  simp only [ho]
  unfold wpList at h
  split
  · next hw =>
    rw [if_pos hw] at h
    rcases h with h | h
    · exact .inl (wp_then (Oper.wp_mono (fun a w h => h) h))
    · exact .inr h
  · next hw =>
    rw [if_neg hw] at h
    exact h
theorem any0 {n : Nat} {listed : Array Bool} (hr : Region.ready .any ops listed = []) (h : Q .normal a w) : wpAny P .any ops Q n listed a w := by
  cases n with
  | zero => exact ⟨hr, h⟩
  | succ n => exact ⟨fun _ => h, fun i hi => by rw [hr] at hi; cases hi⟩
theorem any1 {n f i : Nat} {o : Oper} {listed : Array Bool} (hn : n = f + 1) (hr : Region.ready .any ops listed = [i]) (ho : ops[i]? = some o) (h : wpList P ops (Exit.then (wpAny P .any ops Q f (listed.setIfInBounds i true)) Q) [o] a w) : wpAny P .any ops Q n listed a w := by
  subst hn
  refine ⟨fun h => (by rw [hr] at h; cases h), fun j hj => ?_⟩
  rw [hr, List.mem_singleton] at hj
  subst hj
  exact any_op ho h
theorem any2 {n f i j : Nat} {o u : Oper} {listed : Array Bool} (hn : n = f + 1) (hr : Region.ready .any ops listed = [i, j]) (ho : ops[i]? = some o) (hu : ops[j]? = some u) (h : wpList P ops (Exit.then (wpAny P .any ops Q f (listed.setIfInBounds i true)) Q) [o] a w) (h2 : wpList P ops (Exit.then (wpAny P .any ops Q f (listed.setIfInBounds j true)) Q) [u] a w) : wpAny P .any ops Q n listed a w := by
  subst hn
  refine ⟨fun h => (by rw [hr] at h; cases h), fun k hk => ?_⟩
  rw [hr, List.mem_cons, List.mem_singleton] at hk
  rcases hk with rfl | rfl
  · exact any_op ho h
  · exact any_op hu h2
/-- Whatever order it draws, it comes to the same. -/
theorem region_to {id : Nat} (C : Act → Act → World → Prop) (hm : P.follows .mixedOrders = true) (h : ∀ Q' : Exit → Act → World → Prop, (∀ a' w', C a a' w' → Q' .normal a' w') → (∀ ch a' w', Q (.panic ch) a' w' → Q' (.panic ch) a' w') → wpAny P .any ops Q' ops.size (Array.replicate ops.size false) a { w with drawn := w.drawn + 1 }) (hq : ∀ a' w', C a a' w' → Q .normal a' w') : (Code.region id ops true).wp P Q a w :=
  wp_region_any hm (h Q hq fun _ _ _ h => h)
theorem put_comm (a : Act) (d e : Nat) (h : d ≠ e) (x y : Value) : (a.put (some d) x).put (some e) y = (a.put (some e) y).put (some d) x := by
  unfold Act.put
  simp only
  rw [Array.setIfInBounds_comm _ _ h]
end

section
variable {P : Program} {ops : Array Oper} {Q : Exit → Act → World → Prop} {a : Act} {w : World} {rest : List Oper} {o : Oper}
/-- A call in a plain list, by its contract: it returns. -/
theorem wl_callC (hgd : o.guard = none) (f : Nat) (fn : Func) (c : Code) (xs : List Operand) (ts : Array TypeId) (args : Array Value) (ho : o.op = .call { callee := .value (.func f), args := xs.toArray, argTypes := ts }) (hx : (xs.map a.eval).toArray = args) (hf : P.funcs[f]? = some fn) (hname : (fn.name == "runtime.NumGoroutine") = false) (hb : fn.body = some c) {R : Value → World → Prop}
    (hc : Calls P f args w fun e w' => ∃ v, e = .returned v ∧ R v w') (h : ∀ v w', R v w' → wpList P ops Q rest (a.put o.dst v) w') : wpList P ops Q (o :: rest) a w :=
  wpList_plain hgd fun K hK => by
    have h1 : fn.name ≠ "runtime.NumGoroutine" := by simpa using hname
    have hrun : (execOp a.eval o).run P w = .ok (.enter f args) w := by
      rw [← hx]
      unfold execOp
      simp only [ho, resolve, List.map_toArray, Act.eval]
      simp [Deferred.ofValue, invoke, callFunc, hf, h1, hb]
    unfold Oper.wp
    rw [hrun]
    simp only [Oper.upon]
    refine hc.mono fun e w' hh => ?_
    obtain ⟨v, rfl, hR⟩ := hh
    exact hK _ _ (h v w' hR)
/-- .. it panics. -/
theorem wl_callP (hgd : o.guard = none) (f : Nat) (fn : Func) (c : Code) (xs : List Operand) (ts : Array TypeId) (args : Array Value) (ho : o.op = .call { callee := .value (.func f), args := xs.toArray, argTypes := ts }) (hx : (xs.map a.eval).toArray = args) (hf : P.funcs[f]? = some fn) (hname : (fn.name == "runtime.NumGoroutine") = false) (hb : fn.body = some c)
    (hc : Calls P f args w fun e w' => ∃ ch, e = .panicked ch ∧ Q (.panic ch) a w') : wpList P ops Q (o :: rest) a w :=
  wpList_plain hgd fun K hK => by
    have h1 : fn.name ≠ "runtime.NumGoroutine" := by simpa using hname
    have hrun : (execOp a.eval o).run P w = .ok (.enter f args) w := by
      rw [← hx]
      unfold execOp
      simp only [ho, resolve, List.map_toArray, Act.eval]
      simp [Deferred.ofValue, invoke, callFunc, hf, h1, hb]
    unfold Oper.wp
    rw [hrun]
    simp only [Oper.upon]
    refine hc.mono fun e w' hh => ?_
    obtain ⟨ch, rfl, hR⟩ := hh
    exact hR
end
end Go.Proofs.YtniogaimhkcedaaDoor.sh
/-
  A region that draws its order, in which stores may stand that change nothing (each writes what the cell holds).
-/
namespace Go.Proofs.YtniogaimhkcedaaDoor.sh
open Go Go.RowKit
set_option linter.unusedVariables false
set_option linter.unusedSimpArgs false

/-- What is asked of each operation: it is carried out, or left out, or writes what is there. -/
def SkipOkM (P : Program) (h : List Oper) (A0 : Act) (W0 : World) (R : Nat → Value → World → Prop) (i : Nat) (o : Oper) : Prop :=
  SkipOk P h A0 W0 R i o ∨ (o.dst = none ∧ ∀ a w, Fr h A0 a → Below W0.heap.size W0 w → GotE h [] R [] W0.heap.size i a w o → Region.wanted o (yielded h.toArray a.tmps) = true ∧ o.wp P a w (fun a' w' => a' = a ∧ w' = w) (fun _ _ _ => False))
def SkipAllM (P : Program) (h : List Oper) (A0 : Act) (W0 : World) (R : Nat → Value → World → Prop) : Nat → List Oper → Prop
  | _, [] => True
  | i, o :: r => SkipOkM P h A0 W0 R i o ∧ SkipAllM P h A0 W0 R (i + 1) r
theorem skipAllM_get {P : Program} {h : List Oper} {A0 : Act} {W0 : World} {R : Nat → Value → World → Prop} : ∀ (r : List Oper) (k : Nat), SkipAllM P h A0 W0 R k r → ∀ i o, r[i]? = some o → SkipOkM P h A0 W0 R (k + i) o
  | [], _, _, i, o, ho => by simp at ho
  | x :: r, k, hr, 0, o, ho => by simp at ho; subst ho; exact hr.1
  | x :: r, k, hr, i + 1, o, ho => by
    have := skipAllM_get r (k + 1) hr.2 i o (by simpa using ho)
    rwa [show k + 1 + i = k + (i + 1) from by omega] at this
theorem setCell_same {w : World} {g k : Nat} {t : TypeId} {A : Array Value} {v : Value} (hg : Blk w g t A) (hk : A[k]? = some v) : w.setCell ⟨g, k, none⟩ v = w := by
  have e : w.heap.modify g (fun o => match o with | .cells c elem frozen => .cells (if (none : Option Nat).isSome then c else c.setIfInBounds k v) elem frozen | o => o) = w.heap := by
    apply Array.ext_getElem?
    intro i
    rw [Array.getElem?_modify]
    by_cases h : g = i
    · subst h
      rw [if_pos rfl]
      have h2 : A.setIfInBounds k v = A := by
        apply Array.ext_getElem?
        intro j
        by_cases hj : k = j
        · subst hj
          rw [Array.getElem?_setIfInBounds_self, hk]
          simp [(Array.getElem?_eq_some_iff.1 hk).1]
        · rw [Array.getElem?_setIfInBounds_ne hj]
      have hg' : w.heap[g]? = some (.cells A t (0, 0)) := hg
      rw [hg']
      simp [h2]
    · rw [if_neg h]
  unfold World.setCell
  show ({ w with heap := _ } : World) = w
  cases w
  simp only [World.mk.injEq, and_true, true_and] at e ⊢
  exact e
/-- A store that writes what is there. -/
theorem same_store {h : List Oper} {A0 A : Act} {W0 : World} {R : Nat → Value → World → Prop} {S : Nat → Option (Value → World → Prop)} {sp : List Nat} {i : Nat} {o : Oper} (hA : Full h A0 A S sp) (hR : R = relR A S) (hgd : o.guard = none) (hd : o.dst = none) (e : TypeId) (sz : ∀ w, (sizeOf e).run Tryd.prog w = .ok 1 w) (p s : Nat) (ho : o.op = .store e (.tmp p) (.tmp s)) (g k : Nat) (v : Value) (hp : (h.all fun o => decide (o.dst ≠ some p)) = true) (hp0 : A0.tmps[p]? = some (.pointer (some ⟨g, k, none⟩))) (hw : waitsFor h o s = true) (hs : sp.contains s = false) (hv : A.tmps[s]? = some v) (h1 : v.oneCell' = true) {t : TypeId} (B : Array Value) (hg : Blk W0 g t B) (hk : B[k]? = some v) : SkipOkM Tryd.prog h A0 W0 R i o :=
  .inr ⟨hd, fun a w hF hB hgot => by
    subst hR
    obtain ⟨u, e1, e2, _⟩ := hgot s hw rfl
    unfold relR at e2
    rw [hA.spec s (not_mem_of hs), hv] at e2
    cases e2
    have hpa : a.tmps[p]? = some (.pointer (some ⟨g, k, none⟩)) := by
      rw [hF.out p (fun i o ho' hd' => by
        have := List.all_eq_true.1 hp o (List.mem_of_getElem? ho')
        simp at this
        exact this hd')]
      exact hp0
    refine ⟨by simp [Region.wanted, hgd], ?_⟩
    have hgw : Blk w g t B := hg.under hB
    have hc : w.cell? ⟨g, k, none⟩ = some v := cell_row hgw hk
    have hf : w.frozen? ⟨g, k, none⟩ = false := frozen_of_row w g k B _ hgw
    have hv : v.cells = #[v] := by cases v <;> simp_all [Value.oneCell', Value.cells]
    have hv' := hv
    unfold Value.cells at hv'
    have x1 : a.eval (.tmp p) = .pointer (some ⟨g, k, none⟩) := by simp [Act.eval, hpa]
    have x2 : a.eval (.tmp s) = v := by simp [Act.eval, e1]
    have hrun : (execOp a.eval o).run Tryd.prog w = .ok .skip w := by
      unfold execOp
      simp only [ho, x1, x2, Instr.storeAt, Instr.sureAddr, Sem.run_bind, Sem.run_pure, Result.andThen_ok]
      simp [storeVar, storeCells, sz, go_sem, hc, hf, hv']
      rw [run_store _ _ _ _ _ h1, hc]
      simp [hf, setCell_same hgw hk]
    unfold Oper.wp
    rw [hrun]
    exact ⟨by rw [hd]; rfl, rfl⟩⟩

theorem region_skipM {P : Program} {Q : Exit → Act → World → Prop} {id : Nat} {a : Act} {w : World} (W0 : World) (n : Nat) {l : List Oper} (vals : List (Nat × Value)) (L : List (Nat × (Value → World → Prop))) (hm : P.follows .mixedOrders = true)
    (hE : edgesIn (l.take n) = true) (hG : guardsIn (l.take n) = true) (hA : dstsApart (l.take n) 0 = true) (hI : dstsIn (l.take n) a.tmps.size = true) (hT : tailUnder (l.take n) (l.drop n) = true)
    (hS : Region.seqB .any l.toArray (l.drop n).length (l.take n).length (Array.replicate (l.take n).length true ++ Array.replicate (l.drop n).length false) = true)
    (hv : (vals.all fun p => (dstsOf (l.take n)).contains p.1) = true) (hsp : ((L.map (·.1)).all fun d => (dstsOf (l.take n)).contains d) = true)
    (hst : ∀ q ∈ L, ∀ (v : Value) (w w' : World), q.2 v w → Below w.heap.size w w' → q.2 v w') (hw : Below W0.heap.size W0 w)
    (hok : Full (l.take n) a (putR a vals) (specOf L) (L.map (·.1)) → SkipAllM P (l.take n) a W0 (relR (putR a vals) (specOf L)) 0 (l.take n))
    (hfin : ∀ (f : Nat → Value) w', (∀ d p, specOf L d = some p → p (f d) w') → Below W0.heap.size W0 w' → wpList P l.toArray Q (l.drop n) (putR (putR a vals) ((L.map (·.1)).map fun d => (d, f d))) w') : (Code.region id l.toArray true).wp P Q a w := by
  have hfull : Full (l.take n) a (putR a vals) (specOf L) (L.map (·.1)) := full_put vals hv (specOf_none L)
  have hok' := hok hfull
  clear hok
  have hin : ∀ d, d ∈ L.map (·.1) → d ∈ dstsOf (l.take n) := fun d hd => List.contains_iff_mem.1 (List.all_eq_true.1 hsp d hd)
  have hkeep : ∀ d v (w w' : World), relR (putR a vals) (specOf L) d v w → Below w.heap.size w w' → relR (putR a vals) (specOf L) d v w' := fun d v w w' h1 h2 => by
    unfold relR at *
    cases hs : specOf L d with
    | none => rw [hs] at h1; exact h1
    | some p =>
      rw [hs] at h1
      obtain ⟨q, hq, rfl, rfl⟩ := specOf_mem' L d p hs
      exact hst q hq v w w' h1 h2
  have e : l.take n ++ l.drop n = l := List.take_append_drop n l
  refine wp_region_any hm ?_
  generalize hh : l.take n = h at *
  have main := wpAny_skip (P := P) (l := h) (Q := headPost P (h ++ l.drop n).toArray Q (l.drop n))
    (fun listed a' w' => Fr h a a' ∧ Below W0.heap.size W0 w' ∧ ∀ d, (∃ (i : Nat) (o : Oper), h[i]? = some o ∧ listed.getD i false = true ∧ o.dst = some d) → ∃ v, a'.tmps[d]? = some v ∧ relR (putR a vals) (specOf L) d v w') hE
    (by
      intro listed a' w' i o hls hI' ho hun hall
      obtain ⟨hF, hB, hV⟩ := hI'
      have hil : i < listed.size := by rw [hls]; exact (List.getElem?_eq_some_iff.1 ho).1
      have hson : ∀ k, (listed.setIfInBounds i true).getD k false = if k = i then true else listed.getD k false := fun k => by
        by_cases hk : k = i
        · subst hk; simp [hil]
        · rw [if_neg hk, getD_set_ne false (Ne.symm hk)]
      have hgot : GotE h [] (relR (putR a vals) (specOf L)) [] W0.heap.size i a' w' o := fun d hs hq => by
        obtain ⟨x, hx, h1⟩ := Array.any_eq_true'.1 hs
        simp only [Bool.and_eq_true] at h1
        cases ho' : h[x.on]? with
        | none => simp [ho'] at h1
        | some o' =>
          obtain ⟨v, e1, e2⟩ := hV d ⟨x.on, o', ho', hall x hx h1.1, by simpa [ho'] using h1.2⟩
          exact ⟨v, e1, e2, fun hc => by simp at hc⟩
      have step : ∀ d v w2, o.dst = some d → relR (putR a vals) (specOf L) d v w2 → Below w'.heap.size w' w2 → Fr h a (a'.put (some d) v) ∧ Below W0.heap.size W0 w2 ∧ ∀ d', (∃ (j : Nat) (o : Oper), h[j]? = some o ∧ (listed.setIfInBounds i true).getD j false = true ∧ o.dst = some d') → ∃ u, (a'.put (some d) v).tmps[d']? = some u ∧ relR (putR a vals) (specOf L) d' u w2 := by
        intro d v w2 hd hR hb
        have hdl : d < a'.tmps.size := by
          have := List.all_eq_true.1 hI o (List.mem_of_getElem? ho)
          rw [hd] at this
          rw [hF.size]
          simpa using this
        have hother : ∀ d', d' ≠ d → (a'.put (some d) v).tmps[d']? = a'.tmps[d']? := fun d' hne => by simp [Act.put, Array.getElem?_setIfInBounds_ne (Ne.symm hne)]
        have hself : (a'.put (some d) v).tmps[d]? = some v := by simp [Act.put, hdl]
        refine ⟨⟨by rw [size_put]; exact hF.size, hF.defers, fun d' h' => ?_⟩, hB.trans (hb.mono hB.size), fun d' hL => ?_⟩
        · rw [hother d' (fun e2 => h' i o ho (by rw [hd, e2]))]
          exact hF.out d' h'
        · by_cases hdd : d' = d
          · subst hdd
            exact ⟨v, hself, hR⟩
          · obtain ⟨j, o', h1, h2, h3⟩ := hL
            rw [hother d' hdd]
            have h2' : listed.getD j false = true := by
              rw [hson j] at h2
              split at h2
              · next hji => subst hji; rw [ho] at h1; cases h1; rw [hd] at h3; exact absurd (Option.some.inj h3).symm hdd
              · exact h2
            obtain ⟨u, e1, e2⟩ := hV d' ⟨j, o', h1, h2', h3⟩
            exact ⟨u, e1, hkeep d' u w' w2 e2 hb⟩
      rcases (by have := skipAllM_get h 0 hok' i o ho; rwa [Nat.zero_add] at this : SkipOkM P h a W0 (relR (putR a vals) (specOf L)) i o) with (⟨d, hd, hrun⟩ | ⟨d, hd, hskip⟩) | ⟨hd, hrun⟩
      · obtain ⟨hwant, hwp⟩ := hrun a' w' hF hB hgot
        refine .inl ⟨hwant, wp_false ?_ hwp⟩
        rintro a2 w2 ⟨v, row, rfl, hR, hg, hrow, _⟩
        exact step d v w2 hd hR (grown_empty hg (fun b hb => by obtain ⟨s', hs', _⟩ := hrow b hb; cases hs'))
      · obtain ⟨hwant, hR⟩ := hskip a' w' hF hgot
        refine .inr ⟨hwant, ?_⟩
        rw [hd]
        exact step d undef w' hd hR (Below.refl _ _)
      · obtain ⟨hwant, hwp⟩ := hrun a' w' hF hB hgot
        refine .inl ⟨hwant, wp_false ?_ hwp⟩
        rintro a2 w2 ⟨rfl, rfl⟩
        refine ⟨hF, hB, fun d' hL => ?_⟩
        obtain ⟨j, o', h1, h2, h3⟩ := hL
        have h2' : listed.getD j false = true := by
          rw [hson j] at h2
          split at h2
          · next hji => subst hji; rw [ho] at h1; cases h1; rw [hd] at h3; cases h3
          · exact h2
        exact hV d' ⟨j, o', h1, h2', h3⟩)
    (by
      intro a' w' hI'
      obtain ⟨hF, hB, hV⟩ := hI'
      have hall : ∀ d (i : Nat) (o : Oper), h[i]? = some o → o.dst = some d → ∃ v, a'.tmps[d]? = some v ∧ relR (putR a vals) (specOf L) d v w' := fun d i o h1 h2 => hV d ⟨i, o, h1, by simp [(List.getElem?_eq_some_iff.1 h1).1], h2⟩
      have hfr := hfin (fun d => (a'.tmps[d]?).getD undef) w' (fun d p hp => by
        obtain ⟨q, hq, e1, rfl⟩ := specOf_mem' L d p hp
        have hd := hin d (by rw [← e1]; exact List.mem_map.2 ⟨q, hq, rfl⟩)
        obtain ⟨o, ho, hdo⟩ := List.mem_filterMap.1 hd
        obtain ⟨i, hi, he⟩ := List.getElem_of_mem ho
        obtain ⟨v, e2, e3⟩ := hall d i o (by rw [List.getElem?_eq_getElem hi, he]) hdo
        simp only [e2, Option.getD_some]
        unfold relR at e3
        rw [hp] at e3
        exact e3) hB
      have ea : a' = putR (putR a vals) ((L.map (·.1)).map fun d => (d, (a'.tmps[d]?).getD undef)) := by
        refine act_eq (Array.ext_getElem? fun d => ?_) (by rw [putR_defers, putR_defers]; exact hF.defers)
        rw [putR_get', putR_size]
        by_cases hdl : d < a.tmps.size
        · rw [if_pos hdl]
          have hsm : a'.tmps[d]? = some ((a'.tmps[d]?).getD undef) := by
            rw [Array.getElem?_eq_getElem (show d < a'.tmps.size by rw [hF.size]; exact hdl)]
            rfl
          by_cases h2 : d ∈ L.map (·.1)
          · rw [if_pos h2]
            exact hsm
          · rw [if_neg h2]
            by_cases hd : ∃ (i : Nat) (o : Oper), h[i]? = some o ∧ o.dst = some d
            · obtain ⟨i, o, h1, h3⟩ := hd
              obtain ⟨v, e1, e2⟩ := hall d i o h1 h3
              unfold relR at e2
              rw [hfull.spec d h2] at e2
              rw [e1]
              exact e2.symm
            · have hno : ∀ (i : Nat) (o : Oper), h[i]? = some o → o.dst ≠ some d := fun i o h1 h3 => hd ⟨i, o, h1, h3⟩
              rw [hF.out d hno, hfull.out d hno]
        · rw [if_neg hdl, Array.getElem?_eq_none (by rw [hF.size]; omega)]
      rw [← ea] at hfr
      show wpList P (h ++ l.drop n).toArray Q (l.drop n) a' w'
      rw [e]
      exact hfr)
    h.length (Array.replicate h.length false) a { w with drawn := w.drawn + 1 } (by simp) (by simp [open_])
    (by
      have hno : ∀ k, (Array.replicate h.length false).getD k false = true → False := fun k hk => by
        rw [Array.getD_eq_getD_getElem?, Array.getElem?_replicate] at hk
        split at hk <;> simp at hk
      exact ⟨⟨rfl, rfl, fun _ _ => rfl⟩, hw.drew, fun d hL => (by obtain ⟨i, o, _, hon, _⟩ := hL; exact (hno i hon).elim)⟩)
  have h3 := lift_under (Q := Q) hE hG hT (by rw [e]; exact hS) h.length (Array.replicate h.length false) a _ (by simp) (by simp [open_]) (closed_none _) main
  rw [e] at h3
  have e1 : l.toArray.size = h.length + (l.drop n).length := by rw [← List.length_append, e]; simp
  rw [e1, show Array.replicate (h.length + (l.drop n).length) false = Array.replicate h.length false ++ Array.replicate (l.drop n).length false by simp]
  exact h3
end Go.Proofs.YtniogaimhkcedaaDoor.sh
/-
  codec.apart: what its deferred function does, of a panic and without one.
-/
namespace Go.Proofs.YtniogaimhkcedaaDoor.sh
open Go Go.RowKit
set_option linter.unusedVariables false
set_option linter.unusedSimpArgs false

theorem rec_panic (b : Nat) (x y z : Value) (w : World) (h1 : Blk w b 5 #[x]) (h2 : Blk w (b + 1) 29 #[y]) (h3 : Blk w (b + 2) 4 #[z]) :
    CallsD Tryd.prog 76 #[.pointer (some ⟨b, 0, none⟩), .pointer (some ⟨b + 1, 0, none⟩), .pointer (some ⟨b + 2, 0, none⟩)] (.panicking [{ v := PV, recovered := false }]) w fun e u' w' =>
      e = .returned (.tuple #[]) ∧ u' = .panicking [{ v := PV, recovered := true }] ∧ w' = ((w.setCell ⟨b, 0, none⟩ (.int .u8 0)).setCell ⟨b + 1, 0, none⟩ (.slice none 0 0)).setCell ⟨b + 2, 0, none⟩ (.bool false) := by
  have c1 : w.cell? ⟨b, 0, none⟩ = some x := cell_row h1 rfl
  have c2 : w.cell? ⟨b + 1, 0, none⟩ = some y := cell_row h2 rfl
  have c3 : w.cell? ⟨b + 2, 0, none⟩ = some z := cell_row h3 rfl
  have f1 : w.frozen? ⟨b, 0, none⟩ = false := frozen_of_row w b 0 _ _ h1
  have f2 : w.frozen? ⟨b + 1, 0, none⟩ = false := frozen_of_row w (b + 1) 0 _ _ h2
  have f3 : w.frozen? ⟨b + 2, 0, none⟩ = false := frozen_of_row w (b + 2) 0 _ _ h3
  refine callsD_of_wpS Tryd.func76 rfl fun c₀ cs hu => ?_
  apply wpS_seq
  apply wpS_region
  simp [wpOpsS, go_sem, recoverD, hu, Tryd.ntmps76, Exit.thenS, PV]
  refine wpS_cond (t := true) (by simp [Act.eval, Array.replicate]) ?_
  simp only [if_true]
  apply wpS_region
  simp [wpOpsS, go_sem, c1, c2, c3, f1, f2, f3, bodyPostS, results, Tryd.results76]

theorem rec_idle (b : Nat) (w : World) :
    CallsD Tryd.prog 76 #[.pointer (some ⟨b, 0, none⟩), .pointer (some ⟨b + 1, 0, none⟩), .pointer (some ⟨b + 2, 0, none⟩)] .returning w fun e u' w' => e = .returned (.tuple #[]) ∧ u' = .returning ∧ w' = w := by
  refine callsD_of_wpS Tryd.func76 rfl fun c₀ cs hu => ?_
  apply wpS_seq
  apply wpS_region
  simp [wpOpsS, go_sem, recoverD, hu, Tryd.ntmps76, Exit.thenS]
  refine wpS_cond (t := false) (by simp [Act.eval, Array.replicate]) ?_
  simp only [Bool.false_eq_true, if_false]
  refine wpS_of_wp (wp_skip ?_)
  cases c₀
  simp_all [bodyPostS, results, Tryd.results76]
end Go.Proofs.YtniogaimhkcedaaDoor.sh
/-
  codec.apart: what a text says, or that it says nothing.
-/
namespace Go.Proofs.YtniogaimhkcedaaDoor.sh
open Go Go.RowKit
set_option linter.unusedVariables false
set_option linter.unusedSimpArgs false

set_option maxRecDepth 100000 in
set_option maxHeartbeats 1000000 in
/-- The door, of a panic: whatever was told, nothing is told. -/
theorem door_panic {b : Nat} {x y z : Value} {W : World} {tmps : Array Value} {R : Ending → World → Prop} (h1 : Blk W b 5 #[x]) (h2 : Blk W (b + 1) 29 #[y]) (h3 : Blk W (b + 2) 4 #[z])
    (t2 : tmps[2]? = some (.pointer (some ⟨b, 0, none⟩))) (t3 : tmps[3]? = some (.pointer (some ⟨b + 1, 0, none⟩))) (t4 : tmps[4]? = some (.pointer (some ⟨b + 2, 0, none⟩)))
    (hR : ∀ w', Below b W w' → R (.returned (.tuple #[.int .u8 0, .slice none 0 0, .bool false])) w') :
    bodyPostD Tryd.prog Tryd.f65 R (.panic [{ v := PV, recovered := false }]) { tmps := tmps, defers := [{ target := .fn (.func 76) #[.pointer (some ⟨b, 0, none⟩), .pointer (some ⟨b + 1, 0, none⟩), .pointer (some ⟨b + 2, 0, none⟩)], args := #[] }] } W := by
  refine leaves_cons (f := 76) (args := #[.pointer (some ⟨b, 0, none⟩), .pointer (some ⟨b + 1, 0, none⟩), .pointer (some ⟨b + 2, 0, none⟩)]) (by simp) (by simp [go_sem]) ?_
  refine (rec_panic b x y z W h1 h2 h3).mono ?_
  rintro e u' w' ⟨rfl, rfl, hw⟩
  have c1 : W.cell? ⟨b, 0, none⟩ = some x := cell_row h1 rfl
  have c2 : W.cell? ⟨b + 1, 0, none⟩ = some y := cell_row h2 rfl
  have c3 : W.cell? ⟨b + 2, 0, none⟩ = some z := cell_row h3 rfl
  have d1 : w'.cell? ⟨b, 0, none⟩ = some (.int .u8 0) := by rw [hw]; simp [go_sem, c1, c2, c3]
  have d2 : w'.cell? ⟨b + 1, 0, none⟩ = some (.slice none 0 0) := by rw [hw]; simp [go_sem, c1, c2, c3]
  have d3 : w'.cell? ⟨b + 2, 0, none⟩ = some (.bool false) := by rw [hw]; simp [go_sem, c1, c2, c3]
  have hB : Below b W w' := by
    rw [hw]
    exact (((Below.refl b W).setCell (p := ⟨b, 0, none⟩) (Nat.le_refl _) _).setCell (p := ⟨b + 1, 0, none⟩) (by simp) _).setCell (p := ⟨b + 2, 0, none⟩) (by simp) _
  have hr := hR w' hB
  clear hR hw
  simp [Leaves, settle, results, Tryd.results65, go_sem, Array.getD_eq_getD_getElem?, t2, t3, t4, d1, d2, d3]
  exact hr

/-- What lies in memory while a text is gone through. -/
structure AS (w0 : World) (k : Nat) (v : Value) (ll : List (List Nat)) (rest : List Nat) (w : World) : Prop where
  kind : Blk w w0.heap.size 5 #[.int .u8 (k : Int)]
  list : Blk w (w0.heap.size + 1) 29 #[v]
  ok : Blk w (w0.heap.size + 2) 4 #[.bool false]
  wk : Wk (w0.heap.size + 3) rest w
  row : VRow (w0.heap.size + 4) 9 (strs ll) v w
  below : Below w0.heap.size w0 w
  size : w0.heap.size + 4 ≤ w.heap.size
theorem AS.drew {w0 : World} {k : Nat} {v : Value} {ll : List (List Nat)} {rest : List Nat} {w : World} (h : AS w0 k v ll rest w) : AS w0 k v ll rest { w with drawn := w.drawn + 1 } := ⟨h.kind, h.list, h.ok, h.wk, h.row, h.below.drew, h.size⟩
theorem AS.step {w0 : World} {k : Nat} {v : Value} {ll : List (List Nat)} {rest rest' : List Nat} {w w' : World} (h : AS w0 k v ll rest w) (hg : w.grownBy w' (some (w0.heap.size + 3))) (hk : Wk (w0.heap.size + 3) rest' w') : AS w0 k v ll rest' w' :=
  ⟨gb_blk hg h.kind (by omega), gb_blk hg h.list (by omega), gb_blk hg h.ok (by omega), hk, h.row.keeps hg (by
    cases hb : blkOf v with
    | none => exact .inl rfl
    | some b =>
      have := (h.row.range b hb).1
      exact .inr (fun e => by cases e; omega)), h.below.trans (gb_below hg (by have := h.size; omega) (by omega)), Nat.le_trans h.size hg.size⟩
theorem as_new (w : World) (s : List Nat) : AS w 0 (.slice none 0 0) [] s ((((w.alloc (.cells #[.int .u8 0] 5)).alloc (.cells #[.slice none 0 0] 29)).alloc (.cells #[.bool false] 4)).alloc (.cells #[.string (strOf s)] 131)) :=
  ⟨(((blk_new w _ _).alloc _).alloc _).alloc _, ((blk_top _ _ _ _ (by simp)).alloc _).alloc _, (blk_top _ _ _ _ (by simp)).alloc _, blk_top _ _ _ _ (by simp), vrow_nil _ _ _, ((((Below.refl _ _).alloc (Nat.le_refl _) _).alloc (by simp) _).alloc (by simp; omega) _).alloc (by simp; omega) _, by simp⟩
theorem split_short {s : List Nat} (h : s.length < 3) : splitL s = none := by
  unfold splitL
  match s, h with
  | [], _ => simp
  | [a], _ => simp
  | [a, b], _ => simp
theorem split_stuck {x k n : Nat} {r rest : List Nat} {done : List (List Nat)} (hy : Bytes (x :: k :: n :: r)) (hr : r = itemsL done ++ rest) (hn : done.length < n) (hs : Short rest) : splitL (x :: k :: n :: r) = none := by
  cases h : splitL (x :: k :: n :: r) with
  | none => rfl
  | some q =>
    obtain ⟨k', ll⟩ := q
    have h1 := ((splitL_says hy).1 h).1
    unfold joinL at h1
    simp only [List.cons.injEq] at h1
    obtain ⟨_, _, h2, h3⟩ := h1
    obtain ⟨l, e0, e1, e2, _⟩ := cut_stuck (q := []) (ll := ll) (done := done) (rest := rest) (by rw [List.append_nil, ← h3, hr]) (by omega)
    rcases hs with rfl | ⟨y, rfl⟩ | ⟨y, z, r', rfl, h4⟩
    · simp at e0
    · simp at e1
    · simp at e0 e1 e2
      omega
theorem split_end {x k n : Nat} {r rest : List Nat} {done : List (List Nat)} (hy : Bytes (x :: k :: n :: r)) (hr : r = itemsL done ++ rest) (hn : done.length = n) : splitL (x :: k :: n :: r) = if x = 1 ∧ rest = [] ∧ Fits done then some (k, done) else none := by
  by_cases hc : x = 1 ∧ rest = [] ∧ Fits done
  · obtain ⟨h1, h2, h3⟩ := hc
    rw [if_pos ⟨h1, h2, h3⟩]
    have : x :: k :: n :: r = joinL k done := by unfold joinL; rw [h1, hn, hr, h2, List.append_nil]
    rw [this]
    exact splitL_join h3
  · rw [if_neg hc]
    cases h : splitL (x :: k :: n :: r) with
    | none => rfl
    | some q =>
      obtain ⟨k', ll⟩ := q
      have hs := (splitL_says hy).1 h
      have h1 := hs.1
      unfold joinL at h1
      simp only [List.cons.injEq] at h1
      obtain ⟨h0, _, h2, h3⟩ := h1
      obtain ⟨e1, e2⟩ := items_prefix (ll := ll) (mm := done) (r := []) (q := rest) (by omega) (by rw [List.append_nil, ← h3, hr])
      exact absurd ⟨h0, e2.symm, by rw [← e1]; exact hs.2⟩ hc
theorem short_or {n : Nat} (l : List Nat) : Short l ∨ ∃ x y r, l = x :: y :: r ∧ 256 * x + y ≤ r.length := by
  match l with
  | [] => exact .inl (.inl rfl)
  | [x] => exact .inl (.inr (.inl ⟨x, rfl⟩))
  | x :: y :: r =>
    by_cases h : r.length < 256 * x + y
    · exact .inl (.inr (.inr ⟨x, y, r, rfl, h⟩))
    · exact .inr ⟨x, y, r, rfl, by omega⟩
theorem sz_strs : ∀ w, (sizeOf 29).run Tryd.prog w = .ok 1 w := Tryd.sizeOf29
theorem ag_strs : ∀ w, (isAgg 29).run Tryd.prog w = .ok false w := Tryd.isAgg29
/-- What is told of a text that says something. -/
def Told (b : Nat) (s : List Nat) (K V : Value) (w : World) : Prop := ∀ k ll, splitL s = some (k, ll) → K = .int .u8 (k : Int) ∧ VRow b 9 (strs ll) V w
theorem told_none {b : Nat} {s : List Nat} {K V : Value} {w : World} (h : splitL s = none) : Told b s K V w := fun k ll e => by rw [h] at e; cases e
def APost (b : Nat) (w0 : World) (s : List Nat) (O : Bool) (e : Ending) (w : World) : Prop := (∃ K V, e = .returned (.tuple #[K, V, .bool O]) ∧ Told b s K V w) ∧ Below w0.heap.size w0 w

set_option maxRecDepth 100000 in
set_option maxHeartbeats 1000000 in
theorem apart_short {s : List Nat} {w : World} (hs : Bytes s) (h3 : s.length < 3) :
    Calls Tryd.prog 65 #[.string (strOf s)] w fun e w' => APost w.heap.size w s false e w' := by
  have hmf : ∀ (fn : Fn) (first cap : Array Value) (w : World), (Instr.makeFunc fn first cap).run Tryd.prog w = .ok (.func fn first cap) w := fun _ _ _ _ => rfl
  have hN := split_short h3
  have fin : Kept (∀ w1 w2, AS w 0 (.slice none 0 0) [] [] w1 ∨ True → Below w.heap.size w w1 → Below w.heap.size w1 w2 → APost w.heap.size w s false (.returned (.tuple #[.int .u8 0, .slice none 0 0, .bool false])) w2) := ⟨fun w1 w2 _ h1 h2 => ⟨⟨_, _, rfl, told_none hN⟩, h1.trans h2⟩⟩
  match s, hs, h3 with
  | [], hs, _ =>
    have A0 := as_new w []
    go_enter_defers Tryd.func65, Tryd.ntmps65
    go_wp2_with fail
    refine (number_dies A0.wk).mono ?_
    rintro e w1 ⟨hd, rfl⟩
    obtain rfl := hd
    exact door_panic A0.kind A0.list A0.ok rfl rfl rfl (fun w2 h2 => fin.out _ w2 (.inr trivial) A0.below h2)
  | [x], hs, _ =>
    have A0 := as_new w [x]
    have C1 := number_ok A0.wk (hs 0 x rfl) hs (by simp)
    go_enter_defers Tryd.func65, Tryd.ntmps65
    go_wp2_with fail
    refine C1.mono ?_
    rintro e w1 ⟨rfl, b1, p1⟩
    have A1 := A0.step p1.grown b1
    clear A0 b1 p1
    go_wp2_with fail
    refine (number_dies A1.wk).mono ?_
    rintro e w2 ⟨hd, rfl⟩
    obtain rfl := hd
    exact door_panic A1.kind A1.list A1.ok rfl rfl rfl (fun w2 h2 => fin.out _ w2 (.inr trivial) A1.below h2)
  | [x, k], hs, _ =>
    have A0 := as_new w [x, k]
    have C1 := number_ok A0.wk (hs 0 x rfl) hs (by simp)
    have hk : k < 256 := hs 1 k rfl
    have C2 := fun w2 (h2 : Wk (w.heap.size + 3) [k] w2) => number_ok h2 hk (bytes_of_all (fun y hy => by simp at hy; omega)) (by simp)
    go_enter_defers Tryd.func65, Tryd.ntmps65
    go_wp2_with fail
    refine C1.mono ?_
    rintro e w1 ⟨rfl, b1, p1⟩
    have A1 := A0.step p1.grown b1
    clear A0 b1 p1
    go_wp2_with fail
    refine (C2 _ A1.wk).mono ?_
    rintro e w2 ⟨rfl, b2, p2⟩
    have A2 := A1.step p2.grown b2
    clear A1 b2 p2
    go_wp2_with (first | ((with_reducible refine wv_val (d := 14) ?hd ?hw (.int .u8 (k : Int)) ?hr ?_); (case hd => rfl); (case hw => kernel_rfl); (case hr => intro w; exact run_c38 rfl (by kernel_rfl) hk w); simp only [Act.put, List.setIfInBounds_toArray, List.set_cons_succ, List.set_cons_zero]) | (refine wl_set1 rfl 5 sz_u8 (.tmp 2) (.tmp 14) rfl w.heap.size 0 (.int .u8 (k : Int)) rfl rfl rfl _ A2.kind Nat.zero_lt_one ?_))
    intro w3 b3 p3
    have A3l := p3.blk A2.list (by omega)
    have A3o := p3.blk A2.ok (by omega)
    have A3w : Wk (w.heap.size + 3) [] w3 := p3.blk A2.wk (by omega)
    have A3b := A2.below.trans (p3.below (Nat.le_refl _))
    clear A2 p3
    go_wp2_with fail
    refine (number_dies A3w).mono ?_
    rintro e w4 ⟨hd, rfl⟩
    obtain rfl := hd
    exact door_panic b3 A3l A3o rfl rfl rfl (fun w2 h2 => fin.out _ w2 (.inr trivial) A3b h2)
end Go.Proofs.YtniogaimhkcedaaDoor.sh
/-
  codec.apart, of a text of three bytes or more.
-/
namespace Go.Proofs.YtniogaimhkcedaaDoor.sh
open Go Go.RowKit
set_option linter.unusedVariables false
set_option linter.unusedSimpArgs false

theorem sz_bool : ∀ w, (sizeOf 4).run Tryd.prog w = .ok 1 w := Tryd.sizeOf4
theorem inf_str : (Tryd.prog.info? 9).map (fun i => (i.zero, i.size, i.bytes)) = some (some (.string .empty), 1, 16) := by kernel_rfl
theorem wl_build1S {ops : Array Oper} {rest : List Oper} {o : Oper} {a : Act} {w : World} {Q : Exit → Act → World → Prop} (hg : o.guard = none) (x : Operand) (ho : o.op = .buildSlice 29 1 #[(0, x)]) (s : List Nat) (hx : a.eval x = .string (strOf s))
    (h : wpList Tryd.prog ops Q rest (a.put o.dst (.slice (some ⟨w.heap.size, 0, none⟩) 1 1)) (w.alloc (.cells #[.string (strOf s)] 9))) : wpList Tryd.prog ops Q (o :: rest) a w := by
  obtain ⟨ie, hie, hz0, hz1, _⟩ := info_parts inf_str
  have hf := Great.fill_whole (s := 1) (by decide) [Value.string (strOf s)] ((Array.range (1 * 1)).map ((Value.string .empty).cells[· % (Value.string .empty).cells.size]!)) (fun v hv => by simp at hv; subst hv; rfl) (by simp)
  refine wpList_buildSlice hg 29 9 1 #[(0, x)] ho _ ie _ Tryd.underlying29 hie hz0 (by rw [hz1]; decide) (by rw [hz1]; decide) ?_ h
  rw [hz1]
  simpa [hx, Value.cells] using hf
theorem AS.under {w0 : World} {k : Nat} {v : Value} {ll : List (List Nat)} {rest : List Nat} {w w' : World} (h : AS w0 k v ll rest w) (hb : Below w.heap.size w w') : AS w0 k v ll rest w' :=
  ⟨h.kind.under hb, h.list.under hb, h.ok.under hb, h.wk.under hb, h.row.under hb, h.below.trans (hb.mono (by have := h.size; omega)), Nat.le_trans h.size hb.size⟩
theorem blk_grown {w w' : World} {r : Option Nat} {k : Nat} {t : TypeId} {A : Array Value} (h : w.grownBy w' r) (hk : Blk w k t A) (hne : some k ≠ r) : Blk w' k t A := (h.block k hk.lt hne).trans hk
/-- A text more, and the list is where it was. -/
theorem AS.app {w0 : World} {k : Nat} {v v' : Value} {ll : List (List Nat)} {T rest : List Nat} {w w' w2 : World} (h : AS w0 k v ll rest w) (hr : VRow (w0.heap.size + 4) 9 (strs ll ++ [.string (strOf T)]) v' w') (hg : w.grownBy w' (blkOf v)) (hb : Blk w2 (w0.heap.size + 1) 29 #[v']) (hp : Put w' w2 (w0.heap.size + 1)) : AS w0 k v' (ll ++ [T]) rest w2 := by
  have hne : ∀ j, j < w0.heap.size + 4 → some j ≠ blkOf v := fun j hj e => by
    have := (h.row.range j e.symm).1
    omega
  have hne' : blkOf v' = none ∨ blkOf v' ≠ some (w0.heap.size + 1) := by
    cases hb' : blkOf v' with
    | none => exact .inl rfl
    | some b =>
      have := (hr.range b hb').1
      exact .inr (fun e => by cases e; omega)
  refine ⟨hp.blk (blk_grown hg h.kind (hne _ (by omega))) (by omega), hb, hp.blk (blk_grown hg h.ok (hne _ (by omega))) (by omega), hp.blk (blk_grown hg h.wk (hne _ (by omega))) (by omega), ?_, ?_, ?_⟩
  · have e : strs (ll ++ [T]) = strs ll ++ [.string (strOf T)] := strs_append _ _
    rw [e]
    exact hr.keeps hp.grown hne'
  · exact (h.below.trans (grown_mono hg (by have := h.size; omega) (fun b hb => by have := (h.row.range b hb).1; omega))).trans (hp.below (by omega))
  · rw [hp.size]; exact Nat.le_trans h.size hg.size
theorem AS.cellL {w0 : World} {k : Nat} {v v' : Value} {ll : List (List Nat)} {T rest : List Nat} {w w' : World} (h : AS w0 k v ll rest w) (hr : VRow (w0.heap.size + 4) 9 (strs ll ++ [.string (strOf T)]) v' w') (hg : w.grownBy w' (blkOf v)) : Blk w' (w0.heap.size + 1) 29 #[v] ∧ v'.oneCell' = true :=
  ⟨blk_grown hg h.list (fun e => by have := (h.row.range _ e.symm).1; omega), by rcases hr.2 with ⟨rfl, _⟩ | ⟨g, cap, cur, rfl, _⟩ <;> rfl⟩
theorem permB (a : Act) (x y u z : Value) : ((((a.put (some 19) y).put (some 18) x).put (some 20) u).put (some 21) z) = putR a [(18, x), (19, y), (20, u), (21, z)] := by
  rw [put_comm a 19 18 (by decide)]
  rfl
theorem permC (a : Act) (x y u z : Value) : ((((a.put (some 19) y).put (some 20) u).put (some 18) x).put (some 21) z) = putR a [(18, x), (19, y), (20, u), (21, z)] := by
  rw [put_comm _ 20 18 (by decide), put_comm a 19 18 (by decide)]
  rfl
set_option maxRecDepth 100000 in
set_option maxHeartbeats 1000000 in
/-- The door, where it returns: what the variables hold. -/
theorem door_ret {b : Nat} {x y z : Value} {W : World} {tmps : Array Value} {R : Ending → World → Prop} (h1 : Blk W b 5 #[x]) (h2 : Blk W (b + 1) 29 #[y]) (h3 : Blk W (b + 2) 4 #[z])
    (t2 : tmps[2]? = some (.pointer (some ⟨b, 0, none⟩))) (t3 : tmps[3]? = some (.pointer (some ⟨b + 1, 0, none⟩))) (t4 : tmps[4]? = some (.pointer (some ⟨b + 2, 0, none⟩)))
    (hR : R (.returned (.tuple #[x, y, z])) W) :
    bodyPostD Tryd.prog Tryd.f65 R .ret { tmps := tmps, defers := [{ target := .fn (.func 76) #[.pointer (some ⟨b, 0, none⟩), .pointer (some ⟨b + 1, 0, none⟩), .pointer (some ⟨b + 2, 0, none⟩)], args := #[] }] } W := by
  have d1 : W.cell? ⟨b, 0, none⟩ = some x := cell_row h1 rfl
  have d2 : W.cell? ⟨b + 1, 0, none⟩ = some y := cell_row h2 rfl
  have d3 : W.cell? ⟨b + 2, 0, none⟩ = some z := cell_row h3 rfl
  refine leaves_cons (f := 76) (args := #[.pointer (some ⟨b, 0, none⟩), .pointer (some ⟨b + 1, 0, none⟩), .pointer (some ⟨b + 2, 0, none⟩)]) (by simp) (by simp [go_sem]) ?_
  refine (rec_idle b W).mono ?_
  rintro e u' w' ⟨rfl, rfl, rfl⟩
  simp [Leaves, settle, results, Tryd.results65, go_sem, Array.getD_eq_getD_getElem?, t2, t3, t4, d1, d2, d3]
  exact hR
theorem run_eqK {o : Oper} {a : Act} {x : Operand} {m : Nat} {b : Bool} (c : Nat) (ho : o.op = .binOp .eql 3 x (.const (.int .i64 (c : Int))) 3) (hx : a.eval x = .int .i64 (m : Int)) (hb : b = decide (m = c)) (w : World) : (execOp a.eval o).run Tryd.prog w = .ok (.value (.bool b)) w := by
  have e3 : a.eval (.const (.int .i64 (c : Int))) = .int .i64 (c : Int) := rfl
  have h : ((m : Int) == (c : Int)) = b := by
    rw [hb]
    by_cases h : m = c
    · subst h; simp
    · rw [decide_eq_false h]
      exact beq_eq_false_iff_ne.2 (by omega)
  unfold execOp
  simp only [ho, hx, e3]
  simp [go_sem]
  first | exact h | simpa using h | (rw [hb]; exact decide_eq_decide.2 (by omega))
theorem item_in : ∀ {ll : List (List Nat)} {l : List Nat}, l ∈ ll → l.length ≤ (itemsL ll).length
  | x :: ll, l, h => by
    rw [itemsL_cons, List.length_append, itemL_len]
    rcases List.mem_cons.1 h with rfl | h
    · omega
    · have := item_in h
      omega
theorem AS.fin {w0 : World} {k : Nat} {v : Value} {done : List (List Nat)} {s rest : List Nat} {O o : Bool} {wz w5 w6 : World} (h : AS w0 k v done rest wz) (h5 : Below wz.heap.size wz w5) (hb : Blk w6 (w0.heap.size + 2) 4 #[.bool o]) (hp : Put w5 w6 (w0.heap.size + 2)) (hO : O = o) (hs : ∀ k' ll, splitL s = some (k', ll) → k' = k ∧ ll = done) : APost (w0.heap.size + 4) w0 s O (.returned (.tuple #[.int .u8 (k : Int), v, .bool o])) w6 := by
  have h1 := h.under h5
  refine ⟨⟨_, _, by rw [hO], fun k' ll e => ?_⟩, h1.below.trans (hp.below (by omega))⟩
  obtain ⟨rfl, rfl⟩ := hs k' ll e
  refine ⟨rfl, h1.row.keeps hp.grown ?_⟩
  cases hb' : blkOf v with
  | none => exact .inl rfl
  | some b =>
    have := (h1.row.range b hb').1
    exact .inr (fun e => by cases e; omega)
set_option maxRecDepth 100000 in
set_option maxHeartbeats 4000000 in
theorem apart_long {x k n : Nat} {r : List Nat} {O : Bool} {w : World} (hs : Bytes (x :: k :: n :: r)) (hL : r.length ≤ 40000) (hO : O = (splitL (x :: k :: n :: r)).isSome) :
    Calls Tryd.prog 65 #[.string (strOf (x :: k :: n :: r))] w fun e w' => APost (w.heap.size + 4) w (x :: k :: n :: r) O e w' := by
  have hmf : ∀ (fn : Fn) (first cap : Array Value) (w : World), (Instr.makeFunc fn first cap).run Tryd.prog w = .ok (.func fn first cap) w := fun _ _ _ _ => rfl
  have hx8 : x < 256 := hs 0 x rfl
  have hk8 : k < 256 := hs 1 k rfl
  have hn8 : n < 256 := hs 2 n rfl
  have y1 : Bytes (k :: n :: r) := fun i z hz => hs (i + 1) z hz
  have y2 : Bytes (n :: r) := fun i z hz => hs (i + 2) z hz
  have y3 : Bytes r := fun i z hz => hs (i + 3) z hz
  have A0 := as_new w (x :: k :: n :: r)
  have C1 := number_ok A0.wk hx8 hs (by simp; omega)
  have C2 := fun w2 (h2 : Wk (w.heap.size + 3) (k :: n :: r) w2) => number_ok h2 hk8 y1 (by simp; omega)
  have C3 := fun w2 (h2 : Wk (w.heap.size + 3) (n :: r) w2) => number_ok h2 hn8 y2 (by simp; omega)
  have fin : Kept (∀ w1 w2, splitL (x :: k :: n :: r) = none → Below w.heap.size w w1 → Below w.heap.size w1 w2 → APost (w.heap.size + 4) w (x :: k :: n :: r) O (.returned (.tuple #[.int .u8 0, .slice none 0 0, .bool false])) w2) := ⟨fun w1 w2 hN h1 h2 => ⟨⟨_, _, by rw [hO, hN]; rfl, told_none hN⟩, h1.trans h2⟩⟩
  have YS : Kept _ := ⟨hs⟩
  have YR3 : Kept _ := ⟨y3⟩
  have EO : Kept _ := ⟨hO⟩
  clear hs y1 y2 y3 hO
  go_enter_defers Tryd.func65, Tryd.ntmps65
  go_wp2_with fail
  refine C1.mono ?_
  rintro e w1 ⟨rfl, b1, p1⟩
  have A1 := A0.step p1.grown b1
  clear A0 b1 p1 C1
  go_wp2_with fail
  refine (C2 _ A1.wk).mono ?_
  rintro e w2 ⟨rfl, b2, p2⟩
  have A2 := A1.step p2.grown b2
  clear A1 b2 p2 C2
  go_wp2_with (first | ((with_reducible refine wv_val (d := 14) ?hd ?hw (.int .u8 (k : Int)) ?hr ?_); (case hd => rfl); (case hw => kernel_rfl); (case hr => intro w; exact run_c38 rfl (by kernel_rfl) hk8 w); simp only [Act.put, List.setIfInBounds_toArray, List.set_cons_succ, List.set_cons_zero]) | (refine wl_set1 rfl 5 sz_u8 (.tmp 2) (.tmp 14) rfl w.heap.size 0 (.int .u8 (k : Int)) rfl rfl rfl _ A2.kind Nat.zero_lt_one ?_))
  intro w3 b3 p3
  have A3 : AS w k (.slice none 0 0) [] (n :: r) w3 := ⟨b3, p3.blk A2.list (by omega), p3.blk A2.ok (by omega), p3.blk A2.wk (by omega), vrow_nil _ _ _, A2.below.trans (p3.below (Nat.le_refl _)), by rw [p3.size]; exact A2.size⟩
  clear A2 b3 p3
  go_wp2_with fail
  refine (C3 _ A3.wk).mono ?_
  rintro e w4 ⟨rfl, b4, p4⟩
  have A4 := A3.step p4.grown b4
  clear A3 b4 p4 C3
  go_wp2_with fail
  go_loopg [16] n (fun g s16 wr => ∃ (i : Nat) (done : List (List Nat)) (rest : List Nat) (v : Value), i + g = n ∧ s16 = .int .i64 (i : Int) ∧ Kept (done.length = i ∧ r = itemsL done ++ rest ∧ v.oneCell' = true) ∧ AS w k v done rest wr)
  case atStart => exact ⟨0, [], r, _, by omega, rfl, ⟨rfl, by simp [itemsL], rfl⟩, A4⟩
  case round =>
    rename World => wz
    obtain ⟨i, done, rest, v, hik, rfl, KD, AE⟩ := hrel
    clear A4
    have YR : Kept (Bytes rest) := ⟨fun j z hz => YR3.out (j + (itemsL done).length) z (by rw [KD.out.2.1, List.getElem?_append_right (by omega)]; simpa using hz)⟩
    have hRL : rest.length ≤ 40000 := by have := congrArg List.length KD.out.2.1; rw [List.length_append] at this; omega
    have ONE : Kept _ := ⟨KD.out.2.2⟩
    by_cases hk0 : gk = 0
    case neg =>
      have hin : i < n := by omega
      have hin' : (i : Int) < (n : Int) := by omega
      go_wp2_with fail
      rcases short_or (n := 0) rest with hS | ⟨p, q, r', hR, hpq⟩
      case inl =>
        have hN := split_stuck YS.out KD.out.2.1 (by have := KD.out.1; omega) hS
        have CT := fun w5 (h5 : Wk (w.heap.size + 3) rest w5) => text_dies h5 YR.out (by omega) hS
        refine wp_region_any rfl ?_
        refine any2 (f := 4) (i := 0) (j := 1) rfl (by kernel_rfl) rfl rfl ?_ ?_
        · refine wl_elem rfl 29 ag_strs (.tmp 3) rfl (w.heap.size + 1) 0 rfl #[v] v (AE.drew).list rfl ?_; refine wpList_nil ?_
          refine any1 (f := 3) (i := 1) rfl (by kernel_rfl) rfl ?_
          refine wl_callP rfl 78 Tryd.f78 _ [.tmp 5] _ _ rfl rfl Tryd.func78 (by kernel_rfl) rfl ?_
          refine (CT _ AE.drew.wk).mono ?_
          rintro e w5 ⟨hd, g5⟩
          have A5 := AE.drew.step (rest' := rest) g5
          exact ⟨_, hd, door_panic (gb_blk g5 AE.kind (by omega)) (gb_blk g5 AE.list (by omega)) (gb_blk g5 AE.ok (by omega)) rfl rfl rfl (fun w6 h6 => fin.out _ w6 hN (AE.drew.below.trans (gb_below g5 (by have := AE.size; show _ ≤ wz.heap.size; omega) (by omega))) h6)⟩
        · refine wl_callP rfl 78 Tryd.f78 _ [.tmp 5] _ _ rfl rfl Tryd.func78 (by kernel_rfl) rfl ?_
          refine (CT _ AE.drew.wk).mono ?_
          rintro e w5 ⟨hd, g5⟩
          exact ⟨_, hd, door_panic (gb_blk g5 AE.kind (by omega)) (gb_blk g5 AE.list (by omega)) (gb_blk g5 AE.ok (by omega)) rfl rfl rfl (fun w6 h6 => fin.out _ w6 hN (AE.drew.below.trans (gb_below g5 (by have := AE.size; show _ ≤ wz.heap.size; omega) (by omega))) h6)⟩
      case inr =>
        obtain ⟨m, hm⟩ : ∃ m, m = 256 * p + q := ⟨_, rfl⟩
        obtain ⟨T, hT⟩ : ∃ T, T = r'.take m := ⟨_, rfl⟩
        obtain ⟨D, hD⟩ : ∃ D, D = r'.drop m := ⟨_, rfl⟩
        have hRS : r = itemsL (done ++ [T]) ++ D := by
          have h := KD.out.2.1
          have h0 : rest[0]? = some p := by rw [hR]; rfl
          have h1 : rest[1]? = some q := by rw [hR]; rfl
          have := cut_step (done := done) (rest := rest) (n := m) h0 h1 (YR.out 1 q h1) hm (by rw [hR]; simp; omega)
          rw [h, this, hT, hD, hR]
          simp
        have KT : Kept (∀ w5, AS w k v done rest w5 → Calls Tryd.prog 78 #[.pointer (some ⟨w.heap.size + 3, 0, none⟩)] w5 fun e w' => ∃ u, e = .returned u ∧ (u = .string (strOf T) ∧ AS w k v done D w')) := ⟨fun w5 h5 => by
          have h6 := h5.wk
          rw [hR] at h6
          refine (text_ok h6 (by rw [← hR]; exact YR.out) (by rw [← hR]; omega) hm (by omega)).mono ?_
          rintro e w' ⟨rfl, hk', hg'⟩
          exact ⟨_, rfl, by rw [hT], h5.step hg' (by rw [hD]; exact hk')⟩⟩
        have KR : Kept _ := ⟨hRS⟩
        have one_T : Kept (∀ x ∈ [Value.string (strOf T)], x.oneCell' = true) := ⟨fun x hx => by simp at hx; subst hx; rfl⟩
        have len_T : Kept ((strs done).length + [Value.string (strOf T)].length ≤ 1099511627776) := ⟨by rw [strs_len, KD.out.1]; simp; omega⟩
        have lit : Kept (∀ w5 : World, ValsV (.slice (some ⟨w5.heap.size, 0, none⟩) 1 1) (w5.alloc (.cells #[.string (strOf T)] 9)) [.string (strOf T)]) := ⟨fun w5 => vrow_vals (vrow_lit (base := 0) w5 #[.string (strOf T)] 1 rfl (Nat.zero_le _) (by decide))⟩
        clear hR hpq hm hT hD hRS
        refine region_to (fun a0 a' w' => ∃ v' u, a' = putR a0 [(18, v), (19, .string (strOf T)), (20, u), (21, v')] ∧ v'.oneCell' = true ∧ AS w k v' (done ++ [T]) D w') rfl ?_ ?_
        · intro Q' hQ _
          refine any2 (f := 4) (i := 0) (j := 1) rfl (by kernel_rfl) rfl rfl ?_ ?_
          · refine wl_elem rfl 29 ag_strs (.tmp 3) rfl (w.heap.size + 1) 0 rfl #[v] v (AE.drew).list rfl ?_; refine wpList_nil ?_
            refine any1 (f := 3) (i := 1) rfl (by kernel_rfl) rfl ?_
            refine wl_callC rfl 78 Tryd.f78 _ [.tmp 5] _ _ rfl rfl Tryd.func78 (by kernel_rfl) rfl (R := fun u w' => u = .string (strOf T) ∧ AS w k v done D w') (KT.out _ (AE.drew)) ?_
            rintro u w5 ⟨rfl, A5⟩
            refine wpList_nil ?_
            refine any1 (f := 2) (i := 2) rfl (by kernel_rfl) rfl ?_
            refine wl_build1S rfl (.tmp 19) rfl T rfl ?_; refine wpList_nil ?_
            refine any1 (f := 1) (i := 3) rfl (by kernel_rfl) rfl ?_
            have A6 := A5.under ((Below.refl _ _).alloc (Nat.le_refl _) (.cells #[.string (strOf T)] 9))
            refine wl_appV rfl (.tmp 18) (.tmp 20) 29 9 (.string .empty) 16 rfl Tryd.underlying29 inf_str rfl (by decide) (w.heap.size + 4) (strs done) [.string (strOf T)] v _ rfl rfl (A6).row (lit.out w5) one_T.out len_T.out (A6).size ?_
            intro v' w6 r6 g6 _
            refine wpList_nil ?_
            refine any1 (f := 0) (i := 4) rfl (by kernel_rfl) rfl ?_
            refine wl_set1 rfl 29 sz_strs (.tmp 3) (.tmp 21) rfl (w.heap.size + 1) 0 v' rfl rfl (A6.cellL r6 g6).2 #[v] (A6.cellL r6 g6).1 Nat.zero_lt_one ?_
            intro w7 b7 p7
            refine wpList_nil ?_
            refine any0 (by kernel_rfl) ?_
            exact hQ _ _ ⟨v', _, rfl, (A6.cellL r6 g6).2, A6.app r6 g6 b7 p7⟩
          · refine wl_callC rfl 78 Tryd.f78 _ [.tmp 5] _ _ rfl rfl Tryd.func78 (by kernel_rfl) rfl (R := fun u w' => u = .string (strOf T) ∧ AS w k v done D w') (KT.out _ (AE.drew)) ?_
            rintro u w5 ⟨rfl, A5⟩
            refine wpList_nil ?_
            refine any2 (f := 3) (i := 0) (j := 2) rfl (by kernel_rfl) rfl rfl ?_ ?_
            · refine wl_elem rfl 29 ag_strs (.tmp 3) rfl (w.heap.size + 1) 0 rfl #[v] v (A5).list rfl ?_; refine wpList_nil ?_
              refine any1 (f := 2) (i := 2) rfl (by kernel_rfl) rfl ?_
              refine wl_build1S rfl (.tmp 19) rfl T rfl ?_; refine wpList_nil ?_
              refine any1 (f := 1) (i := 3) rfl (by kernel_rfl) rfl ?_
              have A6 := A5.under ((Below.refl _ _).alloc (Nat.le_refl _) (.cells #[.string (strOf T)] 9))
              refine wl_appV rfl (.tmp 18) (.tmp 20) 29 9 (.string .empty) 16 rfl Tryd.underlying29 inf_str rfl (by decide) (w.heap.size + 4) (strs done) [.string (strOf T)] v _ rfl rfl (A6).row (lit.out w5) one_T.out len_T.out (A6).size ?_
              intro v' w6 r6 g6 _
              refine wpList_nil ?_
              refine any1 (f := 0) (i := 4) rfl (by kernel_rfl) rfl ?_
              refine wl_set1 rfl 29 sz_strs (.tmp 3) (.tmp 21) rfl (w.heap.size + 1) 0 v' rfl rfl (A6.cellL r6 g6).2 #[v] (A6.cellL r6 g6).1 Nat.zero_lt_one ?_
              intro w7 b7 p7
              refine wpList_nil ?_
              refine any0 (by kernel_rfl) ?_
              exact hQ _ _ ⟨v', _, permB _ _ _ _ _, (A6.cellL r6 g6).2, A6.app r6 g6 b7 p7⟩
            · refine wl_build1S rfl (.tmp 19) rfl T rfl ?_; refine wpList_nil ?_
              refine any1 (f := 2) (i := 0) rfl (by kernel_rfl) rfl ?_
              have A6 := A5.under ((Below.refl _ _).alloc (Nat.le_refl _) (.cells #[.string (strOf T)] 9))
              refine wl_elem rfl 29 ag_strs (.tmp 3) rfl (w.heap.size + 1) 0 rfl #[v] v (A6).list rfl ?_; refine wpList_nil ?_
              refine any1 (f := 1) (i := 3) rfl (by kernel_rfl) rfl ?_
              refine wl_appV rfl (.tmp 18) (.tmp 20) 29 9 (.string .empty) 16 rfl Tryd.underlying29 inf_str rfl (by decide) (w.heap.size + 4) (strs done) [.string (strOf T)] v _ rfl rfl (A6).row (lit.out w5) one_T.out len_T.out (A6).size ?_
              intro v' w6 r6 g6 _
              refine wpList_nil ?_
              refine any1 (f := 0) (i := 4) rfl (by kernel_rfl) rfl ?_
              refine wl_set1 rfl 29 sz_strs (.tmp 3) (.tmp 21) rfl (w.heap.size + 1) 0 v' rfl rfl (A6.cellL r6 g6).2 #[v] (A6.cellL r6 g6).1 Nat.zero_lt_one ?_
              intro w7 b7 p7
              refine wpList_nil ?_
              refine any0 (by kernel_rfl) ?_
              exact hQ _ _ ⟨v', _, permC _ _ _ _ _, (A6.cellL r6 g6).2, A6.app r6 g6 b7 p7⟩
        · rintro a' w5 ⟨v', u, rfl, o5, A5⟩
          simp only [putR, List.foldl_cons, List.foldl_nil, List.map_cons, List.map_nil, Act.put, List.setIfInBounds_toArray, List.set_cons_succ, List.set_cons_zero]
          clear AE lit one_T len_T KT
          go_wp2_with fail
          go_roundg (gk - 1)
          case measure => omega
          case rel => exact ⟨i + 1, done ++ [T], D, v', by omega, by simp, ⟨by rw [List.length_append, KD.out.1]; rfl, KR.out, o5⟩, A5⟩
    case pos =>
      obtain rfl : n = i := by omega
      have hSE := split_end YS.out KD.out.2.1 KD.out.1
      have hOne : Kept (∀ k' ll, splitL (x :: k :: n :: r) = some (k', ll) → k' = k ∧ ll = done) := ⟨fun k' ll e => by
        rw [hSE] at e
        by_cases hc : x = 1 ∧ rest = [] ∧ Fits done
        · rw [if_pos hc] at e; cases e; exact ⟨rfl, rfl⟩
        · rw [if_neg hc] at e; cases e⟩
      have CS := sizeOfD (vrow_vals AE.row) (fun l hl => by have := item_in hl; have h2 := congrArg List.length KD.out.2.1; rw [List.length_append] at h2; unfold maxLen; omega)
      obtain ⟨F, hF⟩ : ∃ F, F = decide (Fits done) := ⟨_, rfl⟩
      rw [← hF] at CS
      have EO2 : Kept (O = (decide (x = 1) && (decide (rest = []) && F))) := ⟨by
        rw [EO.out, hSE, hF]
        by_cases hc : x = 1 ∧ rest = [] ∧ Fits done
        · rw [if_pos hc]; simp [hc]
        · rw [if_neg hc]
          by_cases h1 : x = 1
          · by_cases h2 : rest = []
            · have h3 : ¬ Fits done := fun h => hc ⟨h1, h2, h⟩
              simp [h3]
            · simp [h2]
          · simp [h1]⟩
      clear hSE hF
      go_wp2_with (first | ((with_reducible refine wv_elem (d := 24) ?hd ?hw 29 ag_strs (.tmp 3) ?ho (⟨w.heap.size + 1, 0, none⟩) ?hx (v) ?hc ?_); (case hd => rfl); (case hw => kernel_rfl); (case ho => rfl); (case hx => kernel_rfl); (case hc => exact (cell_row AE.list rfl)); simp only [Act.put, List.setIfInBounds_toArray, List.set_cons_succ, List.set_cons_zero]))
      refine CS.mono ?_
      rintro e w5 ⟨⟨m, rfl, _⟩, hw5⟩
      obtain rfl := hw5.symm
      clear CS
      go_wp2_with fail
      by_cases hx1 : x = 1
      case neg =>
        have X1 : Kept _ := ⟨decide_eq_false hx1⟩
        have EO3 : Kept (O = false) := ⟨by rw [EO2.out, X1.out]; rfl⟩
        refine region_skipM wz 14 [(28, .int .u8 (k : Int)), (29, v), (30, .int .i64 (x : Int)), (31, .bool false), (32, .bool false), (33, undef), (34, undef), (35, undef), (36, .bool false), (37, .bool false), (38, undef), (39, .bool false)] [] rfl (by kernel_rfl) (by kernel_rfl) (by kernel_rfl) (by kernel_rfl) (by kernel_rfl) (by kernel_rfl) (by kernel_rfl) (by kernel_rfl) ?hst (Below.refl _ _) (fun hA => ⟨.inl (.inl (ow_elem hA (wants_none rfl) 28 (.int .u8 (k : Int)) (by kernel_rfl) rfl rfl rfl rfl (by kernel_rfl) 5 ag_u8 (.tmp 2) rfl (⟨w.heap.size, 0, none⟩) (by kernel_rfl) (fun w1 hb => cell_row (AE.kind.under hb) rfl))), .inl (.inl (ow_elem hA (wants_none rfl) 29 (v) (by kernel_rfl) rfl rfl rfl rfl (by kernel_rfl) 29 ag_strs (.tmp 3) rfl (⟨w.heap.size + 1, 0, none⟩) (by kernel_rfl) (fun w1 hb => cell_row (AE.list.under hb) rfl))), .inl (.inl (ow_val hA (wants_none rfl) 30 (.int .i64 (x : Int)) (by kernel_rfl) rfl rfl rfl rfl (by kernel_rfl) (fun w => by kernel_rfl))), .inl (.inl (ow_val hA (wants_none rfl) 31 (.bool false) (by kernel_rfl) rfl rfl rfl rfl (by kernel_rfl) (fun w => run_eqK 1 rfl (by kernel_rfl) X1.out.symm w))), .inl (.inl (ow_val hA (wants_none rfl) 32 (.bool false) (by kernel_rfl) rfl rfl rfl rfl (by kernel_rfl) (fun w => by kernel_rfl))), .inl (skip_at hA 4 true false 33 32 rfl rfl (by kernel_rfl) rfl (by kernel_rfl) rfl rfl rfl (by kernel_rfl)), .inl (skip_at hA 4 true false 34 32 rfl rfl (by kernel_rfl) rfl (by kernel_rfl) rfl rfl rfl (by kernel_rfl)), .inl (skip_at hA 4 true false 35 32 rfl rfl (by kernel_rfl) rfl (by kernel_rfl) rfl rfl rfl (by kernel_rfl)), .inl (.inl (ow_val hA (wants_none rfl) 36 (.bool false) (by kernel_rfl) rfl rfl rfl rfl (by kernel_rfl) (fun w => by kernel_rfl))), .inl (.inl (ow_val hA (wants_none rfl) 37 (.bool false) (by kernel_rfl) rfl rfl rfl rfl (by kernel_rfl) (fun w => by kernel_rfl))), .inl (skip_at hA 9 true false 38 37 rfl rfl (by kernel_rfl) rfl (by kernel_rfl) rfl rfl rfl (by kernel_rfl)), .inl (.inl (ow_val hA (wants_none rfl) 39 (.bool false) (by kernel_rfl) rfl rfl rfl rfl (by kernel_rfl) (fun w => by kernel_rfl))), same_store hA rfl rfl rfl 5 sz_u8 2 28 rfl w.heap.size 0 (.int .u8 (k : Int)) (by kernel_rfl) (by kernel_rfl) (by kernel_rfl) rfl (by kernel_rfl) rfl #[.int .u8 (k : Int)] AE.kind rfl, same_store hA rfl rfl rfl 29 sz_strs 3 29 rfl (w.heap.size + 1) 0 v (by kernel_rfl) (by kernel_rfl) (by kernel_rfl) rfl (by kernel_rfl) ONE.out #[v] AE.list rfl, trivial⟩) ?_
        case hst => intro q hq; cases hq
        intro fv w5 hf hb5
        clear hf
        simp only [putR, List.foldl_cons, List.foldl_nil, List.map_cons, List.map_nil, Act.put, List.setIfInBounds_toArray, List.set_cons_succ, List.set_cons_zero]
        refine wl_set1 rfl 4 sz_bool (.tmp 4) (.tmp 39) rfl (w.heap.size + 2) 0 (.bool false) rfl rfl rfl _ (AE.ok.under hb5) Nat.zero_lt_one ?_
        intro w6 b6 p6
        go_wp2_with fail
        exact door_ret (p6.blk (AE.kind.under hb5) (by omega)) (p6.blk (AE.list.under hb5) (by omega)) b6 rfl rfl rfl (AE.fin hb5 b6 p6 EO3.out hOne.out)
      case pos =>
        have X1 : Kept _ := ⟨decide_eq_true hx1⟩
        by_cases hre : rest = []
        case neg =>
          have BR : Kept (false = decide (rest = [])) := ⟨(decide_eq_false hre).symm⟩
          have EO3 : Kept (O = false) := ⟨by rw [EO2.out, X1.out, ← BR.out]; rfl⟩
          clear hre
          refine region_skipM wz 14 [(28, .int .u8 (k : Int)), (29, v), (30, .int .i64 (x : Int)), (31, .bool true), (32, .bool true), (33, .pointer (some ⟨w.heap.size + 3, 0, none⟩)), (34, .string (strOf rest)), (35, .bool false), (36, .bool false), (37, .bool false), (38, undef), (39, .bool false)] [] rfl (by kernel_rfl) (by kernel_rfl) (by kernel_rfl) (by kernel_rfl) (by kernel_rfl) (by kernel_rfl) (by kernel_rfl) (by kernel_rfl) ?hst (Below.refl _ _) (fun hA => ⟨.inl (.inl (ow_elem hA (wants_none rfl) 28 (.int .u8 (k : Int)) (by kernel_rfl) rfl rfl rfl rfl (by kernel_rfl) 5 ag_u8 (.tmp 2) rfl (⟨w.heap.size, 0, none⟩) (by kernel_rfl) (fun w1 hb => cell_row (AE.kind.under hb) rfl))), .inl (.inl (ow_elem hA (wants_none rfl) 29 (v) (by kernel_rfl) rfl rfl rfl rfl (by kernel_rfl) 29 ag_strs (.tmp 3) rfl (⟨w.heap.size + 1, 0, none⟩) (by kernel_rfl) (fun w1 hb => cell_row (AE.list.under hb) rfl))), .inl (.inl (ow_val hA (wants_none rfl) 30 (.int .i64 (x : Int)) (by kernel_rfl) rfl rfl rfl rfl (by kernel_rfl) (fun w => by kernel_rfl))), .inl (.inl (ow_val hA (wants_none rfl) 31 (.bool true) (by kernel_rfl) rfl rfl rfl rfl (by kernel_rfl) (fun w => run_eqK 1 rfl (by kernel_rfl) X1.out.symm w))), .inl (.inl (ow_val hA (wants_none rfl) 32 (.bool true) (by kernel_rfl) rfl rfl rfl rfl (by kernel_rfl) (fun w => by kernel_rfl))), .inl (.inl (ow_val hA (wants_at hA 4 true 32 rfl rfl (by kernel_rfl) rfl rfl (by kernel_rfl)) 33 (.pointer (some ⟨w.heap.size + 3, 0, none⟩)) (by kernel_rfl) rfl rfl rfl rfl (by kernel_rfl) (fun w => by kernel_rfl))), .inl (.inl (ow_elem hA (wants_at hA 4 true 32 rfl rfl (by kernel_rfl) rfl rfl (by kernel_rfl)) 34 (.string (strOf rest)) (by kernel_rfl) rfl rfl rfl rfl (by kernel_rfl) 9 ag_str (.tmp 33) rfl (⟨w.heap.size + 3, 0, none⟩) (by kernel_rfl) (fun w1 hb => cell_row (AE.wk.under hb) rfl))), .inl (.inl (ow_val hA (wants_at hA 4 true 32 rfl rfl (by kernel_rfl) rfl rfl (by kernel_rfl)) 35 (.bool false) (by kernel_rfl) rfl rfl rfl rfl (by kernel_rfl) (fun w => run_seq (l := rest) (m := []) rfl (by kernel_rfl) rfl YR.out nil_bytes BR.out w))), .inl (.inl (ow_val hA (wants_none rfl) 36 (.bool false) (by kernel_rfl) rfl rfl rfl rfl (by kernel_rfl) (fun w => by kernel_rfl))), .inl (.inl (ow_val hA (wants_none rfl) 37 (.bool false) (by kernel_rfl) rfl rfl rfl rfl (by kernel_rfl) (fun w => by kernel_rfl))), .inl (skip_at hA 9 true false 38 37 rfl rfl (by kernel_rfl) rfl (by kernel_rfl) rfl rfl rfl (by kernel_rfl)), .inl (.inl (ow_val hA (wants_none rfl) 39 (.bool false) (by kernel_rfl) rfl rfl rfl rfl (by kernel_rfl) (fun w => by kernel_rfl))), same_store hA rfl rfl rfl 5 sz_u8 2 28 rfl w.heap.size 0 (.int .u8 (k : Int)) (by kernel_rfl) (by kernel_rfl) (by kernel_rfl) rfl (by kernel_rfl) rfl #[.int .u8 (k : Int)] AE.kind rfl, same_store hA rfl rfl rfl 29 sz_strs 3 29 rfl (w.heap.size + 1) 0 v (by kernel_rfl) (by kernel_rfl) (by kernel_rfl) rfl (by kernel_rfl) ONE.out #[v] AE.list rfl, trivial⟩) ?_
          case hst => intro q hq; cases hq
          intro fv w5 hf hb5
          clear hf
          simp only [putR, List.foldl_cons, List.foldl_nil, List.map_cons, List.map_nil, Act.put, List.setIfInBounds_toArray, List.set_cons_succ, List.set_cons_zero]
          refine wl_set1 rfl 4 sz_bool (.tmp 4) (.tmp 39) rfl (w.heap.size + 2) 0 (.bool false) rfl rfl rfl _ (AE.ok.under hb5) Nat.zero_lt_one ?_
          intro w6 b6 p6
          go_wp2_with fail
          exact door_ret (p6.blk (AE.kind.under hb5) (by omega)) (p6.blk (AE.list.under hb5) (by omega)) b6 rfl rfl rfl (AE.fin hb5 b6 p6 EO3.out hOne.out)
        case pos =>
          have BR : Kept (true = decide (rest = [])) := ⟨(decide_eq_true hre).symm⟩
          have EO3 : Kept (O = F) := ⟨by rw [EO2.out, X1.out, ← BR.out]; rfl⟩
          clear hre
          refine region_skipM wz 14 [(28, .int .u8 (k : Int)), (29, v), (30, .int .i64 (x : Int)), (31, .bool true), (32, .bool true), (33, .pointer (some ⟨w.heap.size + 3, 0, none⟩)), (34, .string (strOf rest)), (35, .bool true), (36, .bool true), (37, .bool true), (38, .bool F), (39, .bool F)] [] rfl (by kernel_rfl) (by kernel_rfl) (by kernel_rfl) (by kernel_rfl) (by kernel_rfl) (by kernel_rfl) (by kernel_rfl) (by kernel_rfl) ?hst (Below.refl _ _) (fun hA => ⟨.inl (.inl (ow_elem hA (wants_none rfl) 28 (.int .u8 (k : Int)) (by kernel_rfl) rfl rfl rfl rfl (by kernel_rfl) 5 ag_u8 (.tmp 2) rfl (⟨w.heap.size, 0, none⟩) (by kernel_rfl) (fun w1 hb => cell_row (AE.kind.under hb) rfl))), .inl (.inl (ow_elem hA (wants_none rfl) 29 (v) (by kernel_rfl) rfl rfl rfl rfl (by kernel_rfl) 29 ag_strs (.tmp 3) rfl (⟨w.heap.size + 1, 0, none⟩) (by kernel_rfl) (fun w1 hb => cell_row (AE.list.under hb) rfl))), .inl (.inl (ow_val hA (wants_none rfl) 30 (.int .i64 (x : Int)) (by kernel_rfl) rfl rfl rfl rfl (by kernel_rfl) (fun w => by kernel_rfl))), .inl (.inl (ow_val hA (wants_none rfl) 31 (.bool true) (by kernel_rfl) rfl rfl rfl rfl (by kernel_rfl) (fun w => run_eqK 1 rfl (by kernel_rfl) X1.out.symm w))), .inl (.inl (ow_val hA (wants_none rfl) 32 (.bool true) (by kernel_rfl) rfl rfl rfl rfl (by kernel_rfl) (fun w => by kernel_rfl))), .inl (.inl (ow_val hA (wants_at hA 4 true 32 rfl rfl (by kernel_rfl) rfl rfl (by kernel_rfl)) 33 (.pointer (some ⟨w.heap.size + 3, 0, none⟩)) (by kernel_rfl) rfl rfl rfl rfl (by kernel_rfl) (fun w => by kernel_rfl))), .inl (.inl (ow_elem hA (wants_at hA 4 true 32 rfl rfl (by kernel_rfl) rfl rfl (by kernel_rfl)) 34 (.string (strOf rest)) (by kernel_rfl) rfl rfl rfl rfl (by kernel_rfl) 9 ag_str (.tmp 33) rfl (⟨w.heap.size + 3, 0, none⟩) (by kernel_rfl) (fun w1 hb => cell_row (AE.wk.under hb) rfl))), .inl (.inl (ow_val hA (wants_at hA 4 true 32 rfl rfl (by kernel_rfl) rfl rfl (by kernel_rfl)) 35 (.bool true) (by kernel_rfl) rfl rfl rfl rfl (by kernel_rfl) (fun w => run_seq (l := rest) (m := []) rfl (by kernel_rfl) rfl YR.out nil_bytes BR.out w))), .inl (.inl (ow_val hA (wants_none rfl) 36 (.bool true) (by kernel_rfl) rfl rfl rfl rfl (by kernel_rfl) (fun w => by kernel_rfl))), .inl (.inl (ow_val hA (wants_none rfl) 37 (.bool true) (by kernel_rfl) rfl rfl rfl rfl (by kernel_rfl) (fun w => by kernel_rfl))), .inl (.inl (ow_val hA (wants_at hA 9 true 37 rfl rfl (by kernel_rfl) rfl rfl (by kernel_rfl)) 38 (.bool F) (by kernel_rfl) rfl rfl rfl rfl (by kernel_rfl) (fun w => by kernel_rfl))), .inl (.inl (ow_val hA (wants_none rfl) 39 (.bool F) (by kernel_rfl) rfl rfl rfl rfl (by kernel_rfl) (fun w => by kernel_rfl))), same_store hA rfl rfl rfl 5 sz_u8 2 28 rfl w.heap.size 0 (.int .u8 (k : Int)) (by kernel_rfl) (by kernel_rfl) (by kernel_rfl) rfl (by kernel_rfl) rfl #[.int .u8 (k : Int)] AE.kind rfl, same_store hA rfl rfl rfl 29 sz_strs 3 29 rfl (w.heap.size + 1) 0 v (by kernel_rfl) (by kernel_rfl) (by kernel_rfl) rfl (by kernel_rfl) ONE.out #[v] AE.list rfl, trivial⟩) ?_
          case hst => intro q hq; cases hq
          intro fv w5 hf hb5
          clear hf
          simp only [putR, List.foldl_cons, List.foldl_nil, List.map_cons, List.map_nil, Act.put, List.setIfInBounds_toArray, List.set_cons_succ, List.set_cons_zero]
          refine wl_set1 rfl 4 sz_bool (.tmp 4) (.tmp 39) rfl (w.heap.size + 2) 0 (.bool F) rfl rfl rfl _ (AE.ok.under hb5) Nat.zero_lt_one ?_
          intro w6 b6 p6
          go_wp2_with fail
          exact door_ret (p6.blk (AE.kind.under hb5) (by omega)) (p6.blk (AE.list.under hb5) (by omega)) b6 rfl rfl rfl (AE.fin hb5 b6 p6 EO3.out hOne.out)
end Go.Proofs.YtniogaimhkcedaaDoor.sh
/-
  codec.Split, codec.Take.
-/
namespace Go.Proofs.YtniogaimhkcedaaDoor.sh
open Go Go.RowKit
set_option linter.unusedVariables false
set_option linter.unusedSimpArgs false

theorem three_of : ∀ {s : List Nat}, ¬ s.length < 3 → ∃ x k n r, s = x :: k :: n :: r
  | [], h => absurd (by decide) h
  | [_], h => absurd (by simp) h
  | [_, _], h => absurd (by simp) h
  | x :: k :: n :: r, _ => ⟨x, k, n, r, rfl⟩
theorem apartD {s : List Nat} {O : Bool} {w : World} (hs : Bytes s) (hL : s.length ≤ 40000) (hO : O = (splitL s).isSome) :
    Calls Tryd.prog 65 #[.string (strOf s)] w fun e w' => (∃ K V, e = .returned (.tuple #[K, V, .bool O]) ∧ Told w.heap.size s K V w') ∧ Below w.heap.size w w' := by
  by_cases h : s.length < 3
  · have hN := split_short h
    have : O = false := by rw [hO, hN]; rfl
    subst this
    exact (apart_short hs h).mono fun e w' h => h
  · obtain ⟨x, k, n, r, rfl⟩ := three_of h
    · refine (apart_long hs (by simp at hL; omega) hO).mono ?_
      rintro e w' ⟨⟨K, V, rfl, hT⟩, hb⟩
      exact ⟨⟨K, V, rfl, fun k' ll e => ⟨(hT k' ll e).1, (hT k' ll e).2.mono (by omega)⟩⟩, hb⟩
/-- What Split answers: a kind, texts, an error's number. -/
def spK (s : List Nat) : Nat := ((splitL s).map (·.1)).getD 0
def spL (s : List Nat) : List (List Nat) := ((splitL s).map (·.2)).getD []
def spE (s : List Nat) : Nat := if (splitL s).isSome then 0 else 4
theorem split_big {s : List Nat} (hs : Bytes s) (h : 30000 < s.length) : splitL s = none := by
  cases e : splitL s with
  | none => rfl
  | some q =>
    obtain ⟨k, ll⟩ := q
    have := says_len ((splitL_says hs).1 e)
    omega
def SPost (s : List Nat) (w : World) (e : Ending) (w' : World) : Prop := (∃ V, e = .returned (.tuple #[.int .u8 (spK s : Int), V, .int .i64 (spE s : Int)]) ∧ VRow w.heap.size 9 (strs (spL s)) V w') ∧ Below w.heap.size w w'
set_option maxRecDepth 100000 in
set_option maxHeartbeats 1000000 in
theorem SplitD {s : List Nat} {w : World} (hs : Bytes s) (hL : s.length ≤ maxLen) :
    Calls Tryd.prog 50 #[.string (strOf s)] w fun e w' => SPost s w e w' := by
  have none_post : ∀ w', splitL s = none → Below w.heap.size w w' → SPost s w (.returned (.tuple #[.int .u8 0, .slice none 0 0, .int .i64 4])) w' := fun w' h hb => by
    refine ⟨⟨.slice none 0 0, ?_, ?_⟩, hb⟩
    · unfold spK spE; rw [h]; rfl
    · unfold spL; rw [h]; exact vrow_nil _ _ _
  have KP : Kept _ := ⟨none_post⟩
  clear none_post
  obtain ⟨m, hm⟩ : ∃ m, m = s.length := ⟨_, rfl⟩
  have KM : Kept _ := ⟨hm⟩
  by_cases h : 30000 < s.length
  · have hN := split_big hs h
    have h' : (30000 : Int) < (m : Int) := by omega
    clear hm
    go_enter Tryd.func50, Tryd.ntmps50
    go_wp2_with (first | ((with_reducible refine wv_val (d := 9) ?hd ?hw (.int .i64 (m : Int)) ?hr ?_); (case hd => rfl); (case hw => kernel_rfl); (case hr => intro w; exact run_slen rfl (by kernel_rfl) KM.out w); simp only [Act.put, List.setIfInBounds_toArray, List.set_cons_succ, List.set_cons_zero]))
    refine bodyPost_ret (v := .tuple #[.int .u8 0, .slice none 0 0, .int .i64 4]) (by simp [results, Tryd.results50, go_sem]) rfl ?_
    exact KP.out _ hN (Below.refl _ _)
  · have h' : ¬ (30000 : Int) < (m : Int) := by omega
    have CA := apartD (O := (splitL s).isSome) (w := w) hs (by omega) rfl
    obtain ⟨q, hq⟩ : ∃ q, q = splitL s := ⟨_, rfl⟩
    have KQ : Kept _ := ⟨hq⟩
    rw [← hq] at CA
    clear hm hq
    cases q with
    | none =>
      go_enter Tryd.func50, Tryd.ntmps50
      go_wp2_with (first | ((with_reducible refine wv_val (d := 9) ?hd ?hw (.int .i64 (m : Int)) ?hr ?_); (case hd => rfl); (case hw => kernel_rfl); (case hr => intro w; exact run_slen rfl (by kernel_rfl) KM.out w); simp only [Act.put, List.setIfInBounds_toArray, List.set_cons_succ, List.set_cons_zero]))
      refine CA.mono ?_
      rintro e w1 ⟨⟨K, V, rfl, _⟩, hb⟩
      simp only [Option.isSome_none]
      go_wp2_with fail
      refine bodyPost_ret (v := .tuple #[.int .u8 0, .slice none 0 0, .int .i64 4]) (by simp [results, Tryd.results50, go_sem]) rfl ?_
      exact KP.out _ KQ.out.symm hb
    | some q =>
      obtain ⟨k, ll⟩ := q
      go_enter Tryd.func50, Tryd.ntmps50
      go_wp2_with (first | ((with_reducible refine wv_val (d := 9) ?hd ?hw (.int .i64 (m : Int)) ?hr ?_); (case hd => rfl); (case hw => kernel_rfl); (case hr => intro w; exact run_slen rfl (by kernel_rfl) KM.out w); simp only [Act.put, List.setIfInBounds_toArray, List.set_cons_succ, List.set_cons_zero]))
      refine CA.mono ?_
      rintro e w1 ⟨⟨K, V, rfl, hT⟩, hb⟩
      obtain ⟨rfl, hr⟩ := hT k ll KQ.out.symm
      have KR : Kept _ := ⟨hr⟩
      clear hT CA KP hr
      simp only [Option.isSome_some]
      go_wp2_with fail
      refine bodyPost_ret (v := .tuple #[.int .u8 (k : Int), V, .int .i64 0]) (by simp [results, Tryd.results50, go_sem]) rfl ?_
      refine ⟨⟨V, ?_, ?_⟩, hb⟩
      · unfold spK spE; rw [← KQ.out]; rfl
      · unfold spL; rw [← KQ.out]; exact KR.out
theorem run_neU {o : Oper} {a : Act} {x y : Operand} {m n : Nat} {b : Bool} (ho : o.op = .binOp .neq 5 x y 5) (hx : a.eval x = .int .u8 (m : Int)) (hy : a.eval y = .int .u8 (n : Int)) (hb : b = !decide (m = n)) (w : World) : (execOp a.eval o).run Tryd.prog w = .ok (.value (.bool b)) w := by
  unfold execOp
  simp only [ho, hx, hy]
  rw [hb]
  by_cases h : m = n
  · subst h; simp [go_sem]
  · have h2 : ¬ (m : Int) = (n : Int) := by omega
    simp [go_sem, h, h2]
theorem run_neI {o : Oper} {a : Act} {x y : Operand} {m n : Int} {b : Bool} (ho : o.op = .binOp .neq 3 x y 3) (hx : a.eval x = .int .i64 m) (hy : a.eval y = .int .i64 n) (hb : b = !decide (m = n)) (w : World) : (execOp a.eval o).run Tryd.prog w = .ok (.value (.bool b)) w := by
  unfold execOp
  simp only [ho, hx, hy]
  rw [hb]
  by_cases h : m = n
  · subst h; simp [go_sem]
  · have h2 : ¬ (m : Int) = (n : Int) := by omega
    simp [go_sem, h, h2]
end Go.Proofs.YtniogaimhkcedaaDoor.sh
/-
  codec.Num, codec.Read.
-/
namespace Go.Proofs.YtniogaimhkcedaaDoor.sh
open Go Go.RowKit
set_option linter.unusedVariables false
set_option linter.unusedSimpArgs false

section
variable {ops : Array Oper} {rest : List Oper} {o : Oper} {a : Act} {w : World} {Q : Exit → Act → World → Prop} {d : Nat}
/-- A value, in this world. -/
theorem wv_valW (hd : o.dst = some d) (hw : Region.wanted o (yielded ops a.tmps) = true) (v : Value) (hrun : (execOp a.eval o).run Tryd.prog w = .ok (.value v) w) (h : wpList Tryd.prog ops Q rest (a.put o.dst v) w) : wpList Tryd.prog ops Q (o :: rest) a w :=
  BigFrame.wpList_want hw fun K hK => by
    unfold Oper.wp
    rw [hrun]
    exact hK _ _ h
end
theorem run_c64b {o : Oper} {a : Act} {x : Operand} {m z : Nat} (ho : o.op = .convert 44 5 x) (hx : a.eval x = .int .u64 (m : Int)) (hz : z = m % 256) (w : World) : (execOp a.eval o).run Tryd.prog w = .ok (.value (.int .u8 (z : Int))) w := by
  unfold execOp
  simp only [ho, hx]
  simp [go_sem, IntKind.wrap_u8', hz]
theorem run_shr8u {o : Oper} {a : Act} {x : Operand} {m z : Nat} {u : TypeId} (ho : o.op = .binOp .shr 44 x (.const (.int .u64 8)) u) (hx : a.eval x = .int .u64 (m : Int)) (hz : z = m / 256) (hm : m < 18446744073709551616) (w : World) : (execOp a.eval o).run Tryd.prog w = .ok (.value (.int .u64 (z : Int))) w := by
  have e3 : a.eval (.const (.int .u64 8)) = .int .u64 8 := rfl
  have h3 : (m : Int) / 256 = (z : Int) := by omega
  have h4 : (z : Int) % 18446744073709551616 = (z : Int) := by omega
  unfold execOp
  simp only [ho, hx, e3]
  simp [go_sem, Op.shift, IntKind.bits, IntKind.wrap_u64, Int.fdiv_eq_ediv_of_nonneg _ (show (0 : Int) ≤ 256 by decide), h3, h4]
theorem run_shl8u {o : Oper} {a : Act} {x : Operand} {m z : Nat} {u : TypeId} (ho : o.op = .binOp .shl 44 x (.const (.int .u64 8)) u) (hx : a.eval x = .int .u64 (m : Int)) (hz : z = m * 256) (hm : m < 72057594037927936) (w : World) : (execOp a.eval o).run Tryd.prog w = .ok (.value (.int .u64 (z : Int))) w := by
  have e3 : a.eval (.const (.int .u64 8)) = .int .u64 8 := rfl
  have h3 : (m : Int) * 256 % 18446744073709551616 = (z : Int) := by omega
  unfold execOp
  simp only [ho, hx, e3]
  simp [go_sem, Op.shift, IntKind.bits, IntKind.wrap_u64, h3]
theorem run_or8u {o : Oper} {a : Act} {x y : Operand} {m n p z : Nat} (ho : o.op = .binOp .or 44 x y 44) (hx : a.eval x = .int .u64 (m : Int)) (hy : a.eval y = .int .u64 (n : Int)) (hm : m = p * 256) (hp : p < 72057594037927936) (hn : n < 256) (hz : z = p * 256 + n) (w : World) : (execOp a.eval o).run Tryd.prog w = .ok (.value (.int .u64 (z : Int))) w := by
  have h := u64_or_nat m n (by omega) (by omega)
  rw [hm, or_256 p n hn, Nat.mul_comm 256 p, ← hz, ← hm] at h
  unfold execOp
  simp only [ho, hx, hy]
  simp [go_sem]
  exact h
theorem arr_fromV {o : Oper} {a : Act} {x y : Operand} {g n k : Nat} {p : Option Addr} {t e : TypeId} (ho : o.op = .slice t x (some y) none none) (hx : a.eval x = .pointer (some ⟨g, 0, none⟩)) (hy : a.eval y = .int .i64 (k : Int)) (ht : Tryd.prog.underlying t = some (.array n e)) (sz : ∀ w, (sizeOf e).run Tryd.prog w = .ok 1 w) (hn : k ≤ n) (hp : p = if n = k then some ⟨g, 0, none⟩ else some ⟨g, k, none⟩) (w : World) :
    (execOp a.eval o).run Tryd.prog w = .ok (.value (.slice p (n - k) (n - k))) w := by
  subst hp
  have h1 : ((k : Int) ≤ (n : Int)) := by omega
  unfold execOp
  simp only [ho, hx, hy, Option.map_none, Option.map_some, Instr.sliceAt, Instr.slice, Instr.sliceBounds, Sem.run_bind, run_underlying ht, Result.andThen_ok]
  simp [Instr.sliceBound, asIntOf, sz, go_sem, h1, hn, Addr.add]
  by_cases h0 : k = 0
  · subst h0
    split <;> rfl
  · simp [h0]
    split <;> rfl
theorem set_zero : ∀ (k z : Nat) (D : List Nat), (List.replicate (k + 1) 0 ++ D).set k z = List.replicate k 0 ++ (z :: D)
  | 0, z, D => by simp
  | k + 1, z, D => by
    rw [List.replicate_succ, List.cons_append, List.set_cons_succ, set_zero k z D, List.replicate_succ, List.cons_append]
theorem z8_cells : (#[.int .u8 0, .int .u8 0, .int .u8 0, .int .u8 0, .int .u8 0, .int .u8 0, .int .u8 0, .int .u8 0] : Array Value) = ints .u8 (List.replicate 8 0 ++ []) := by kernel_rfl

set_option maxRecDepth 100000 in
set_option maxHeartbeats 1000000 in
theorem NumD {n : Nat} {w : World} (hn : n < 18446744073709551616) :
    Calls Tryd.prog 43 #[.int .u64 (n : Int)] w fun e w' => e = .returned (.string (strOf (numL n))) ∧ Below w.heap.size w w' := by
  obtain ⟨R, hR⟩ : ∃ R, R = numL n := ⟨_, rfl⟩
  rw [← hR]
  have E0 : Kept ((#[.int .u8 0, .int .u8 0, .int .u8 0, .int .u8 0, .int .u8 0, .int .u8 0, .int .u8 0, .int .u8 0] : Array Value) = ints .u8 (List.replicate 8 0 ++ [])) := ⟨z8_cells⟩
  have A0 : Blk (w.alloc (.cells #[.int .u8 0, .int .u8 0, .int .u8 0, .int .u8 0, .int .u8 0, .int .u8 0, .int .u8 0, .int .u8 0] 111)) w.heap.size 111 (ints .u8 (List.replicate 8 0 ++ [])) := by rw [E0.out]; exact blk_new w _ _
  have Q0 : Below w.heap.size w (w.alloc (.cells #[.int .u8 0, .int .u8 0, .int .u8 0, .int .u8 0, .int .u8 0, .int .u8 0, .int .u8 0, .int .u8 0] 111)) := (Below.refl _ _).alloc (Nat.le_refl _) _
  have KR : Kept (numT n 8 ++ [] = R) := ⟨by rw [hR, List.append_nil]; rfl⟩
  clear hR
  go_enter Tryd.func43, Tryd.ntmps43
  go_wp2_with fail
  generalize hW : w.alloc (.cells #[.int .u8 0, .int .u8 0, .int .u8 0, .int .u8 0, .int .u8 0, .int .u8 0, .int .u8 0, .int .u8 0] 111) = wa at *
  clear hW E0
  go_loopg [0, 4] 8 (fun k s0 s4 wr => ∃ (m : Nat) (D : List Nat), s0 = .int .u64 (m : Int) ∧ s4 = .int .i64 (k : Int) ∧ k ≤ 8 ∧ m < 18446744073709551616 ∧ Kept (m < 256 ^ k ∧ D.length + k = 8 ∧ Bytes D ∧ numT m k ++ D = R) ∧ Below w.heap.size w wr ∧ Blk wr w.heap.size 111 (ints .u8 (List.replicate k 0 ++ D)))
  case atStart => exact ⟨n, [], rfl, rfl, Nat.le_refl _, hn, ⟨hn, rfl, nil_bytes, KR.out⟩, Q0, A0⟩
  case round =>
    rename World => wz
    obtain ⟨m, D, rfl, rfl, hk8, hm, KD, HB, AZ⟩ := hrel
    clear A0 Q0 KR
    by_cases hm0 : m = 0
    case pos =>
      subst hm0
      have h0 : ¬ (0 : Int) < ((0 : Nat) : Int) := by omega
      have eD : Kept (D = R) := ⟨by have := KD.out.2.2.2; rwa [numT_zero, List.nil_append] at this⟩
      obtain ⟨p, hp⟩ : ∃ p : Option Addr, p = if 8 = gk then some ⟨w.heap.size, 0, none⟩ else some ⟨w.heap.size, gk, none⟩ := ⟨_, rfl⟩
      have KPP : Kept _ := ⟨hp⟩
      have sl : Kept (IntsV .u8 (.slice p (8 - gk) (8 - gk)) wz R) := ⟨by
        have hDl : D.length = 8 - gk := by have := KD.out.2.1; omega
        refine ⟨_, 8 - gk, by rw [← eD.out, hDl], by rw [← eD.out, hDl]; exact Nat.le_refl _, fun hne => ?_⟩
        have hg8 : ¬ 8 = gk := fun h => hne (List.eq_nil_of_length_eq_zero (by rw [← eD.out, hDl]; omega))
        refine ⟨⟨w.heap.size, gk, none⟩, by rw [hp, if_neg hg8], AZ.lt, fun j x hx => ?_⟩
        rw [addr_add]
        refine AZ.cell (ints_get ?_)
        rw [List.getElem?_append_right (by rw [List.length_replicate]; omega), List.length_replicate, show gk + j - gk = j by omega, eD.out]
        exact hx⟩
      clear hp
      go_wp2_with (first | ((with_reducible refine wv_val (d := 16) ?hd ?hw (.slice p (8 - gk) (8 - gk)) ?hr ?_); (case hd => rfl); (case hw => kernel_rfl); (case hr => intro w; exact arr_fromV rfl (by kernel_rfl) (by kernel_rfl) Tryd.underlying111 sz_u8 hk8 KPP.out w); simp only [Act.put, List.setIfInBounds_toArray, List.set_cons_succ, List.set_cons_zero]) | ((with_reducible refine wv_valW (d := 17) ?hd ?hw (.string (strOf R)) ?hr ?_); (case hd => rfl); (case hw => kernel_rfl); (case hr => exact run_str rfl (by kernel_rfl) sl.out); simp only [Act.put, List.setIfInBounds_toArray, List.set_cons_succ, List.set_cons_zero]))
      go_ret
      exact ⟨rfl, HB⟩
    case neg =>
      have h0 : (0 : Int) < (m : Int) := by omega
      obtain ⟨k, hk⟩ : ∃ k, gk = k + 1 := by
        cases gk with
        | zero => have := KD.out.1; simp at this; omega
        | succ k => exact ⟨k, rfl⟩
      obtain ⟨z, hz⟩ : ∃ z, z = m % 256 := ⟨_, rfl⟩
      obtain ⟨m2, hm2⟩ : ∃ m2, m2 = m / 256 := ⟨_, rfl⟩
      have KZ : Kept _ := ⟨hz⟩
      have K2 : Kept _ := ⟨hm2⟩
      have K1 : Kept (gk = k + 1) := ⟨hk⟩
      have hk7 : k < 8 := by omega
      have hm2' : m2 < 18446744073709551616 := by omega
      have EB : Kept ((ints .u8 (List.replicate gk 0 ++ D)).setIfInBounds k (.int .u8 (z : Int)) = ints .u8 (List.replicate k 0 ++ (z :: D))) := ⟨by rw [ints_set, hk, set_zero]⟩
      have SB : k < (ints .u8 (List.replicate gk 0 ++ D)).size := by rw [ints_size, List.length_append, List.length_replicate]; omega
      have KD2 : Kept (m2 < 256 ^ k ∧ (z :: D).length + k = 8 ∧ Bytes (z :: D) ∧ numT m2 k ++ (z :: D) = R) := ⟨by
        obtain ⟨d1, d2, d3, d4⟩ := KD.out
        rw [hk, Nat.pow_succ] at d1
        refine ⟨by omega, by rw [List.length_cons]; omega, (bytes_of_all (fun y hy => by simp at hy; omega) : Bytes [z]).append d3, ?_⟩
        rw [← d4, hk]
        show _ = (if m = 0 then [] else numT (m / 256) k ++ [m % 256]) ++ D
        rw [if_neg hm0, hm2, hz, List.append_assoc]
        rfl⟩
      clear hz hm2 hk hm0 KD
      go_wp2_with (first | ((with_reducible refine wv_val (d := 10) ?hd ?hw (.int .i64 (k : Int)) ?hr ?_); (case hd => rfl); (case hw => kernel_rfl); (case hr => intro w; exact run_subZ 1 rfl (by kernel_rfl) K1.out (by omega) w); simp only [Act.put, List.setIfInBounds_toArray, List.set_cons_succ, List.set_cons_zero]) | ((with_reducible refine wv_val (d := 13) ?hd ?hw (.int .u8 (z : Int)) ?hr ?_); (case hd => rfl); (case hw => kernel_rfl); (case hr => intro w; exact run_c64b rfl (by kernel_rfl) KZ.out w); simp only [Act.put, List.setIfInBounds_toArray, List.set_cons_succ, List.set_cons_zero]) | ((with_reducible refine wv_val (d := 14) ?hd ?hw (.pointer (some ⟨w.heap.size, k, none⟩)) ?hr ?_); (case hd => rfl); (case hw => kernel_rfl); (case hr => intro w; exact run_idx rfl (by kernel_rfl) (by kernel_rfl) Tryd.underlying111 hk7 sz_u8 w); simp only [Act.put, List.setIfInBounds_toArray, List.set_cons_succ, List.set_cons_zero]) | (refine wl_setElem rfl 5 sz_u8 (.tmp 14) (.tmp 13) rfl w.heap.size k .u8 (z : Int) rfl rfl _ AZ SB ?_))
      intro w4 A4 P4
      rw [EB.out] at A4
      have HB4 := HB.trans (P4.below (Nat.le_refl _))
      clear AZ HB P4 SB EB
      go_wp2_with (first | ((with_reducible refine wv_val (d := 8) ?hd ?hw (.int .u64 (m2 : Int)) ?hr ?_); (case hd => rfl); (case hw => kernel_rfl); (case hr => intro w; exact run_shr8u rfl (by kernel_rfl) K2.out hm w); simp only [Act.put, List.setIfInBounds_toArray, List.set_cons_succ, List.set_cons_zero]))
      go_roundg k
      case measure => have := K1.out; omega
      case rel => exact ⟨m2, z :: D, rfl, rfl, by omega, hm2', KD2, HB4, A4⟩

/-- What Read answers. -/
def Reads (s : List Nat) : Prop := s.length ≤ 8 ∧ s.head? ≠ some 0
instance decReads (s : List Nat) : Decidable (Reads s) := inferInstanceAs (Decidable (_ ∧ _))
def rdV (s : List Nat) : Nat := if Reads s then readT s else 0
def rdE (s : List Nat) : Nat := if Reads s then 0 else 4
theorem readT_take {s : List Nat} {i x : Nat} (h : s[i]? = some x) : readT (s.take (i + 1)) = readT (s.take i) * 256 + x := by
  rw [List.take_add_one, h, Option.toList_some, readT_snoc]
theorem readT_takeB {s : List Nat} {i : Nat} (hs : Bytes s) (hi : i ≤ 7) : readT (s.take i) < 72057594037927936 := by
  have h := readT_lt (s.take i).length (s.take i) rfl (hs.take i)
  have h2 : (s.take i).length ≤ 7 := by rw [List.length_take]; omega
  have h3 : 256 ^ (s.take i).length ≤ 256 ^ 7 := Nat.pow_le_pow_right (by decide) h2
  omega
set_option maxRecDepth 100000 in
set_option maxHeartbeats 1000000 in
theorem ReadD {s : List Nat} {w : World} (hs : Bytes s) (hL : s.length ≤ maxLen) :
    Calls Tryd.prog 63 #[.string (strOf s)] w fun e w' => e = .returned (.tuple #[.int .u64 (rdV s : Int), .int .i64 (rdE s : Int)]) ∧ w' = w := by
  obtain ⟨m, hm⟩ : ∃ m, m = s.length := ⟨_, rfl⟩
  have KM : Kept _ := ⟨hm⟩
  have bad : ¬ Reads s → Ending.returned (.tuple #[.int .u64 0, .int .i64 4]) = .returned (.tuple #[.int .u64 (rdV s : Int), .int .i64 (rdE s : Int)]) := fun h => by
    unfold rdV rdE
    rw [if_neg h, if_neg h]
    rfl
  have KB : Kept _ := ⟨bad⟩
  have KS : Kept _ := ⟨hs⟩
  clear bad
  by_cases h8 : 8 < m
  · have h' : (8 : Int) < (m : Int) := by omega
    have hN : ¬ Reads s := fun h => by have := h.1; omega
    clear hm
    go_enter Tryd.func63, Tryd.ntmps63
    go_wp2_with (first | ((with_reducible refine wv_val (d := 7) ?hd ?hw (.int .i64 (m : Int)) ?hr ?_); (case hd => rfl); (case hw => kernel_rfl); (case hr => intro w; exact run_slen rfl (by kernel_rfl) KM.out w); simp only [Act.put, List.setIfInBounds_toArray, List.set_cons_succ, List.set_cons_zero]))
    go_ret2
    exact ⟨KB.out hN, rfl⟩
  · have h' : ¬ (8 : Int) < (m : Int) := by omega
    have hH := sHas s [0] w
    have e0 : (([0] : List Nat).map fun n => UInt8.ofNat n).isPrefixOf (s.map fun n => UInt8.ofNat n) = decide (s.head? = some 0) := by
      cases s with
      | nil => rfl
      | cons x r =>
        have hx : x < 256 := hs 0 x rfl
        show (UInt8.ofNat 0 == UInt8.ofNat x && _) = _
        by_cases h : x = 0
        · subst h; simp
        · have : ¬ (UInt8.ofNat 0 = UInt8.ofNat x) := fun e => h (by
            have := congrArg UInt8.toNat e
            simp at this
            omega)
          simp [h, this]
          intro h5
          exact absurd h5 this
    rw [e0] at hH
    clear e0
    by_cases hz : s.head? = some 0
    · have hN : ¬ Reads s := fun h => h.2 hz
      rw [decide_eq_true hz] at hH
      clear hm hz
      go_enter Tryd.func63, Tryd.ntmps63
      go_wp2_with (first | ((with_reducible refine wv_val (d := 7) ?hd ?hw (.int .i64 (m : Int)) ?hr ?_); (case hd => rfl); (case hw => kernel_rfl); (case hr => intro w; exact run_slen rfl (by kernel_rfl) KM.out w); simp only [Act.put, List.setIfInBounds_toArray, List.set_cons_succ, List.set_cons_zero]))
      refine hH.mono ?_
      rintro e w1 ⟨rfl, hw1⟩
      obtain rfl := hw1.symm
      go_wp2_with fail
      go_ret2
      exact ⟨KB.out hN, rfl⟩
    · have hR : Reads s := ⟨by omega, hz⟩
      have KR : Kept (rdV s = readT s ∧ rdE s = 0) := ⟨by unfold rdV rdE; rw [if_pos hR, if_pos hR]; exact ⟨rfl, rfl⟩⟩
      rw [KR.out.1, KR.out.2]
      rw [decide_eq_false hz] at hH
      obtain ⟨V, hV⟩ : ∃ V, V = readT s := ⟨_, rfl⟩
      rw [← hV]
      have KV : Kept _ := ⟨hV⟩
      clear hm hz hR KR hV
      go_enter Tryd.func63, Tryd.ntmps63
      go_wp2_with (first | ((with_reducible refine wv_val (d := 7) ?hd ?hw (.int .i64 (m : Int)) ?hr ?_); (case hd => rfl); (case hw => kernel_rfl); (case hr => intro w; exact run_slen rfl (by kernel_rfl) KM.out w); simp only [Act.put, List.setIfInBounds_toArray, List.set_cons_succ, List.set_cons_zero]))
      refine hH.mono ?_
      rintro e w1 ⟨rfl, hw1⟩
      obtain rfl := hw1.symm
      go_wp2_with (first | ((with_reducible refine wv_val (d := 14) ?hd ?hw (.int .i64 (m : Int)) ?hr ?_); (case hd => rfl); (case hw => kernel_rfl); (case hr => intro w; exact run_slen rfl (by kernel_rfl) KM.out w); simp only [Act.put, List.setIfInBounds_toArray, List.set_cons_succ, List.set_cons_zero]))
      go_loopg [4, 15] m (fun k s4 s15 wr => ∃ i v : Nat, i + k = m ∧ s15 = .int .i64 (i : Int) ∧ s4 = .int .u64 (v : Int) ∧ Kept (v = readT (s.take i)) ∧ wr = w)
      case atStart => exact ⟨0, 0, by omega, rfl, rfl, ⟨rfl⟩, rfl⟩
      case round =>
        obtain ⟨i, v, hik, rfl, rfl, Kv, hwr⟩ := hrel
        obtain rfl := hwr.symm
        by_cases hk0 : gk = 0
        · obtain rfl : m = i := by omega
          have hvV : Kept (v = V) := ⟨by rw [Kv.out, KV.out, KM.out, List.take_length]⟩
          go_wp2_with fail
          go_ret2
          exact ⟨by rw [← hvV.out]; rfl, rfl⟩
        · have hin : i < m := by omega
          have hin' : (i : Int) < (m : Int) := by omega
          obtain ⟨x, hx⟩ : ∃ x, s[i]? = some x := ⟨_, List.getElem?_eq_getElem (by rw [← KM.out]; exact hin)⟩
          have hx8 : x < 256 := KS.out i x hx
          have KX : Kept _ := ⟨hx⟩
          have hv7 : v < 72057594037927936 := by rw [Kv.out]; exact readT_takeB KS.out (by omega)
          obtain ⟨p, hp⟩ : ∃ p, p = v * 256 := ⟨_, rfl⟩
          obtain ⟨q, hq⟩ : ∃ q, q = v * 256 + x := ⟨_, rfl⟩
          have KP : Kept _ := ⟨hp⟩
          have KQ : Kept _ := ⟨hq⟩
          clear hx hp hq
          go_wp2_with (first | ((with_reducible refine wv_val (d := 19) ?hd ?hw (.int .u64 (p : Int)) ?hr ?_); (case hd => rfl); (case hw => kernel_rfl); (case hr => intro w; exact run_shl8u rfl (by kernel_rfl) KP.out hv7 w); simp only [Act.put, List.setIfInBounds_toArray, List.set_cons_succ, List.set_cons_zero]) | ((with_reducible refine wv_val (d := 22) ?hd ?hw (.int .u8 (x : Int)) ?hr ?_); (case hd => rfl); (case hw => kernel_rfl); (case hr => intro w; exact run_sidx rfl (by kernel_rfl) (by kernel_rfl) KS.out KX.out w); simp only [Act.put, List.setIfInBounds_toArray, List.set_cons_succ, List.set_cons_zero]) | ((with_reducible refine wv_val (d := 23) ?hd ?hw (.int .u64 (x : Int)) ?hr ?_); (case hd => rfl); (case hw => kernel_rfl); (case hr => intro w; exact run_c864 rfl (by kernel_rfl) hx8 w); simp only [Act.put, List.setIfInBounds_toArray, List.set_cons_succ, List.set_cons_zero]) | ((with_reducible refine wv_val (d := 24) ?hd ?hw (.int .u64 (q : Int)) ?hr ?_); (case hd => rfl); (case hw => kernel_rfl); (case hr => intro w; exact run_or8u rfl (by kernel_rfl) (by kernel_rfl) KP.out hv7 hx8 KQ.out w); simp only [Act.put, List.setIfInBounds_toArray, List.set_cons_succ, List.set_cons_zero]))
          go_roundg (gk - 1)
          case measure => omega
          case rel => exact ⟨i + 1, q, by omega, by simp, rfl, ⟨by rw [KQ.out, Kv.out, readT_take KX.out]⟩, rfl⟩
end Go.Proofs.YtniogaimhkcedaaDoor.sh
/-
  The reference's Same, Num, Read.
-/
namespace Go.Proofs.YtniogaimhkcedaaDoor.sh
open Go Go.RowKit
set_option linter.unusedVariables false
set_option linter.unusedSimpArgs false

theorem one_bytes (z : Nat) (w : World) : IntsV .u8 (.slice (some ⟨w.heap.size, 0, none⟩) 1 1) (w.alloc (.cells #[.int .u8 (z : Int)] 5)) [z] := arr_bytes (t := 5) (l := [z]) (blk_new w _ _) rfl

end Go.Proofs.YtniogaimhkcedaaDoor.sh
/-
  The reference's Join.
-/
namespace Go.Proofs.YtniogaimhkcedaaDoor.sh
open Go Go.RowKit
set_option linter.unusedVariables false
set_option linter.unusedSimpArgs false

theorem run_quo256 {o : Oper} {a : Act} {x : Operand} {m z : Nat} (ho : o.op = .binOp .quo 3 x (.const (.int .i64 256)) 3) (hx : a.eval x = .int .i64 (m : Int)) (hz : z = m / 256) (hm : m < 4611686018427387904) (w : World) : (execOp a.eval o).run Tryd.prog w = .ok (.value (.int .i64 (z : Int))) w := by
  have e3 : a.eval (.const (.int .i64 256)) = .int .i64 256 := rfl
  have h3 : (m : Int).tdiv 256 = (z : Int) := by rw [Int.tdiv_eq_ediv_of_nonneg (by omega)]; omega
  unfold execOp
  simp only [ho, hx, e3]
  simp [go_sem, IntKind.wrap_i64, wrap64, h3]
  try omega
theorem run_rem256 {o : Oper} {a : Act} {x : Operand} {m z : Nat} (ho : o.op = .binOp .rem 3 x (.const (.int .i64 256)) 3) (hx : a.eval x = .int .i64 (m : Int)) (hz : z = m % 256) (w : World) : (execOp a.eval o).run Tryd.prog w = .ok (.value (.int .i64 (z : Int))) w := by
  have e3 : a.eval (.const (.int .i64 256)) = .int .i64 256 := rfl
  have h3 : (m : Int).tmod 256 = (z : Int) := by rw [Int.tmod_eq_emod_of_nonneg (by omega)]; omega
  unfold execOp
  simp only [ho, hx, e3]
  simp [go_sem, IntKind.wrap_i64, wrap64, h3]
  try omega
theorem run_two (x y : Nat) (w : World) : (Instr.buildSlice 23 2 #[(0, .int .u8 (x : Int)), (1, .int .u8 (y : Int))]).run Tryd.prog w = .ok (.slice (some ⟨w.heap.size, 0, none⟩) 2 2) (w.alloc (.cells (ints .u8 [x, y]) 5)) := by kernel_rfl
section
variable {h : List Oper} {A0 A : Act} {W0 : World} {S : Nat → Option (Value → World → Prop)} {sp O : List Nat} {E : List (Nat × Nat)} {i : Nat} {o : Oper}
/-- Two bytes in a slice of their own, in a region that draws its order. -/
theorem ow_two (hA : Full h A0 A S sp) (hw : Wants h A0 A S O E W0.heap.size i o) (d s t x y : Nat) (hd : o.dst = some d) (ho : o.op = .buildSlice 23 2 #[(0, .tmp s), (1, .tmp t)]) (hws : waitsFor h o s = true) (hwt : waitsFor h o t = true) (hx : A.tmps[s]? = some (.int .u8 (x : Int))) (hy : A.tmps[t]? = some (.int .u8 (y : Int))) (hss : sp.contains s = false) (hst : sp.contains t = false) (hEs : (E.all fun q => q.2 != s || q.1 == i) = true) (hEt : (E.all fun q => q.2 != t || q.1 == i) = true) (hO : O.contains d = false) (hp : S d = some (fun v w => BytesV v w [x, y])) : OwnOk Tryd.prog h A0 W0 (relR A S) O E i o :=
  ow_run hw d hd fun a w hF hB hgot => by
    have e1 := gotE_det hA hgot hws hss hEs hx
    have e2 := gotE_det hA hgot hwt hst hEt hy
    refine ⟨_, _, none, ?_, rel_spec _ hp (arr_bytes (t := 5) (l := [x, y]) (n := 2) (blk_new w _ _) rfl), grown_none ((Below.refl _ _).alloc (Nat.le_refl _) _), fun b hb => (by cases hb), fun h3 => by rw [hO] at h3; cases h3⟩
    unfold execOp
    simp only [ho]
    simp [e1, e2, run_two]
end
theorem three_bytes (k n : Nat) (w : World) : IntsV .u8 (.slice (some ⟨w.heap.size, 0, none⟩) 3 3) (w.alloc (.cells #[.int .u8 1, .int .u8 (k : Int), .int .u8 (n : Int)] 5)) [1, k, n] := arr_bytes (t := 5) (l := [1, k, n]) (blk_new w _ _) rfl

set_option maxRecDepth 100000 in
set_option maxHeartbeats 2000000 in
theorem rJoinD {k : Nat} {ll : List (List Nat)} {v : Value} {w : World} (hk : k < 256) (hv : ValsV v w (strs ll)) (hl : ∀ l ∈ ll, Bytes l ∧ l.length ≤ maxLen) :
    Calls Tryd.prog 59 #[.int .u8 (k : Int), v] w fun e w' => e = .returned (.tuple #[.string (strOf (joinS k ll)), .int .i64 (joinE ll : Int)]) ∧ Below w.heap.size w w' := by
  obtain ⟨p, c, rfl, hc⟩ := vals_form hv (strs_len ll)
  obtain ⟨n, hn⟩ : ∃ n, n = ll.length := ⟨_, rfl⟩
  obtain ⟨J, hJ⟩ : ∃ J, J = joinS k ll := ⟨_, rfl⟩
  obtain ⟨E, hE⟩ : ∃ J, J = joinE ll := ⟨_, rfl⟩
  rw [← hn] at hv hc ⊢
  rw [← hJ, ← hE]
  have bad : ¬ Fits ll → Ending.returned (.tuple #[.string .empty, .int .i64 3]) = .returned (.tuple #[.string (strOf J), .int .i64 (E : Int)]) := fun h => by
    rw [hJ, hE, joinS_not h, joinE_not h]
    rfl
  have KB : Kept _ := ⟨bad⟩
  have HN : Kept _ := ⟨hn⟩
  have HV : Kept _ := ⟨hv⟩
  have HL : Kept _ := ⟨hl⟩
  have HJ : Kept _ := ⟨hJ⟩
  have HE : Kept _ := ⟨hE⟩
  clear hn hv hl hJ hE bad
  by_cases h255 : 255 < n
  case pos =>
    have h' : (255 : Int) < (n : Int) := by omega
    have hF : ¬ Fits ll := fun h => by have := h.1; have := HN.out; omega
    go_enter Tryd.func59, Tryd.ntmps59
    go_wp2_with fail
    go_ret2
    exact ⟨KB.out hF, Below.refl _ _⟩
  case neg =>
    have h' : ¬ (255 : Int) < (n : Int) := by omega
    have n256 : n < 256 := by omega
    go_enter Tryd.func59, Tryd.ntmps59
    go_wp2_with (first | ((with_reducible refine wv_val (d := 15) ?hd ?hw (.int .u8 (n : Int)) ?hr ?_); (case hd => rfl); (case hw => kernel_rfl); (case hr => intro w; exact run_c38 rfl (by kernel_rfl) n256 w); simp only [Act.put, List.setIfInBounds_toArray, List.set_cons_succ, List.set_cons_zero]) | ((with_reducible refine wv_valW (d := 17) ?hd ?hw (.string (strOf [1, k, n])) ?hr ?_); (case hd => rfl); (case hw => kernel_rfl); (case hr => exact run_str rfl (by kernel_rfl) (three_bytes k n w)); simp only [Act.put, List.setIfInBounds_toArray, List.set_cons_succ, List.set_cons_zero]))
    have Q0 : Below w.heap.size w (w.alloc (.cells #[.int .u8 1, .int .u8 (k : Int), .int .u8 (n : Int)] 5)) := (Below.refl _ _).alloc (Nat.le_refl _) _
    go_loopg [6, 7] n (fun g s6 s7 wr => ∃ (i : Nat) (T0 : List Nat), i + g = n ∧ s7 = .int .i64 (i : Int) ∧ s6 = .string (strOf T0) ∧ Kept (T0 = 1 :: k :: n :: itemsL (ll.take i) ∧ ∀ x ∈ ll.take i, x.length ≤ 4000) ∧ Below w.heap.size w wr)
    case atStart => exact ⟨0, _, by omega, rfl, rfl, ⟨by simp [itemsL], fun x hx => by simp at hx⟩, Q0⟩
    case round =>
      rename World => wz
      obtain ⟨i, T0, hik, rfl, rfl, KT, HW⟩ := hrel
      clear Q0
      by_cases hk0 : gk = 0
      case pos =>
        obtain rfl : n = i := by omega
        obtain ⟨m, hm⟩ : ∃ m, m = T0.length := ⟨_, rfl⟩
        have KM : Kept _ := ⟨hm⟩
        have hA : T0 = joinL k ll ∧ ∀ x ∈ ll, x.length ≤ 4000 := by
          have := KT.out
          rw [List.take_of_length_le (by rw [← HN.out]; exact Nat.le_refl _)] at this
          unfold joinL
          rw [← HN.out]
          exact this
        by_cases h3 : 30000 < m
        case pos =>
          have hF : ¬ Fits ll := fun h => by have := h.2.2; rw [hm, hA.1, joinL_len] at h3; omega
          have h3' : (30000 : Int) < (m : Int) := by omega
          clear hm hA
          go_wp2_with (first | ((with_reducible refine wv_val (d := 47) ?hd ?hw (.int .i64 (m : Int)) ?hr ?_); (case hd => rfl); (case hw => kernel_rfl); (case hr => intro w; exact run_slen rfl (by kernel_rfl) KM.out w); simp only [Act.put, List.setIfInBounds_toArray, List.set_cons_succ, List.set_cons_zero]))
          go_ret2
          exact ⟨KB.out hF, HW⟩
        case neg =>
          have hF : Fits ll := ⟨by have := HN.out; omega, hA.2, by rw [hm, hA.1, joinL_len] at h3; omega⟩
          have fin : Kept (T0 = J ∧ E = 0) := ⟨by rw [HJ.out, HE.out, joinS_fits hF, joinE_fits hF]; exact ⟨hA.1, rfl⟩⟩
          have h3' : ¬ (30000 : Int) < (m : Int) := by omega
          clear hm hA
          go_wp2_with (first | ((with_reducible refine wv_val (d := 47) ?hd ?hw (.int .i64 (m : Int)) ?hr ?_); (case hd => rfl); (case hw => kernel_rfl); (case hr => intro w; exact run_slen rfl (by kernel_rfl) KM.out w); simp only [Act.put, List.setIfInBounds_toArray, List.set_cons_succ, List.set_cons_zero]))
          go_ret2
          exact ⟨by rw [← fin.out.1, fin.out.2]; rfl, HW⟩
      case neg =>
        have hin : i < n := by omega
        have hin' : (i : Int) < (n : Int) := by omega
        obtain ⟨l, h1, h2, h3⟩ := strs_put (show i < ll.length by rw [← HN.out]; exact hin)
        obtain ⟨A, rfl, hA, hcA⟩ := vals_at (HV.out.under HW) h2
        have KA : Kept (∀ w1, Below wz.heap.size wz w1 → w1.cell? (A.add i) = some (.string (strOf l))) := ⟨fun w1 hb => (hb.cell (by rw [add_block]; exact hA)).trans hcA⟩
        have KC : Kept _ := ⟨hcA⟩
        obtain ⟨z, hz⟩ : ∃ z, z = l.length := ⟨_, rfl⟩
        have KZ : Kept _ := ⟨hz⟩
        have KL : Kept _ := ⟨h1⟩
        have hm := items_takeB (ll := ll) (i := i) (by omega) KT.out.2
        have hzM : z ≤ 9223372036854775807 := by have := (HL.out l h3).2; unfold maxLen at this; omega
        clear h1 h2 h3 hcA hz
        by_cases h4 : 4000 < z
        case pos =>
          have h4' : (4000 : Int) < (z : Int) := by omega
          have hF : ¬ Fits ll := fun h => by have := h.2.1 l (List.mem_of_getElem? KL.out); have := KZ.out; omega
          go_wp2_with (first | ((with_reducible refine wv_val (d := 26) ?hd ?hw (.pointer (some (A.add i))) ?hr ?_); (case hd => rfl); (case hw => kernel_rfl); (case hr => intro w; exact run_idxS rfl (by kernel_rfl) (by kernel_rfl) Tryd.underlying29 hin Tryd.sizeOf9 w); simp only [Act.put, List.setIfInBounds_toArray, List.set_cons_succ, List.set_cons_zero]) | ((with_reducible refine wv_elem (d := 27) ?hd ?hw 9 ag_str (.tmp 26) ?ho (A.add i) ?hx (.string (strOf l)) ?hc ?_); (case hd => rfl); (case hw => kernel_rfl); (case ho => rfl); (case hx => kernel_rfl); (case hc => exact KC.out); simp only [Act.put, List.setIfInBounds_toArray, List.set_cons_succ, List.set_cons_zero]) | ((with_reducible refine wv_val (d := 28) ?hd ?hw (.int .i64 (z : Int)) ?hr ?_); (case hd => rfl); (case hw => kernel_rfl); (case hr => intro w; exact run_slen rfl (by kernel_rfl) KZ.out w); simp only [Act.put, List.setIfInBounds_toArray, List.set_cons_succ, List.set_cons_zero]))
          go_ret2
          exact ⟨KB.out hF, HW⟩
        case neg =>
          have h4' : ¬ (4000 : Int) < (z : Int) := by omega
          obtain ⟨x, hx⟩ : ∃ x, x = z / 256 := ⟨_, rfl⟩
          obtain ⟨y, hy⟩ : ∃ y, y = z % 256 := ⟨_, rfl⟩
          obtain ⟨T1, hT1⟩ : ∃ T1, T1 = T0 ++ [x, y] := ⟨_, rfl⟩
          obtain ⟨T2, hT2⟩ : ∃ T2, T2 = T1 ++ l := ⟨_, rfl⟩
          have KX : Kept _ := ⟨hx⟩
          have KY : Kept _ := ⟨hy⟩
          have hx8 : x < 256 := by omega
          have hy8 : y < 256 := by omega
          have hz62 : z < 4611686018427387904 := by omega
          have E1 : Kept _ := ⟨hT1⟩
          have E2 : Kept _ := ⟨hT2⟩
          have hT0 : T0.length ≤ 1020600 := by rw [KT.out.1]; simp; omega
          have B1 : T0.length + [x, y].length < 4611686018427387904 := by simp; omega
          have B2 : T1.length + l.length < 4611686018427387904 := by rw [hT1, List.length_append, ← KZ.out]; simp; omega
          have KN : Kept (T2 = 1 :: k :: n :: itemsL (ll.take (i + 1)) ∧ ∀ x ∈ ll.take (i + 1), x.length ≤ 4000) := ⟨by
            refine ⟨?_, small_take KL.out KT.out.2 (by have := KZ.out; omega)⟩
            rw [hT2, hT1, KT.out.1, items_take KL.out]
            unfold itemL
            rw [← KZ.out, ← hx, ← hy]
            simp⟩
          clear hx hy hT1 hT2 KT
          go_wp2_with (first | ((with_reducible refine wv_val (d := 26) ?hd ?hw (.pointer (some (A.add i))) ?hr ?_); (case hd => rfl); (case hw => kernel_rfl); (case hr => intro w; exact run_idxS rfl (by kernel_rfl) (by kernel_rfl) Tryd.underlying29 hin Tryd.sizeOf9 w); simp only [Act.put, List.setIfInBounds_toArray, List.set_cons_succ, List.set_cons_zero]) | ((with_reducible refine wv_elem (d := 27) ?hd ?hw 9 ag_str (.tmp 26) ?ho (A.add i) ?hx (.string (strOf l)) ?hc ?_); (case hd => rfl); (case hw => kernel_rfl); (case ho => rfl); (case hx => kernel_rfl); (case hc => exact KC.out); simp only [Act.put, List.setIfInBounds_toArray, List.set_cons_succ, List.set_cons_zero]) | ((with_reducible refine wv_val (d := 28) ?hd ?hw (.int .i64 (z : Int)) ?hr ?_); (case hd => rfl); (case hw => kernel_rfl); (case hr => intro w; exact run_slen rfl (by kernel_rfl) KZ.out w); simp only [Act.put, List.setIfInBounds_toArray, List.set_cons_succ, List.set_cons_zero]))
          refine region_skipM wz 15 [(31, .string (strOf T0)), (32, .int .i64 (z : Int)), (33, .int .i64 (x : Int)), (34, .int .u8 (x : Int)), (35, .int .i64 (z : Int)), (36, .int .i64 (y : Int)), (37, .int .u8 (y : Int)), (39, .string (strOf [x, y])), (40, .string (strOf T1)), (41, .slice (some A) n c), (42, .int .i64 (i : Int)), (43, .pointer (some (A.add i))), (44, .string (strOf l)), (45, .string (strOf T2))] [(38, fun v w => BytesV v w [x, y])] rfl (by kernel_rfl) (by kernel_rfl) (by kernel_rfl) (by kernel_rfl) (by kernel_rfl) (by kernel_rfl) (by kernel_rfl) (by kernel_rfl) ?hst (Below.refl _ _) (fun hA => ⟨.inl (.inl (ow_val hA (wants_none rfl) 31 (.string (strOf T0)) (by kernel_rfl) rfl rfl rfl rfl (by kernel_rfl) (fun w => by kernel_rfl))), .inl (.inl (ow_val hA (wants_none rfl) 32 (.int .i64 (z : Int)) (by kernel_rfl) rfl rfl rfl rfl (by kernel_rfl) (fun w => by kernel_rfl))), .inl (.inl (ow_val hA (wants_none rfl) 33 (.int .i64 (x : Int)) (by kernel_rfl) rfl rfl rfl rfl (by kernel_rfl) (fun w => run_quo256 rfl (by kernel_rfl) KX.out hz62 w))), .inl (.inl (ow_val hA (wants_none rfl) 34 (.int .u8 (x : Int)) (by kernel_rfl) rfl rfl rfl rfl (by kernel_rfl) (fun w => run_c38 rfl (by kernel_rfl) hx8 w))), .inl (.inl (ow_val hA (wants_none rfl) 35 (.int .i64 (z : Int)) (by kernel_rfl) rfl rfl rfl rfl (by kernel_rfl) (fun w => by kernel_rfl))), .inl (.inl (ow_val hA (wants_none rfl) 36 (.int .i64 (y : Int)) (by kernel_rfl) rfl rfl rfl rfl (by kernel_rfl) (fun w => run_rem256 rfl (by kernel_rfl) KY.out w))), .inl (.inl (ow_val hA (wants_none rfl) 37 (.int .u8 (y : Int)) (by kernel_rfl) rfl rfl rfl rfl (by kernel_rfl) (fun w => run_c38 rfl (by kernel_rfl) hy8 w))), .inl (.inl (ow_two hA (wants_none rfl) 38 34 37 x y rfl rfl (by kernel_rfl) (by kernel_rfl) (by kernel_rfl) (by kernel_rfl) rfl rfl rfl rfl rfl rfl)), .inl (.inl (ow_pureD hA (wants_none rfl) 39 38 rfl _ (.string (strOf [x, y])) rfl rfl (by kernel_rfl) (by kernel_rfl) rfl rfl (fun a w1 h1 => run_str rfl rfl h1))), .inl (.inl (ow_val hA (wants_none rfl) 40 (.string (strOf T1)) (by kernel_rfl) rfl rfl rfl rfl (by kernel_rfl) (fun w => run_scat rfl (by kernel_rfl) (by kernel_rfl) B1 E1.out w))), .inl (.inl (ow_val hA (wants_none rfl) 41 (.slice (some A) n c) (by kernel_rfl) rfl rfl rfl rfl (by kernel_rfl) (fun w => by kernel_rfl))), .inl (.inl (ow_val hA (wants_none rfl) 42 (.int .i64 (i : Int)) (by kernel_rfl) rfl rfl rfl rfl (by kernel_rfl) (fun w => by kernel_rfl))), .inl (.inl (ow_val hA (wants_none rfl) 43 (.pointer (some (A.add i))) (by kernel_rfl) rfl rfl rfl rfl (by kernel_rfl) (fun w => run_idxS (c := c) rfl (by kernel_rfl) (by kernel_rfl) Tryd.underlying29 hin Tryd.sizeOf9 w))), .inl (.inl (ow_elem hA (wants_none rfl) 44 (.string (strOf l)) (by kernel_rfl) rfl rfl rfl rfl (by kernel_rfl) 9 ag_str (.tmp 43) rfl (A.add i) (by kernel_rfl) (fun w1 hb => KA.out w1 hb))), .inl (.inl (ow_val hA (wants_none rfl) 45 (.string (strOf T2)) (by kernel_rfl) rfl rfl rfl rfl (by kernel_rfl) (fun w => run_scat rfl (by kernel_rfl) (by kernel_rfl) B2 E2.out w))), trivial⟩) ?_
          case hst => intro q hq v w w' h1 h2; simp only [List.mem_singleton] at hq; subst hq; exact h1.under h2
          intro fv w5 hf hb5
          clear hf
          simp only [putR, List.foldl_cons, List.foldl_nil, List.map_cons, List.map_nil, Act.put, List.setIfInBounds_toArray, List.set_cons_succ, List.set_cons_zero]
          go_wp2_with fail
          go_roundg (gk - 1)
          case measure => omega
          case rel => exact ⟨i + 1, T2, by omega, by simp, rfl, KN, HW.trans (hb5.mono HW.size)⟩
end Go.Proofs.YtniogaimhkcedaaDoor.sh
/-
  The reference's Split.
-/
namespace Go.Proofs.YtniogaimhkcedaaDoor.sh
open Go Go.RowKit
set_option linter.unusedVariables false
set_option linter.unusedSimpArgs false

theorem spost_none {s : List Nat} {w w' : World} (h : splitL s = none) (hb : Below w.heap.size w w') : SPost s w (.returned (.tuple #[.int .u8 0, .slice none 0 0, .int .i64 4])) w' := by
  refine ⟨⟨.slice none 0 0, ?_, ?_⟩, hb⟩
  · unfold spK spE; rw [h]; rfl
  · unfold spL; rw [h]; exact vrow_nil _ _ _
theorem spost_some {s : List Nat} {k : Nat} {ll : List (List Nat)} {V : Value} {w w' : World} (h : splitL s = some (k, ll)) (hr : VRow w.heap.size 9 (strs ll) V w') (hb : Below w.heap.size w w') : SPost s w (.returned (.tuple #[.int .u8 (k : Int), V, .int .i64 0])) w' := by
  refine ⟨⟨V, ?_, ?_⟩, hb⟩
  · unfold spK spE; rw [h]; rfl
  · unfold spL; rw [h]; exact hr
set_option maxRecDepth 100000 in
set_option maxHeartbeats 1000000 in
theorem rSplit_short {s : List Nat} {w : World} (h : s.length < 3) :
    Calls Tryd.prog 41 #[.string (strOf s)] w fun e w' => SPost s w e w' := by
  have hN := split_short h
  obtain ⟨m, hm⟩ : ∃ m, m = s.length := ⟨_, rfl⟩
  have KM : Kept _ := ⟨hm⟩
  have h' : (m : Int) < 3 := by omega
  clear hm
  go_enter Tryd.func41, Tryd.ntmps41
  go_wp2_with (first | ((with_reducible refine wv_val (d := 12) ?hd ?hw (.int .i64 (m : Int)) ?hr ?_); (case hd => rfl); (case hw => kernel_rfl); (case hr => intro w; exact run_slen rfl (by kernel_rfl) KM.out w); simp only [Act.put, List.setIfInBounds_toArray, List.set_cons_succ, List.set_cons_zero]))
  refine bodyPost_ret (v := .tuple #[.int .u8 0, .slice none 0 0, .int .i64 4]) (by simp [results, Tryd.results41, go_sem]) rfl ?_
  exact spost_none hN (Below.refl _ _)
set_option maxRecDepth 100000 in
set_option maxHeartbeats 4000000 in
theorem rSplit_long {x k n : Nat} {r : List Nat} {w : World} (hs : Bytes (x :: k :: n :: r)) (hL : r.length ≤ 40000) :
    Calls Tryd.prog 41 #[.string (strOf (x :: k :: n :: r))] w fun e w' => SPost (x :: k :: n :: r) w e w' := by
  have hx8 : x < 256 := hs 0 x rfl
  have hk8 : k < 256 := hs 1 k rfl
  have hn8 : n < 256 := hs 2 n rfl
  have y3 : Bytes r := fun i z hz => hs (i + 3) z hz
  obtain ⟨s, hsE⟩ : ∃ s, s = x :: k :: n :: r := ⟨_, rfl⟩
  have ES : Kept _ := ⟨hsE⟩
  have YS0 : Kept (Bytes (x :: k :: n :: r)) := ⟨hs⟩
  have YS : Kept (Bytes s) := ⟨by rw [hsE]; exact hs⟩
  have YR3 : Kept _ := ⟨y3⟩
  have GN : Kept (s[2]? = some n) := ⟨by rw [hsE]; rfl⟩
  have GK : Kept (s[1]? = some k) := ⟨by rw [hsE]; rfl⟩
  rw [← hsE]
  obtain ⟨m0, hm0⟩ : ∃ m, m = s.length := ⟨_, rfl⟩
  have KM : Kept _ := ⟨hm0⟩
  have hm3 : Kept (m0 = r.length + 3) := ⟨by rw [hm0, hsE]; rfl⟩
  have hm3' : m0 ≤ 40003 := by rw [hm3.out]; omega
  have h3 : ¬ (m0 : Int) < 3 := by rw [hm3.out]; omega
  clear hs y3 hsE hm0
  go_enter Tryd.func41, Tryd.ntmps41
  go_wp2_with (first | ((with_reducible refine wv_val (d := 12) ?hd ?hw (.int .i64 (m0 : Int)) ?hr ?_); (case hd => rfl); (case hw => kernel_rfl); (case hr => intro w; exact run_slen rfl (by kernel_rfl) KM.out w); simp only [Act.put, List.setIfInBounds_toArray, List.set_cons_succ, List.set_cons_zero]))
  go_loopg [5, 6, 7] n (fun g s5 s6 s7 wr => ∃ (i t : Nat) (done : List (List Nat)) (rest : List Nat) (v : Value), i + g = n ∧ s7 = .int .i64 (i : Int) ∧ s6 = .int .i64 (t : Int) ∧ s5 = v ∧ Kept (done.length = i ∧ r = itemsL done ++ rest ∧ t = (itemsL done).length + 3) ∧ VRow w.heap.size 9 (strs done) v wr ∧ Below w.heap.size w wr)
  case atStart => exact ⟨0, 3, [], r, _, by omega, rfl, rfl, rfl, ⟨rfl, by simp [itemsL], rfl⟩, vrow_nil _ _ _, Below.refl _ _⟩
  case round =>
    rename World => wz
    obtain ⟨i, t, done, rest, v, hik, rfl, rfl, hv5, KD, HR, HW⟩ := hrel
    have hv6 := hv5.symm
    subst hv6
    have YR : Kept (Bytes rest) := ⟨fun j z hz => YR3.out (j + (itemsL done).length) z (by rw [KD.out.2.1, List.getElem?_append_right (by omega)]; simpa using hz)⟩
    have hRL : Kept ((itemsL done).length + rest.length = r.length) := ⟨by have := congrArg List.length KD.out.2.1; rw [List.length_append] at this; omega⟩
    have hdrop : Kept (∀ j, s[t + j]? = rest[j]?) := ⟨fun j => by
      rw [ES.out, KD.out.2.2]
      show (x :: k :: n :: r)[(itemsL done).length + 3 + j]? = _
      rw [show (itemsL done).length + 3 + j = (itemsL done).length + j + 3 by omega]
      show r[(itemsL done).length + j]? = _
      rw [KD.out.2.1, List.getElem?_append_right (by omega)]
      congr 1
      omega⟩
    have ht62 : t ≤ 40003 := by rw [KD.out.2.2]; have := hRL.out; omega
    by_cases hk0 : gk = 0
    case neg =>
      have hin : i < n := by omega
      have hin' : (i : Int) < (n : Int) := by omega
      rcases short_or (n := 0) rest with hS | ⟨a, b, q, hR, hab⟩
      case inl =>
        have hN : splitL s = none := by rw [ES.out]; exact split_stuck YS0.out KD.out.2.1 (by have := KD.out.1; omega) hS
        by_cases h2 : rest.length < 2
        case pos =>
          have h2' : (m0 : Int) < (t : Int) + 2 := by rw [hm3.out, KD.out.2.2]; have := hRL.out; omega
          go_wp2_with (first | ((with_reducible refine wv_val (d := 16) ?hd ?hw (.int .u8 (n : Int)) ?hr ?_); (case hd => rfl); (case hw => kernel_rfl); (case hr => intro w; exact run_sidx (i := 2) rfl (by kernel_rfl) rfl YS.out GN.out w); simp only [Act.put, List.setIfInBounds_toArray, List.set_cons_succ, List.set_cons_zero]) | ((with_reducible refine wv_val (d := 17) ?hd ?hw (.int .i64 (n : Int)) ?hr ?_); (case hd => rfl); (case hw => kernel_rfl); (case hr => intro w; exact run_conv83 rfl (by kernel_rfl) hn8 w); simp only [Act.put, List.setIfInBounds_toArray, List.set_cons_succ, List.set_cons_zero]) | ((with_reducible refine wv_val (d := 24) ?hd ?hw (.int .i64 (m0 : Int)) ?hr ?_); (case hd => rfl); (case hw => kernel_rfl); (case hr => intro w; exact run_slen rfl (by kernel_rfl) KM.out w); simp only [Act.put, List.setIfInBounds_toArray, List.set_cons_succ, List.set_cons_zero]))
          refine bodyPost_ret (v := .tuple #[.int .u8 0, .slice none 0 0, .int .i64 4]) (by simp [results, Tryd.results41, go_sem]) rfl ?_
          exact spost_none hN HW
        case neg =>
          have h2' : ¬ (m0 : Int) < (t : Int) + 2 := by rw [hm3.out, KD.out.2.2]; have := hRL.out; omega
          obtain ⟨a, b, q, hR, hab⟩ : ∃ a b q, rest = a :: b :: q ∧ q.length < 256 * a + b := by
            rcases hS with rfl | ⟨a, rfl⟩ | h
            · simp at h2
            · simp at h2
            · exact h
          have ha8 : a < 256 := YR.out 0 a (by rw [hR]; rfl)
          have hb8 : b < 256 := YR.out 1 b (by rw [hR]; rfl)
          have G0 : Kept (s[t]? = some a) := ⟨by have := hdrop.out 0; rw [Nat.add_zero] at this; rw [this, hR]; rfl⟩
          obtain ⟨t1, ht1⟩ : ∃ t1, t1 = t + 1 := ⟨_, rfl⟩
          have G1 : Kept (s[t1]? = some b) := ⟨by rw [ht1, hdrop.out 1, hR]; rfl⟩
          obtain ⟨a1, ha1⟩ : ∃ a1, a1 = 256 * a := ⟨_, rfl⟩
          obtain ⟨m, hm⟩ : ∃ m, m = a1 + b := ⟨_, rfl⟩
          have KA1 : Kept _ := ⟨ha1⟩
          have KT1 : Kept _ := ⟨ht1⟩
          have KMM : Kept _ := ⟨hm⟩
          have ba : a1 < 4611686018427387904 := by omega
          have bt1 : t1 < 4611686018427387904 := by omega
          have bm : m < 4611686018427387904 := by omega
          have h4 : (m0 : Int) < (t : Int) + 2 + (m : Int) := by
            have e1 := hRL.out
            rw [hR] at e1
            simp at e1
            have e2 := hm3.out
            have e3 := KD.out.2.2
            omega
          clear ha1 ht1 hm hR h2 hab hS
          go_wp2_with (first | ((with_reducible refine wv_val (d := 16) ?hd ?hw (.int .u8 (n : Int)) ?hr ?_); (case hd => rfl); (case hw => kernel_rfl); (case hr => intro w; exact run_sidx (i := 2) rfl (by kernel_rfl) rfl YS.out GN.out w); simp only [Act.put, List.setIfInBounds_toArray, List.set_cons_succ, List.set_cons_zero]) | ((with_reducible refine wv_val (d := 17) ?hd ?hw (.int .i64 (n : Int)) ?hr ?_); (case hd => rfl); (case hw => kernel_rfl); (case hr => intro w; exact run_conv83 rfl (by kernel_rfl) hn8 w); simp only [Act.put, List.setIfInBounds_toArray, List.set_cons_succ, List.set_cons_zero]) | ((with_reducible refine wv_val (d := 24) ?hd ?hw (.int .i64 (m0 : Int)) ?hr ?_); (case hd => rfl); (case hw => kernel_rfl); (case hr => intro w; exact run_slen rfl (by kernel_rfl) KM.out w); simp only [Act.put, List.setIfInBounds_toArray, List.set_cons_succ, List.set_cons_zero]))
          refine region_skipM wz 11 [(26, .string (strOf s)), (27, .int .i64 (t : Int)), (28, .int .u8 (a : Int)), (29, .int .i64 (a : Int)), (30, .int .i64 (a1 : Int)), (31, .string (strOf s)), (32, .int .i64 (t : Int)), (33, .int .i64 (t1 : Int)), (34, .int .u8 (b : Int)), (35, .int .i64 (b : Int)), (36, .int .i64 (m : Int))] [] rfl (by kernel_rfl) (by kernel_rfl) (by kernel_rfl) (by kernel_rfl) (by kernel_rfl) (by kernel_rfl) (by kernel_rfl) (by kernel_rfl) ?hst (Below.refl _ _) (fun hA => ⟨.inl (.inl (ow_val hA (wants_none rfl) 26 (.string (strOf s)) (by kernel_rfl) rfl rfl rfl rfl (by kernel_rfl) (fun w => by kernel_rfl))), .inl (.inl (ow_val hA (wants_none rfl) 27 (.int .i64 (t : Int)) (by kernel_rfl) rfl rfl rfl rfl (by kernel_rfl) (fun w => by kernel_rfl))), .inl (.inl (ow_val hA (wants_none rfl) 28 (.int .u8 (a : Int)) (by kernel_rfl) rfl rfl rfl rfl (by kernel_rfl) (fun w => run_sidx (i := t) rfl (by kernel_rfl) (by kernel_rfl) YS.out G0.out w))), .inl (.inl (ow_val hA (wants_none rfl) 29 (.int .i64 (a : Int)) (by kernel_rfl) rfl rfl rfl rfl (by kernel_rfl) (fun w => run_conv83 rfl (by kernel_rfl) ha8 w))), .inl (.inl (ow_val hA (wants_none rfl) 30 (.int .i64 (a1 : Int)) (by kernel_rfl) rfl rfl rfl rfl (by kernel_rfl) (fun w => run_mulC 256 rfl (by kernel_rfl) KA1.out ba w))), .inl (.inl (ow_val hA (wants_none rfl) 31 (.string (strOf s)) (by kernel_rfl) rfl rfl rfl rfl (by kernel_rfl) (fun w => by kernel_rfl))), .inl (.inl (ow_val hA (wants_none rfl) 32 (.int .i64 (t : Int)) (by kernel_rfl) rfl rfl rfl rfl (by kernel_rfl) (fun w => by kernel_rfl))), .inl (.inl (ow_val hA (wants_none rfl) 33 (.int .i64 (t1 : Int)) (by kernel_rfl) rfl rfl rfl rfl (by kernel_rfl) (fun w => run_addZ 1 rfl (by kernel_rfl) KT1.out bt1 w))), .inl (.inl (ow_val hA (wants_none rfl) 34 (.int .u8 (b : Int)) (by kernel_rfl) rfl rfl rfl rfl (by kernel_rfl) (fun w => run_sidx (i := t1) rfl (by kernel_rfl) (by kernel_rfl) YS.out G1.out w))), .inl (.inl (ow_val hA (wants_none rfl) 35 (.int .i64 (b : Int)) (by kernel_rfl) rfl rfl rfl rfl (by kernel_rfl) (fun w => run_conv83 rfl (by kernel_rfl) hb8 w))), .inl (.inl (ow_val hA (wants_none rfl) 36 (.int .i64 (m : Int)) (by kernel_rfl) rfl rfl rfl rfl (by kernel_rfl) (fun w => run_nadd rfl (by kernel_rfl) (by kernel_rfl) KMM.out bm w))), trivial⟩) ?_
          case hst => intro q hq; cases hq
          intro fv w5 hf hb5
          clear hf
          simp only [putR, List.foldl_cons, List.foldl_nil, List.map_cons, List.map_nil, Act.put, List.setIfInBounds_toArray, List.set_cons_succ, List.set_cons_zero]
          go_wp2_with (first | ((with_reducible refine wv_val (d := 42) ?hd ?hw (.int .i64 (m0 : Int)) ?hr ?_); (case hd => rfl); (case hw => kernel_rfl); (case hr => intro w; exact run_slen rfl (by kernel_rfl) KM.out w); simp only [Act.put, List.setIfInBounds_toArray, List.set_cons_succ, List.set_cons_zero]))
          refine bodyPost_ret (v := .tuple #[.int .u8 0, .slice none 0 0, .int .i64 4]) (by simp [results, Tryd.results41, go_sem]) rfl ?_
          exact spost_none hN (HW.trans (hb5.mono HW.size))
      case inr =>
        have ha8 : a < 256 := YR.out 0 a (by rw [hR]; rfl)
        have hb8 : b < 256 := YR.out 1 b (by rw [hR]; rfl)
        have e1 := hRL.out
        rw [hR] at e1
        simp at e1
        have h2' : ¬ (m0 : Int) < (t : Int) + 2 := by rw [hm3.out, KD.out.2.2]; omega
        have G0 : Kept (s[t]? = some a) := ⟨by have := hdrop.out 0; rw [Nat.add_zero] at this; rw [this, hR]; rfl⟩
        obtain ⟨t1, ht1⟩ : ∃ t1, t1 = t + 1 := ⟨_, rfl⟩
        have G1 : Kept (s[t1]? = some b) := ⟨by rw [ht1, hdrop.out 1, hR]; rfl⟩
        obtain ⟨a1, ha1⟩ : ∃ a1, a1 = 256 * a := ⟨_, rfl⟩
        obtain ⟨m, hm⟩ : ∃ m, m = a1 + b := ⟨_, rfl⟩
        obtain ⟨t2, ht2⟩ : ∃ t2, t2 = t + 2 := ⟨_, rfl⟩
        obtain ⟨te, hte⟩ : ∃ te, te = t2 + m := ⟨_, rfl⟩
        obtain ⟨T, hT⟩ : ∃ T, T = q.take m := ⟨_, rfl⟩
        have KA1 : Kept _ := ⟨ha1⟩
        have KT1 : Kept _ := ⟨ht1⟩
        have KMM : Kept _ := ⟨hm⟩
        have KT2 : Kept _ := ⟨ht2⟩
        have KTE : Kept _ := ⟨hte⟩
        have ba : a1 < 4611686018427387904 := by omega
        have bt1 : t1 < 4611686018427387904 := by omega
        have bt2 : t2 < 4611686018427387904 := by omega
        have bm : m < 4611686018427387904 := by omega
        have bte : te < 4611686018427387904 := by omega
        have e2 := hm3.out
        have e3 := KD.out.2.2
        have hmq : m ≤ q.length := by omega
        have h4 : ¬ (m0 : Int) < (te : Int) := by omega
        have hte0 : te ≤ s.length := by rw [← KM.out]; omega
        have ht2te : t2 ≤ te := by omega
        have hdr : s.drop t = rest := by
          rw [ES.out, e3, show (itemsL done).length + 3 = ((itemsL done).length) + 3 from rfl]
          show r.drop (itemsL done).length = rest
          rw [KD.out.2.1]
          simp
        have CT : Kept (T = (s.take te).drop t2) := ⟨by
          rw [List.drop_take, show te - t2 = m by omega, ht2, ← List.drop_drop, hdr, hR, hT]
          rfl⟩
        have hRS : r = itemsL (done ++ [T]) ++ q.drop m := by
          have g0 : rest[0]? = some a := by rw [hR]; rfl
          have g1 : rest[1]? = some b := by rw [hR]; rfl
          have := cut_step (done := done) (rest := rest) (n := m) g0 g1 hb8 (by omega) (by rw [hR]; simp; omega)
          rw [KD.out.2.1, this, hT, hR]
          simp
        have hTl : T.length = m := by rw [hT, List.length_take]; omega
        have KN : Kept ((done ++ [T]).length = i + 1 ∧ r = itemsL (done ++ [T]) ++ q.drop m ∧ te = (itemsL (done ++ [T])).length + 3) := ⟨by
          refine ⟨by rw [List.length_append, KD.out.1]; rfl, hRS, ?_⟩
          rw [itemsL_snoc, List.length_append, itemL_len, hTl]
          omega⟩
        have one_T : Kept (∀ x ∈ [Value.string (strOf T)], x.oneCell' = true) := ⟨fun x hx => by simp at hx; subst hx; rfl⟩
        have len_T : Kept ((strs done).length + [Value.string (strOf T)].length ≤ 1099511627776) := ⟨by rw [strs_len, KD.out.1]; simp; omega⟩
        have lit : Kept (∀ w5 : World, ValsV (.slice (some ⟨w5.heap.size, 0, none⟩) 1 1) (w5.alloc (.cells #[.string (strOf T)] 9)) [.string (strOf T)]) := ⟨fun w5 => vrow_vals (vrow_lit (base := 0) w5 #[.string (strOf T)] 1 rfl (Nat.zero_le _) (by decide))⟩
        clear ha1 ht1 hm ht2 hte hT hR hab e1 e2 e3 hmq hdr hRS hTl
        go_wp2_with (first | ((with_reducible refine wv_val (d := 16) ?hd ?hw (.int .u8 (n : Int)) ?hr ?_); (case hd => rfl); (case hw => kernel_rfl); (case hr => intro w; exact run_sidx (i := 2) rfl (by kernel_rfl) rfl YS.out GN.out w); simp only [Act.put, List.setIfInBounds_toArray, List.set_cons_succ, List.set_cons_zero]) | ((with_reducible refine wv_val (d := 17) ?hd ?hw (.int .i64 (n : Int)) ?hr ?_); (case hd => rfl); (case hw => kernel_rfl); (case hr => intro w; exact run_conv83 rfl (by kernel_rfl) hn8 w); simp only [Act.put, List.setIfInBounds_toArray, List.set_cons_succ, List.set_cons_zero]) | ((with_reducible refine wv_val (d := 24) ?hd ?hw (.int .i64 (m0 : Int)) ?hr ?_); (case hd => rfl); (case hw => kernel_rfl); (case hr => intro w; exact run_slen rfl (by kernel_rfl) KM.out w); simp only [Act.put, List.setIfInBounds_toArray, List.set_cons_succ, List.set_cons_zero]))
        refine region_skipM wz 11 [(26, .string (strOf s)), (27, .int .i64 (t : Int)), (28, .int .u8 (a : Int)), (29, .int .i64 (a : Int)), (30, .int .i64 (a1 : Int)), (31, .string (strOf s)), (32, .int .i64 (t : Int)), (33, .int .i64 (t1 : Int)), (34, .int .u8 (b : Int)), (35, .int .i64 (b : Int)), (36, .int .i64 (m : Int))] [] rfl (by kernel_rfl) (by kernel_rfl) (by kernel_rfl) (by kernel_rfl) (by kernel_rfl) (by kernel_rfl) (by kernel_rfl) (by kernel_rfl) ?hst (Below.refl _ _) (fun hA => ⟨.inl (.inl (ow_val hA (wants_none rfl) 26 (.string (strOf s)) (by kernel_rfl) rfl rfl rfl rfl (by kernel_rfl) (fun w => by kernel_rfl))), .inl (.inl (ow_val hA (wants_none rfl) 27 (.int .i64 (t : Int)) (by kernel_rfl) rfl rfl rfl rfl (by kernel_rfl) (fun w => by kernel_rfl))), .inl (.inl (ow_val hA (wants_none rfl) 28 (.int .u8 (a : Int)) (by kernel_rfl) rfl rfl rfl rfl (by kernel_rfl) (fun w => run_sidx (i := t) rfl (by kernel_rfl) (by kernel_rfl) YS.out G0.out w))), .inl (.inl (ow_val hA (wants_none rfl) 29 (.int .i64 (a : Int)) (by kernel_rfl) rfl rfl rfl rfl (by kernel_rfl) (fun w => run_conv83 rfl (by kernel_rfl) ha8 w))), .inl (.inl (ow_val hA (wants_none rfl) 30 (.int .i64 (a1 : Int)) (by kernel_rfl) rfl rfl rfl rfl (by kernel_rfl) (fun w => run_mulC 256 rfl (by kernel_rfl) KA1.out ba w))), .inl (.inl (ow_val hA (wants_none rfl) 31 (.string (strOf s)) (by kernel_rfl) rfl rfl rfl rfl (by kernel_rfl) (fun w => by kernel_rfl))), .inl (.inl (ow_val hA (wants_none rfl) 32 (.int .i64 (t : Int)) (by kernel_rfl) rfl rfl rfl rfl (by kernel_rfl) (fun w => by kernel_rfl))), .inl (.inl (ow_val hA (wants_none rfl) 33 (.int .i64 (t1 : Int)) (by kernel_rfl) rfl rfl rfl rfl (by kernel_rfl) (fun w => run_addZ 1 rfl (by kernel_rfl) KT1.out bt1 w))), .inl (.inl (ow_val hA (wants_none rfl) 34 (.int .u8 (b : Int)) (by kernel_rfl) rfl rfl rfl rfl (by kernel_rfl) (fun w => run_sidx (i := t1) rfl (by kernel_rfl) (by kernel_rfl) YS.out G1.out w))), .inl (.inl (ow_val hA (wants_none rfl) 35 (.int .i64 (b : Int)) (by kernel_rfl) rfl rfl rfl rfl (by kernel_rfl) (fun w => run_conv83 rfl (by kernel_rfl) hb8 w))), .inl (.inl (ow_val hA (wants_none rfl) 36 (.int .i64 (m : Int)) (by kernel_rfl) rfl rfl rfl rfl (by kernel_rfl) (fun w => run_nadd rfl (by kernel_rfl) (by kernel_rfl) KMM.out bm w))), trivial⟩) ?_
        case hst => intro q hq; cases hq
        intro fv w5 hf hb5
        clear hf
        simp only [putR, List.foldl_cons, List.foldl_nil, List.map_cons, List.map_nil, Act.put, List.setIfInBounds_toArray, List.set_cons_succ, List.set_cons_zero]
        have HR5 := HR.under hb5
        have HW5 := HW.trans (hb5.mono HW.size)
        go_wp2_with (first | ((with_reducible refine wv_val (d := 38) ?hd ?hw (.int .i64 (t2 : Int)) ?hr ?_); (case hd => rfl); (case hw => kernel_rfl); (case hr => intro w; exact run_addZ 2 rfl (by kernel_rfl) KT2.out bt2 w); simp only [Act.put, List.setIfInBounds_toArray, List.set_cons_succ, List.set_cons_zero]) | ((with_reducible refine wv_val (d := 40) ?hd ?hw (.int .i64 (te : Int)) ?hr ?_); (case hd => rfl); (case hw => kernel_rfl); (case hr => intro w; exact run_nadd rfl (by kernel_rfl) (by kernel_rfl) KTE.out bte w); simp only [Act.put, List.setIfInBounds_toArray, List.set_cons_succ, List.set_cons_zero]) | ((with_reducible refine wv_val (d := 42) ?hd ?hw (.int .i64 (m0 : Int)) ?hr ?_); (case hd => rfl); (case hw => kernel_rfl); (case hr => intro w; exact run_slen rfl (by kernel_rfl) KM.out w); simp only [Act.put, List.setIfInBounds_toArray, List.set_cons_succ, List.set_cons_zero]) | ((with_reducible refine wv_val (d := 47) ?hd ?hw (.int .i64 (t2 : Int)) ?hr ?_); (case hd => rfl); (case hw => kernel_rfl); (case hr => intro w; exact run_addZ 2 rfl (by kernel_rfl) KT2.out bt2 w); simp only [Act.put, List.setIfInBounds_toArray, List.set_cons_succ, List.set_cons_zero]) | ((with_reducible refine wv_val (d := 49) ?hd ?hw (.int .i64 (t2 : Int)) ?hr ?_); (case hd => rfl); (case hw => kernel_rfl); (case hr => intro w; exact run_addZ 2 rfl (by kernel_rfl) KT2.out bt2 w); simp only [Act.put, List.setIfInBounds_toArray, List.set_cons_succ, List.set_cons_zero]) | ((with_reducible refine wv_val (d := 51) ?hd ?hw (.int .i64 (te : Int)) ?hr ?_); (case hd => rfl); (case hw => kernel_rfl); (case hr => intro w; exact run_nadd rfl (by kernel_rfl) (by kernel_rfl) KTE.out bte w); simp only [Act.put, List.setIfInBounds_toArray, List.set_cons_succ, List.set_cons_zero]) | ((with_reducible refine wv_val (d := 52) ?hd ?hw (.string (strOf T)) ?hr ?_); (case hd => rfl); (case hw => kernel_rfl); (case hr => intro w; exact run_scut rfl (by kernel_rfl) (by kernel_rfl) (by kernel_rfl) ht2te hte0 CT.out w); simp only [Act.put, List.setIfInBounds_toArray, List.set_cons_succ, List.set_cons_zero]) | (refine wl_appV rfl (.tmp 44) (.tmp 53) 29 9 (.string .empty) 16 rfl Tryd.underlying29 inf_str rfl (by decide) w.heap.size (strs done) [.string (strOf T)] _ _ rfl rfl (HR5.alloc _) (lit.out w5) one_T.out len_T.out (by have := HW5.size; simp; omega) ?_))
        intro v' w6 r6 g6 _
        have HW6 := HW5.trans (grown_mono ((gb_under ((Below.refl _ _).alloc (Nat.le_refl _) (.cells #[.string (strOf T)] 9)) _ |> fun h => gb_trans h g6)) HW5.size (fun b hb => (HR5.range b hb).1))
        have HR6 : VRow w.heap.size 9 (strs (done ++ [T])) v' w6 := by rw [strs_append]; exact r6
        clear HR HR5 r6 g6 lit one_T len_T CT
        go_wp2_with (first | ((with_reducible refine wv_val (d := 56) ?hd ?hw (.int .i64 (t2 : Int)) ?hr ?_); (case hd => rfl); (case hw => kernel_rfl); (case hr => intro w; exact run_addZ 2 rfl (by kernel_rfl) KT2.out bt2 w); simp only [Act.put, List.setIfInBounds_toArray, List.set_cons_succ, List.set_cons_zero]) | ((with_reducible refine wv_val (d := 58) ?hd ?hw (.int .i64 (te : Int)) ?hr ?_); (case hd => rfl); (case hw => kernel_rfl); (case hr => intro w; exact run_nadd rfl (by kernel_rfl) (by kernel_rfl) KTE.out bte w); simp only [Act.put, List.setIfInBounds_toArray, List.set_cons_succ, List.set_cons_zero]))
        go_roundg (gk - 1)
        case measure => omega
        case rel => exact ⟨i + 1, te, done ++ [T], q.drop m, v', by omega, by simp, rfl, rfl, KN, HR6, HW6⟩
    case pos =>
      obtain rfl : n = i := by omega
      have hSE := split_end YS0.out KD.out.2.1 KD.out.1
      rw [← ES.out] at hSE
      have hlen : ∀ l ∈ done, Bytes l ∧ l.length ≤ maxLen := fun l hl => by
        refine ⟨?_, ?_⟩
        · have hy : Bytes (itemsL done) := fun j z hz => YR3.out j z (by rw [KD.out.2.1, List.getElem?_append_left (List.getElem?_eq_some_iff.1 hz).1]; exact hz)
          exact (cutL_some (cutL_items done) hy).2.2 l hl
        · have := item_in hl
          have := hRL.out
          unfold maxLen
          omega
      have CJ := rJoinD (w := wz) hk8 (vrow_vals HR) hlen
      obtain ⟨J, hJ⟩ : ∃ J, J = joinS k done := ⟨_, rfl⟩
      obtain ⟨E, hE⟩ : ∃ J, J = joinE done := ⟨_, rfl⟩
      rw [← hJ, ← hE] at CJ
      have KH : Kept _ := ⟨HR⟩
      by_cases hF : Fits done
      case neg =>
        have hN : splitL s = none := by rw [hSE, if_neg (fun h => hF h.2.2)]
        have hE3 : E = 3 := by rw [hE, joinE_not hF]
        subst hE3
        clear hE hJ hSE hF HR
        go_wp2_with (first | ((with_reducible refine wv_val (d := 16) ?hd ?hw (.int .u8 (n : Int)) ?hr ?_); (case hd => rfl); (case hw => kernel_rfl); (case hr => intro w; exact run_sidx (i := 2) rfl (by kernel_rfl) rfl YS.out GN.out w); simp only [Act.put, List.setIfInBounds_toArray, List.set_cons_succ, List.set_cons_zero]) | ((with_reducible refine wv_val (d := 17) ?hd ?hw (.int .i64 (n : Int)) ?hr ?_); (case hd => rfl); (case hw => kernel_rfl); (case hr => intro w; exact run_conv83 rfl (by kernel_rfl) hn8 w); simp only [Act.put, List.setIfInBounds_toArray, List.set_cons_succ, List.set_cons_zero]) | ((with_reducible refine wv_val (d := 61) ?hd ?hw (.int .u8 (k : Int)) ?hr ?_); (case hd => rfl); (case hw => kernel_rfl); (case hr => intro w; exact run_sidx (i := 1) rfl (by kernel_rfl) rfl YS.out GK.out w); simp only [Act.put, List.setIfInBounds_toArray, List.set_cons_succ, List.set_cons_zero]))
        refine CJ.mono ?_
        rintro e w5 ⟨rfl, hb5⟩
        go_wp2_with fail
        refine bodyPost_ret (v := .tuple #[.int .u8 0, .slice none 0 0, .int .i64 4]) (by simp [results, Tryd.results41, go_sem]) rfl ?_
        exact spost_none hN (HW.trans (hb5.mono HW.size))
      case pos =>
        have hE0 : E = 0 := by rw [hE, joinE_fits hF]
        subst hE0
        have hJ2 : J = joinL k done := by rw [hJ, joinS_fits hF]
        have YJ : Kept (Bytes J) := ⟨by rw [hJ2]; exact joinL_bytes hk8 (fun l hl => (hlen l hl).1) hF⟩
        have hiff : J = s ↔ (x = 1 ∧ rest = []) := by
          rw [hJ2, ES.out]
          unfold joinL
          rw [KD.out.1]
          constructor
          · intro h
            simp only [List.cons.injEq, true_and] at h
            refine ⟨h.1.symm, ?_⟩
            have h5 := congrArg List.length h.2
            have h6 := hRL.out
            rw [h.2] at h6
            exact List.eq_nil_of_length_eq_zero (by omega)
          · rintro ⟨h1, h2⟩
            rw [h1, KD.out.2.1, h2, List.append_nil]
        by_cases hJs : J = s
        case neg =>
          have hN : splitL s = none := by rw [hSE, if_neg (fun h => hJs (hiff.2 ⟨h.1, h.2.1⟩))]
          have K3 : Kept (true = !decide (J = s)) := ⟨by rw [decide_eq_false hJs]; rfl⟩
          clear hE hJ hSE hF HR hJ2 hiff hJs
          go_wp2_with (first | ((with_reducible refine wv_val (d := 16) ?hd ?hw (.int .u8 (n : Int)) ?hr ?_); (case hd => rfl); (case hw => kernel_rfl); (case hr => intro w; exact run_sidx (i := 2) rfl (by kernel_rfl) rfl YS.out GN.out w); simp only [Act.put, List.setIfInBounds_toArray, List.set_cons_succ, List.set_cons_zero]) | ((with_reducible refine wv_val (d := 17) ?hd ?hw (.int .i64 (n : Int)) ?hr ?_); (case hd => rfl); (case hw => kernel_rfl); (case hr => intro w; exact run_conv83 rfl (by kernel_rfl) hn8 w); simp only [Act.put, List.setIfInBounds_toArray, List.set_cons_succ, List.set_cons_zero]) | ((with_reducible refine wv_val (d := 61) ?hd ?hw (.int .u8 (k : Int)) ?hr ?_); (case hd => rfl); (case hw => kernel_rfl); (case hr => intro w; exact run_sidx (i := 1) rfl (by kernel_rfl) rfl YS.out GK.out w); simp only [Act.put, List.setIfInBounds_toArray, List.set_cons_succ, List.set_cons_zero]))
          refine CJ.mono ?_
          rintro e w5 ⟨rfl, hb5⟩
          go_wp2_with (first | ((with_reducible refine wv_val (d := 71) ?hd ?hw (.bool true) ?hr ?_); (case hd => rfl); (case hw => kernel_rfl); (case hr => intro w; exact run_sneq rfl (by kernel_rfl) (by kernel_rfl) YJ.out YS.out K3.out w); simp only [Act.put, List.setIfInBounds_toArray, List.set_cons_succ, List.set_cons_zero]))
          refine bodyPost_ret (v := .tuple #[.int .u8 0, .slice none 0 0, .int .i64 4]) (by simp [results, Tryd.results41, go_sem]) rfl ?_
          exact spost_none hN (HW.trans (hb5.mono HW.size))
        case pos =>
          have hN : splitL s = some (k, done) := by rw [hSE, if_pos ⟨(hiff.1 hJs).1, (hiff.1 hJs).2, hF⟩]
          have KNN : Kept _ := ⟨hN⟩
          have K3 : Kept (false = !decide (J = s)) := ⟨by rw [decide_eq_true hJs]; rfl⟩
          clear hE hJ hSE hF HR hJ2 hiff hJs hN
          go_wp2_with (first | ((with_reducible refine wv_val (d := 16) ?hd ?hw (.int .u8 (n : Int)) ?hr ?_); (case hd => rfl); (case hw => kernel_rfl); (case hr => intro w; exact run_sidx (i := 2) rfl (by kernel_rfl) rfl YS.out GN.out w); simp only [Act.put, List.setIfInBounds_toArray, List.set_cons_succ, List.set_cons_zero]) | ((with_reducible refine wv_val (d := 17) ?hd ?hw (.int .i64 (n : Int)) ?hr ?_); (case hd => rfl); (case hw => kernel_rfl); (case hr => intro w; exact run_conv83 rfl (by kernel_rfl) hn8 w); simp only [Act.put, List.setIfInBounds_toArray, List.set_cons_succ, List.set_cons_zero]) | ((with_reducible refine wv_val (d := 61) ?hd ?hw (.int .u8 (k : Int)) ?hr ?_); (case hd => rfl); (case hw => kernel_rfl); (case hr => intro w; exact run_sidx (i := 1) rfl (by kernel_rfl) rfl YS.out GK.out w); simp only [Act.put, List.setIfInBounds_toArray, List.set_cons_succ, List.set_cons_zero]))
          refine CJ.mono ?_
          rintro e w5 ⟨rfl, hb5⟩
          go_wp2_with (first | ((with_reducible refine wv_val (d := 71) ?hd ?hw (.bool false) ?hr ?_); (case hd => rfl); (case hw => kernel_rfl); (case hr => intro w; exact run_sneq rfl (by kernel_rfl) (by kernel_rfl) YJ.out YS.out K3.out w); simp only [Act.put, List.setIfInBounds_toArray, List.set_cons_succ, List.set_cons_zero]) | ((with_reducible refine wv_val (d := 74) ?hd ?hw (.int .u8 (k : Int)) ?hr ?_); (case hd => rfl); (case hw => kernel_rfl); (case hr => intro w; exact run_sidx (i := 1) rfl (by kernel_rfl) rfl YS.out GK.out w); simp only [Act.put, List.setIfInBounds_toArray, List.set_cons_succ, List.set_cons_zero]))
          refine bodyPost_ret (v := .tuple #[.int .u8 (k : Int), v, .int .i64 0]) (by simp [results, Tryd.results41, go_sem]) rfl ?_
          exact spost_some KNN.out (KH.out.under hb5) (HW.trans (hb5.mono HW.size))
theorem rSplitD {s : List Nat} {w : World} (hs : Bytes s) (hL : s.length ≤ 40000) :
    Calls Tryd.prog 41 #[.string (strOf s)] w fun e w' => SPost s w e w' := by
  by_cases h : s.length < 3
  · exact rSplit_short h
  · obtain ⟨x, k, n, r, rfl⟩ := three_of h
    exact rSplit_long hs (by simp at hL; omega)
end Go.Proofs.YtniogaimhkcedaaDoor.sh
/-
  The statements' alive: answers that the document fixes.
-/
namespace Go.Proofs.YtniogaimhkcedaaDoor.sh
open Go Go.RowKit
set_option linter.unusedVariables false
set_option linter.unusedSimpArgs false

def s8 : List Nat := [1, 7, 2, 0, 1, 97, 0, 0]
end Go.Proofs.YtniogaimhkcedaaDoor.sh
/-
  What the statements of layer 8 take and compare; CodecKinds.
-/
namespace Go.Proofs.YtniogaimhkcedaaDoor.sh
open Go Go.RowKit
set_option linter.unusedVariables false
set_option linter.unusedSimpArgs false

set_option maxRecDepth 100000 in
theorem open_strV {H : Type} {enc : TypeId × Value → H} {W : World} {r : Reach} {b0 base : Nat} {sp : Nat → Bool} {held : Bool} {v : Value} {d : DataW H} {p : List MemPlace}
    (hv : Value.okWide Tryd.prog W r b0 9 v) (h : DataW.Trod enc Tryd.prog W base sp held 9 v d p) : ∃ l : List Nat, v = .string (strOf l) ∧ Bytes l ∧ l.length ≤ maxLen := by
  obtain ⟨s, rfl⟩ := WideShapes.okWide_string Tryd.underlying9 hv
  exact open_str Tryd.underlying9 rfl h
theorem run_eqII {o : Oper} {a : Act} {x y : Operand} {m n : Int} {b : Bool} (ho : o.op = .binOp .eql 3 x y 3) (hx : a.eval x = .int .i64 m) (hy : a.eval y = .int .i64 n) (hb : b = decide (m = n)) (w : World) : (execOp a.eval o).run Tryd.prog w = .ok (.value (.bool b)) w := by
  unfold execOp
  simp only [ho, hx, hy]
  rw [hb]
  by_cases h : m = n
  · subst h; simp [go_sem]
  · simp [go_sem, h]
theorem join_lenB {k : Nat} {ll : List (List Nat)} (hF : Fits ll) : (joinL k ll).length ≤ maxLen := by
  have := hF.2.2
  rw [joinL_len]
  unfold maxLen
  omega
end Go.Proofs.YtniogaimhkcedaaDoor.sh
/-
  Terms as lists: names, what a table has, found, put, put together by two.
-/
namespace Go.Proofs.YtniogaimhkcedaaDoor.sh
open Go Go.RowKit
set_option linter.unusedVariables false
set_option linter.unusedSimpArgs false

/-- A number's eight bytes, the highest first. -/
def bigL : Nat → Nat → List Nat
  | _, 0 => []
  | n, k + 1 => bigL (n / 256) k ++ [n % 256]
theorem bigL_len : ∀ (k n : Nat), (bigL n k).length = k
  | 0, _ => rfl
  | k + 1, n => by unfold bigL; rw [List.length_append, bigL_len k]; rfl
theorem bigL_bytes : ∀ (k n : Nat), Bytes (bigL n k)
  | 0, _ => nil_bytes
  | k + 1, n => by unfold bigL; exact (bigL_bytes k _).append (bytes_of_all (fun x hx => by simp at hx; omega))
theorem readT_bigL : ∀ (k n : Nat), n < 256 ^ k → readT (bigL n k) = n
  | 0, n, h => by simp at h; subst h; rfl
  | k + 1, n, h => by
    unfold bigL
    rw [readT_snoc, readT_bigL k (n / 256) (by rw [Nat.pow_succ] at h; omega)]
    omega
/-- The n-th name. -/
def termN (n : Nat) : List Nat := [116, 101, 114, 109] ++ List.replicate 20 0 ++ bigL n 8
theorem termN_len (n : Nat) : (termN n).length = 32 := by unfold termN; rw [List.length_append, bigL_len]; rfl
theorem termN_bytes (n : Nat) : Bytes (termN n) := by
  unfold termN
  exact (bytes_of_all (fun x hx => by
    rcases List.mem_append.1 hx with hx | hx
    · simp at hx; omega
    · have := List.eq_of_mem_replicate hx; omega)).append (bigL_bytes 8 n)
theorem termN_inj {n m : Nat} (hn : n < 18446744073709551616) (hm : m < 18446744073709551616) (h : termN n = termN m) : n = m := by
  have h1 := List.append_cancel_left h
  have h2 := congrArg readT h1
  rwa [readT_bigL 8 n hn, readT_bigL 8 m hm] at h2
/-- A term: its kind, its parts. -/
abbrev TermL := Nat × List (List Nat)
/-- The number of a name among so many; 0: it is none. -/
def findN : Nat → List Nat → Nat
  | 0, _ => 0
  | n + 1, s => if termN (n + 1) = s then n + 1 else findN n s
theorem findN_le : ∀ (n : Nat) (s : List Nat), findN n s ≤ n
  | 0, _ => Nat.le_refl _
  | n + 1, s => by
    unfold findN
    split
    · exact Nat.le_refl _
    · have := findN_le n s; omega
theorem findN_name : ∀ (n : Nat) (s : List Nat), findN n s ≠ 0 → termN (findN n s) = s
  | 0, _, h => absurd rfl h
  | n + 1, s, h => by
    unfold findN at h ⊢
    split
    · next h2 => exact h2
    · next h2 => rw [if_neg h2] at h; exact findN_name n s h
theorem findN_at : ∀ (n i : Nat), n < 18446744073709551616 → 0 < i → i ≤ n → findN n (termN i) = i
  | 0, i, _, h0, h1 => by omega
  | n + 1, i, hn, h0, h1 => by
    unfold findN
    by_cases h : i = n + 1
    · subst h; rw [if_pos rfl]
    · rw [if_neg (fun h2 => h (termN_inj hn (by omega) h2).symm), findN_at n i (by omega) h0 (by omega)]
theorem findN_none {n : Nat} {s : List Nat} (h : ∀ i, 0 < i → i ≤ n → termN i ≠ s) : findN n s = 0 := by
  rcases Nat.eq_zero_or_pos (findN n s) with h2 | h2
  · exact h2
  · exact absurd (findN_name n s (by omega)) (h _ h2 (findN_le n s))

theorem lessL_asym : ∀ (l m : List Nat), lessL l m = true → lessL m l = false
  | [], [], h => by simp [lessL] at h
  | [], _ :: _, _ => rfl
  | _ :: _, [], h => by simp [lessL] at h
  | a :: x, b :: y, h => by
    simp only [lessL, Bool.or_eq_true, decide_eq_true_eq, Bool.and_eq_true] at h
    simp only [lessL, Bool.or_eq_false_iff, decide_eq_false_iff_not, Bool.and_eq_false_iff]
    rcases h with h | ⟨h1, h2⟩
    · exact ⟨by omega, .inl (by omega)⟩
    · exact ⟨by omega, .inr (lessL_asym x y h2)⟩
theorem lessL_tri : ∀ (l m : List Nat), lessL l m = false → lessL m l = false → l = m
  | [], [], _, _ => rfl
  | [], _ :: _, h, _ => by simp [lessL] at h
  | _ :: _, [], _, h => by simp [lessL] at h
  | a :: x, b :: y, h1, h2 => by
    simp only [lessL, Bool.or_eq_false_iff, decide_eq_false_iff_not, Bool.and_eq_false_iff] at h1 h2
    have hab : a = b := by omega
    subst hab
    have e1 : lessL x y = false := by rcases h1.2 with h | h; exact absurd rfl h; exact h
    have e2 : lessL y x = false := by rcases h2.2 with h | h; exact absurd rfl h; exact h
    rw [lessL_tri x y e1 e2]
/-- Two, the lesser one first. -/
def sort2 (a y : List Nat) : List (List Nat) := if lessL y a = true then [y, a] else [a, y]
/-- What a list of terms is behind a term that is put, and its name. -/
def putL (ts : List TermL) (t : TermL) : List TermL × List Nat :=
  if Fits t.2 then (if t ∈ ts then (ts, termN (ts.idxOf t + 1)) else (ts ++ [t], termN (ts.length + 1))) else (ts, [])
theorem putL_not {ts : List TermL} {t : TermL} (h : ¬ Fits t.2) : putL ts t = (ts, []) := if_neg h
theorem putL_old {ts : List TermL} {t : TermL} (h : Fits t.2) (h2 : t ∈ ts) : putL ts t = (ts, termN (ts.idxOf t + 1)) := by unfold putL; rw [if_pos h, if_pos h2]
theorem putL_new {ts : List TermL} {t : TermL} (h : Fits t.2) (h2 : t ∉ ts) : putL ts t = (ts ++ [t], termN (ts.length + 1)) := by unfold putL; rw [if_pos h, if_neg h2]
/-- A list as tables have it: no term twice, each may be joined. -/
def Clean (ts : List TermL) : Prop := ts.Nodup ∧ ∀ t ∈ ts, Fits t.2
theorem clean_nil : Clean [] := ⟨List.nodup_nil, fun t h => by cases h⟩
theorem putL_clean {ts : List TermL} (h : Clean ts) (t : TermL) : Clean (putL ts t).1 := by
  by_cases hF : Fits t.2
  · by_cases hm : t ∈ ts
    · rw [putL_old hF hm]; exact h
    · rw [putL_new hF hm]
      refine ⟨List.nodup_append.2 ⟨h.1, by simp, fun a ha b hb => ?_⟩, fun x hx => ?_⟩
      · rw [List.mem_singleton] at hb
        subst hb
        exact fun e => hm (by rw [← e]; exact ha)
      · rcases List.mem_append.1 hx with hx | hx
        · exact h.2 x hx
        · rw [List.mem_singleton] at hx; rw [hx]; exact hF
  · rw [putL_not hF]; exact h
theorem putL_grows (ts : List TermL) (t : TermL) : ts <+: (putL ts t).1 := by
  by_cases hF : Fits t.2
  · by_cases hm : t ∈ ts
    · rw [putL_old hF hm]; exact List.prefix_rfl
    · rw [putL_new hF hm]; exact List.prefix_append _ _
  · rw [putL_not hF]; exact List.prefix_rfl
theorem putL_len (ts : List TermL) (t : TermL) : (putL ts t).1.length ≤ ts.length + 1 := by
  by_cases hF : Fits t.2
  · by_cases hm : t ∈ ts
    · rw [putL_old hF hm]; exact Nat.le_succ _
    · rw [putL_new hF hm]; simp
  · rw [putL_not hF]; exact Nat.le_succ _
theorem idx_get {ts : List TermL} {t : TermL} (h : t ∈ ts) : ts[ts.idxOf t]? = some t := by
  rw [List.getElem?_eq_getElem (List.idxOf_lt_length_of_mem h)]
  exact congrArg some (List.getElem_idxOf _)
theorem nodup_idx {α : Type} : ∀ (ts : List α), ts.Nodup → ∀ (i j : Nat) (t : α), ts[i]? = some t → ts[j]? = some t → i = j
  | [], _, i, j, t, h, _ => by simp at h
  | x :: r, hn, i, j, t, hi, hj => by
    rw [List.nodup_cons] at hn
    cases i with
    | zero =>
      cases j with
      | zero => rfl
      | succ j =>
        simp at hi hj
        subst hi
        exact absurd (List.mem_of_getElem? hj) hn.1
    | succ i =>
      cases j with
      | zero =>
        simp at hi hj
        subst hj
        exact absurd (List.mem_of_getElem? hi) hn.1
      | succ j =>
        simp at hi hj
        rw [nodup_idx r hn.2 i j t hi hj]
theorem nodup_at {ts : List TermL} (h : ts.Nodup) {i j : Nat} {t : TermL} (hi : ts[i]? = some t) (hj : ts[j]? = some t) : i = j := nodup_idx ts h i j t hi hj
/-- The name that a term gets is that of its place behind. -/
theorem putL_at {ts : List TermL} {t : TermL} (hF : Fits t.2) : ∃ i, (putL ts t).2 = termN (i + 1) ∧ (putL ts t).1[i]? = some t ∧ i < (putL ts t).1.length := by
  by_cases hm : t ∈ ts
  · rw [putL_old hF hm]
    exact ⟨_, rfl, idx_get hm, List.idxOf_lt_length_of_mem hm⟩
  · rw [putL_new hF hm]
    exact ⟨ts.length, rfl, by simp, by simp⟩
/-- What two secrets come to: the list behind, the name, and whether there is one. -/
def dhL (ts : List TermL) (a b : List Nat) : List TermL × List Nat × Bool :=
  match ts[findN ts.length b - 1]? with
  | some (2, [y]) => if findN ts.length b = 0 then (ts, [], false) else
    let r := putL ts (3, sort2 a y)
    (r.1, r.2, decide (r.2 ≠ []))
  | _ => (ts, [], false)
end Go.Proofs.YtniogaimhkcedaaDoor.sh
/-
  Terms as lists: names that stay, acts one behind the other, what two secrets come to.
-/
namespace Go.Proofs.YtniogaimhkcedaaDoor.sh
open Go Go.RowKit
set_option linter.unusedVariables false
set_option linter.unusedSimpArgs false

/-- An act. -/
structure ActL where
  kind : Nat
  a : Nat
  b : Nat
  n : Nat
  s : List Nat
  raw : Bool
/-- What terms a table has: of what kinds, of how many parts, of bytes. -/
def Formed (t : TermL) : Prop := (∀ p ∈ t.2, Bytes p) ∧ ((t.1 = 1 ∧ ∃ p, t.2 = [p]) ∨ (t.1 = 2 ∧ ∃ p, t.2 = [p]) ∨ (t.1 = 3 ∧ ∃ p q, t.2 = [p, q]) ∨ t.1 = 4 ∨ t.1 = 5)
def Terms (ts : List TermL) : Prop := Clean ts ∧ ∀ t ∈ ts, Formed t
theorem terms_nil : Terms [] := ⟨clean_nil, fun t h => by cases h⟩
theorem putL_terms {ts : List TermL} {t : TermL} (h : Terms ts) (ht : Formed t) : Terms (putL ts t).1 := by
  refine ⟨putL_clean h.1 t, ?_⟩
  by_cases hF : Fits t.2
  · by_cases hm : t ∈ ts
    · rw [putL_old hF hm]; exact h.2
    · rw [putL_new hF hm]
      intro x hx
      rcases List.mem_append.1 hx with hx | hx
      · exact h.2 x hx
      · rw [List.mem_singleton] at hx; rw [hx]; exact ht
  · rw [putL_not hF]; exact h.2
theorem sort2_bytes {a y : List Nat} (ha : Bytes a) (hy : Bytes y) : ∀ p ∈ sort2 a y, Bytes p := by
  intro p hp
  unfold sort2 at hp
  split at hp <;> (simp at hp; rcases hp with rfl | rfl <;> assumption)
theorem sort2_two (a y : List Nat) : ∃ p q, sort2 a y = [p, q] := by
  unfold sort2
  split
  · exact ⟨_, _, rfl⟩
  · exact ⟨_, _, rfl⟩
theorem dhL_grows (ts : List TermL) (a b : List Nat) : ts <+: (dhL ts a b).1 ∧ (dhL ts a b).1.length ≤ ts.length + 1 := by
  unfold dhL
  split
  · split
    · exact ⟨List.prefix_rfl, Nat.le_succ _⟩
    · exact ⟨putL_grows _ _, putL_len _ _⟩
  · exact ⟨List.prefix_rfl, Nat.le_succ _⟩
end Go.Proofs.YtniogaimhkcedaaDoor.sh
/-
  The library's Repeat, CutPrefix and TrimLeft at one byte in this program: the shelf's contracts.
-/
namespace Go.Proofs.YtniogaimhkcedaaDoor.sh
open Go Go.RowKit Go.Shelf
set_option linter.unusedVariables false
set_option linter.unusedSimpArgs false

theorem lay103 : Lays.n103 Tryd.prog ren := { mixed := by kernel_rfl, f103 := Tryd.func62.trans (congrArg some (by kernel_rfl)), f206 := Tryd.func81.trans (congrArg some (by kernel_rfl)), f210 := Tryd.func71.trans (congrArg some (by kernel_rfl)), t3 := Tryd.underlying3, a3 := Tryd.isAgg3, z3 := Tryd.sizeOf3, v3 := Tryd.zeroValue3, t4 := Tryd.underlying4, a4 := Tryd.isAgg4, z4 := Tryd.sizeOf4, v4 := Tryd.zeroValue4, t9 := Tryd.underlying9, a9 := Tryd.isAgg9, z9 := Tryd.sizeOf9, v9 := Tryd.zeroValue9, t24 := Tryd.underlying51, a24 := Tryd.isAgg51, z24 := Tryd.sizeOf51, v24 := Tryd.zeroValue51 }
theorem lay231 : Lays.n231 Tryd.prog ren := { mixed := by kernel_rfl, f231 := Tryd.func72.trans (congrArg some (by kernel_rfl)), t3 := Tryd.underlying3, a3 := Tryd.isAgg3, z3 := Tryd.sizeOf3, v3 := Tryd.zeroValue3, t4 := Tryd.underlying4, a4 := Tryd.isAgg4, z4 := Tryd.sizeOf4, v4 := Tryd.zeroValue4, t5 := Tryd.underlying5, a5 := Tryd.isAgg5, z5 := Tryd.sizeOf5, v5 := Tryd.zeroValue5, t9 := Tryd.underlying9, a9 := Tryd.isAgg9, z9 := Tryd.sizeOf9, v9 := Tryd.zeroValue9 }
theorem lay105 : Lays.n105 Tryd.prog ren := { mixed := by kernel_rfl, f99 := Tryd.func67.trans (congrArg some (by kernel_rfl)), f105 := Tryd.func56.trans (congrArg some (by kernel_rfl)), f165 := Tryd.func45.trans (congrArg some (by kernel_rfl)), f166 := Tryd.func47.trans (congrArg some (by kernel_rfl)), f169 := Tryd.func48.trans (congrArg some (by kernel_rfl)), f170 := Tryd.func68.trans (congrArg some (by kernel_rfl)), f206 := Tryd.func81.trans (congrArg some (by kernel_rfl)), f212 := Tryd.func66.trans (congrArg some (by kernel_rfl)), f240 := Tryd.func60.trans (congrArg some (by kernel_rfl)), f241 := Tryd.func61.trans (congrArg some (by kernel_rfl)), f263 := Tryd.func79.trans (congrArg some (by kernel_rfl)), f264 := Tryd.func80.trans (congrArg some (by kernel_rfl)), f276 := Tryd.func69.trans (congrArg some (by kernel_rfl)), f277 := Tryd.func70.trans (congrArg some (by kernel_rfl)), t0 := Tryd.underlying0, a0 := Tryd.isAgg0, z0 := Tryd.sizeOf0, v0 := Tryd.zeroValue0, t3 := Tryd.underlying3, a3 := Tryd.isAgg3, z3 := Tryd.sizeOf3, v3 := Tryd.zeroValue3, t4 := Tryd.underlying4, a4 := Tryd.isAgg4, z4 := Tryd.sizeOf4, v4 := Tryd.zeroValue4, t5 := Tryd.underlying5, a5 := Tryd.isAgg5, z5 := Tryd.sizeOf5, v5 := Tryd.zeroValue5, t9 := Tryd.underlying9, a9 := Tryd.isAgg9, z9 := Tryd.sizeOf9, v9 := Tryd.zeroValue9, t20 := Tryd.underlying20, a20 := Tryd.isAgg20, z20 := Tryd.sizeOf20, v20 := Tryd.zeroValue20, t37 := Tryd.underlying23, a37 := Tryd.isAgg23, z37 := Tryd.sizeOf23, v37 := Tryd.zeroValue23, t46 := Tryd.underlying93, a46 := Tryd.isAgg93, z46 := Tryd.sizeOf93, v46 := Tryd.zeroValue93, t51 := Tryd.underlying132, a51 := Tryd.isAgg132, z51 := Tryd.sizeOf132, v51 := Tryd.zeroValue132, t53 := Tryd.underlying44, a53 := Tryd.isAgg44, z53 := Tryd.sizeOf44, v53 := Tryd.zeroValue44, t70 := Tryd.underlying86, a70 := Tryd.isAgg86, z70 := Tryd.sizeOf86, v70 := Tryd.zeroValue86, t72 := Tryd.underlying88, a72 := Tryd.isAgg88, z72 := Tryd.sizeOf88, v72 := Tryd.zeroValue88, t75 := Tryd.underlying91, a75 := Tryd.isAgg91, z75 := Tryd.sizeOf91, v75 := Tryd.zeroValue91, t76 := Tryd.underlying94, a76 := Tryd.isAgg94, z76 := Tryd.sizeOf94, v76 := Tryd.zeroValue94, t109 := Tryd.underlying116, a109 := Tryd.isAgg116, z109 := Tryd.sizeOf116, v109 := Tryd.zeroValue116, t127 := Tryd.underlying112, a127 := Tryd.isAgg112, z127 := Tryd.sizeOf112, v127 := Tryd.zeroValue112, t146 := Tryd.underlying133, a146 := Tryd.isAgg133, z146 := Tryd.sizeOf133, v146 := Tryd.zeroValue133, t148 := Tryd.underlying135, a148 := Tryd.isAgg135, z148 := Tryd.sizeOf135, v148 := Tryd.zeroValue135, t164 := Tryd.underlying120, a164 := Tryd.isAgg120, z164 := Tryd.sizeOf120, v164 := Tryd.zeroValue120 }
theorem sRep {l : List Nat} {c : Nat} (w : World) (hl : l.length * c ≤ 140737488355328) (hc : c ≤ 9223372036854775807) :
    Calls Tryd.prog 56 #[.string (strOf l), .int .i64 (c : Int)] w fun e w' => e = .returned (.string ⟨(Lib.repeatL ((l.map fun n => UInt8.ofNat n)) c).toArray⟩) ∧ Below w.heap.size w w' := by
  have h := Any.strings_Repeat lay105 layX (strOf l) c w hc (by rw [strOf_size]; exact hl)
  rw [sa_data] at h
  exact h
theorem sCut (l m : List Nat) (w : World) :
    Calls Tryd.prog 62 #[.string (strOf l), .string (strOf m)] w fun e w' => e = .returned (.tuple #[.string ⟨(Lib.trimPrefix (l.map fun n => UInt8.ofNat n) (m.map fun n => UInt8.ofNat n)).toArray⟩, .bool (Lib.hasPrefix (l.map fun n => UInt8.ofNat n) (m.map fun n => UInt8.ofNat n))]) ∧ w' = w := by
  have h := Any.strings_CutPrefix lay103 (strOf l) (strOf m) w
  rw [sa_data, sa_data] at h
  exact h
theorem sTrimB (l : List Nat) (c : UInt8) (w : World) :
    Calls Tryd.prog 72 #[.string (strOf l), .int .u8 c.toNat] w fun e w' => e = .returned (.string ⟨(Lib.trimLeftB (l.map fun n => UInt8.ofNat n) c).toArray⟩) ∧ w' = w := by
  have h := Any.strings_trimLeftByte lay231 (strOf l) c w
  rw [sa_data] at h
  exact h
end Go.Proofs.YtniogaimhkcedaaDoor.sh
