/-
  General pieces, joined: CD CE CF CG.
-/
import Derived.Test.YtjkdonjcngmjeaaGreatDoorG22
import Derived.Recover
/-
  Texts as one: codec.Join.
-/
namespace Go.Proofs.YtjkdonjcngmjeaaGreatDoor.sh
open Go Go.RowKit
set_option linter.unusedVariables false
set_option linter.unusedSimpArgs false

/-- What Join answers: bytes, an error's number. -/
def joinS (k : Nat) (ll : List (List Nat)) : List Nat := if Fits ll then joinL k ll else []
def joinE (ll : List (List Nat)) : Nat := if Fits ll then 0 else 3
theorem joinS_fits {k : Nat} {ll : List (List Nat)} (h : Fits ll) : joinS k ll = joinL k ll := if_pos h
theorem joinE_fits {ll : List (List Nat)} (h : Fits ll) : joinE ll = 0 := if_pos h
theorem joinS_not {k : Nat} {ll : List (List Nat)} (h : ¬ Fits ll) : joinS k ll = [] := if_neg h
theorem joinE_not {ll : List (List Nat)} (h : ¬ Fits ll) : joinE ll = 3 := if_neg h
theorem run_shr8 {o : Oper} {a : Act} {x : Operand} {m z : Nat} {u : TypeId} (ho : o.op = .binOp .shr 3 x (.const (.int .u64 8)) u) (hx : a.eval x = .int .i64 (m : Int)) (hz : z = m / 256) (hm : m < 4611686018427387904) (w : World) : (execOp a.eval o).run Tryz.prog w = .ok (.value (.int .i64 (z : Int))) w := by
  have e3 : a.eval (.const (.int .u64 8)) = .int .u64 8 := rfl
  have h3 : (m : Int) / 256 = (z : Int) := by omega
  unfold execOp
  simp only [ho, hx, e3]
  simp [go_sem, Op.shift, IntKind.bits, IntKind.wrap_i64, wrap64, Int.fdiv_eq_ediv_of_nonneg _ (show (0 : Int) ≤ 256 by decide), h3]
  try omega
set_option maxRecDepth 100000 in
set_option maxHeartbeats 2000000 in
theorem JoinD {k : Nat} {ll : List (List Nat)} {v : Value} {w : World} (hk : k < 256) (hv : ValsV v w (strs ll)) (hl : ∀ l ∈ ll, Bytes l ∧ l.length ≤ maxLen) :
    Calls Tryz.prog 64 #[.int .u8 (k : Int), v] w fun e w' => e = .returned (.tuple #[.string (strOf (joinS k ll)), .int .i64 (joinE ll : Int)]) ∧ Below w.heap.size w w' := by
  have KS : Kept (∀ w2, Below w.heap.size w w2 → Calls Tryz.prog 97 #[v] w2 fun e w' => (∃ n : Nat, e = .returned (.tuple #[.int .i64 (n : Int), .bool (decide (Fits ll))]) ∧ (Fits ll → n = (itemsL ll).length + 3)) ∧ w' = w2) := ⟨fun w2 h => sizeOfD (hv.under h) fun l hm => (hl l hm).2⟩
  by_cases hF : Fits ll
  · rw [joinS_fits hF, joinE_fits hF]
    rw [decide_eq_true hF] at KS
    have HJ : Kept (Bytes (joinL k ll)) := ⟨joinL_bytes hk (fun l hm => (hl l hm).1) hF⟩
    have HF : Kept _ := ⟨hF⟩
    have hn255 : ll.length ≤ 255 := hF.1
    obtain ⟨p, c, rfl, hc⟩ := vals_form hv (strs_len ll)
    obtain ⟨n, hn⟩ : ∃ n, n = ll.length := ⟨_, rfl⟩
    rw [← hn] at hv hc KS hn255 ⊢
    obtain ⟨J, hJ⟩ : ∃ J, J = joinL k ll := ⟨_, rfl⟩
    rw [← hJ] at HJ ⊢
    have EJ : Kept _ := ⟨hJ⟩
    have HN : Kept _ := ⟨hn⟩
    have HV : Kept _ := ⟨hv⟩
    have HL : Kept _ := ⟨hl⟩
    clear hJ hn hv hl hF
    go_enter Tryz.func64, Tryz.ntmps64
    go_wp2_with fail
    refine (KS.out _ (Below.refl _ _)).mono ?_
    rintro e w1 ⟨⟨m, rfl, hm⟩, hw1⟩
    obtain rfl := hw1.symm
    have hm' := hm HF.out
    have hmB : m ≤ 281474976710656 := by have := HF.out.2.2; omega
    clear hm hm' KS
    go_wp2_with fail
    refine (bGrow w (Nat.le_refl _) hmB).mono ?_
    rintro e w2 ⟨rfl, b2, q2⟩
    clear hmB
    go_wp2_with fail
    refine (bByte (c := 1) b2 (by decide) q2.size).mono ?_
    rintro e w3 ⟨rfl, b3, q3⟩
    replace q3 := q2.trans q3
    clear b2 q2
    go_wp2_with fail
    refine (bByte (c := k) b3 (by simp) q3.size).mono ?_
    rintro e w4 ⟨rfl, b4, q4⟩
    replace q4 := q3.trans q4
    clear b3 q3
    have n256 : n < 256 := by omega
    go_wp2_with (first | ((with_reducible refine wv_val (d := 25) ?hd ?hw (.int .u8 (n : Int)) ?hr ?_); (case hd => rfl); (case hw => kernel_rfl); (case hr => intro w; exact run_c38 rfl (by kernel_rfl) n256 w); simp only [Act.put, List.setIfInBounds_toArray, List.set_cons_succ, List.set_cons_zero]))
    refine (bByte (c := n) b4 (by simp) q4.size).mono ?_
    rintro e w5 ⟨rfl, b5, q5⟩
    replace q5 := q4.trans q5
    have b5' : Bld w.heap.size w.heap.size (1 :: k :: n :: itemsL (ll.take 0)) w5 := by simpa [itemsL] using b5
    clear b4 q4 b5
    go_wp2_with fail
    go_loopg [29] n (fun g s29 wr => ∃ i : Nat, i + g = n ∧ s29 = .int .i64 (i : Int) ∧ Bld w.heap.size w.heap.size (1 :: k :: n :: itemsL (ll.take i)) wr ∧ Below w.heap.size w wr)
    case atStart => exact ⟨0, by omega, rfl, b5', q5⟩
    case round =>
      rename World => wz
      obtain ⟨i, hik, rfl, bi, qi⟩ := hrel
      clear b5' q5
      by_cases hk0 : gk = 0
      · obtain rfl : n = i := by omega
        have e1 : (1 :: k :: n :: itemsL (ll.take n)) = J := by rw [EJ.out, List.take_of_length_le (by rw [← HN.out]; exact Nat.le_refl _)]; unfold joinL; rw [← HN.out]
        rw [e1] at bi
        clear e1
        go_wp2_with fail
        refine (bString bi HJ.out qi.size).mono ?_
        rintro e w6 ⟨rfl, q6⟩
        go_wp2_with fail
        go_ret2
        exact ⟨rfl, qi.trans q6⟩
      · have hin : i < n := by omega
        have hin' : (i : Int) < (n : Int) := by omega
        obtain ⟨l, h1, h2, h3⟩ := strs_put (show i < ll.length by rw [← HN.out]; exact hin)
        obtain ⟨A, rfl, hA, hcell⟩ := vals_at (HV.out.under qi) h2
        have KC : Kept _ := ⟨hcell⟩
        obtain ⟨z, hz⟩ : ∃ z, z = l.length := ⟨_, rfl⟩
        have KZ : Kept _ := ⟨hz⟩
        have KL : Kept _ := ⟨h1⟩
        have hm := items_takeB (ll := ll) (i := i) (by omega) (fun x hx => HF.out.2.1 x (List.mem_of_mem_take hx))
        have hz4 : z ≤ 4000 := by rw [hz]; exact HF.out.2.1 l h3
        have hlB : Kept (Bytes l) := ⟨(HL.out l h3).1⟩
        have KI : Kept (itemsL (ll.take (i + 1)) = itemsL (ll.take i) ++ itemL l) := ⟨items_take h1⟩
        obtain ⟨x, hx⟩ : ∃ x, x = z / 256 := ⟨_, rfl⟩
        obtain ⟨y, hy⟩ : ∃ y, y = z % 256 := ⟨_, rfl⟩
        have KI2 : Kept (itemL l = x :: y :: l) := ⟨by unfold itemL; rw [← hz, hx, hy]⟩
        have KX : Kept _ := ⟨hx⟩
        have KY : Kept _ := ⟨hy⟩
        have hx8 : x < 256 := by omega
        have hz62 : z < 4611686018427387904 := by omega
        obtain ⟨T, hT⟩ : ∃ T, T = itemsL (ll.take i) := ⟨_, rfl⟩
        rw [← hT] at bi hm KI
        clear h1 h2 h3 hcell hz hx hy hT
        go_wp2_with (first | ((with_reducible refine wv_val (d := 31) ?hd ?hw (.pointer (some (A.add i))) ?hr ?_); (case hd => rfl); (case hw => kernel_rfl); (case hr => intro w; exact run_idxS rfl (by kernel_rfl) (by kernel_rfl) Tryz.underlying43 hin Tryz.sizeOf9 w); simp only [Act.put, List.setIfInBounds_toArray, List.set_cons_succ, List.set_cons_zero]) | ((with_reducible refine wv_elem (d := 32) ?hd ?hw 9 ag_str (.tmp 31) ?ho (A.add i) ?hx (.string (strOf l)) ?hc ?_); (case hd => rfl); (case hw => kernel_rfl); (case ho => rfl); (case hx => kernel_rfl); (case hc => exact KC.out); simp only [Act.put, List.setIfInBounds_toArray, List.set_cons_succ, List.set_cons_zero]) | ((with_reducible refine wv_val (d := 34) ?hd ?hw (.int .i64 (z : Int)) ?hr ?_); (case hd => rfl); (case hw => kernel_rfl); (case hr => intro w; exact run_slen rfl (by kernel_rfl) KZ.out w); simp only [Act.put, List.setIfInBounds_toArray, List.set_cons_succ, List.set_cons_zero]) | ((with_reducible refine wv_val (d := 35) ?hd ?hw (.int .i64 (x : Int)) ?hr ?_); (case hd => rfl); (case hw => kernel_rfl); (case hr => intro w; exact run_shr8 rfl (by kernel_rfl) KX.out hz62 w); simp only [Act.put, List.setIfInBounds_toArray, List.set_cons_succ, List.set_cons_zero]) | ((with_reducible refine wv_val (d := 36) ?hd ?hw (.int .u8 (x : Int)) ?hr ?_); (case hd => rfl); (case hw => kernel_rfl); (case hr => intro w; exact run_c38 rfl (by kernel_rfl) hx8 w); simp only [Act.put, List.setIfInBounds_toArray, List.set_cons_succ, List.set_cons_zero]))
        refine (bByte (c := x) bi (by simp; omega) qi.size).mono ?_
        rintro e w6 ⟨rfl, b6, q6⟩
        replace q6 := qi.trans q6
        clear bi qi KC
        go_wp2_with (first | ((with_reducible refine wv_val (d := 39) ?hd ?hw (.int .i64 (z : Int)) ?hr ?_); (case hd => rfl); (case hw => kernel_rfl); (case hr => intro w; exact run_slen rfl (by kernel_rfl) KZ.out w); simp only [Act.put, List.setIfInBounds_toArray, List.set_cons_succ, List.set_cons_zero]) | ((with_reducible refine wv_val (d := 40) ?hd ?hw (.int .u8 (y : Int)) ?hr ?_); (case hd => rfl); (case hw => kernel_rfl); (case hr => intro w; exact run_conv38 rfl (by kernel_rfl) KY.out w); simp only [Act.put, List.setIfInBounds_toArray, List.set_cons_succ, List.set_cons_zero]))
        refine (bByte (c := y) b6 (by simp; omega) q6.size).mono ?_
        rintro e w7 ⟨rfl, b7, q7⟩
        replace q7 := q6.trans q7
        clear b6 q6
        go_wp2_with fail
        refine (bStr b7 hlB.out (by simp; have := KZ.out; omega) q7.size).mono ?_
        rintro e w8 ⟨⟨r8, rfl⟩, b8, q8⟩
        replace q8 := q7.trans q8
        have e8 : (1 :: k :: n :: T) ++ [x] ++ [y] ++ l = 1 :: k :: n :: itemsL (ll.take (i + 1)) := by rw [KI.out, KI2.out]; simp
        rw [e8] at b8
        clear b7 q7 e8
        go_wp2_with fail
        go_roundg (gk - 1)
        case measure => omega
        case rel => exact ⟨i + 1, by omega, by simp, b8, q8⟩
  · rw [joinS_not hF, joinE_not hF]
    rw [decide_eq_false hF] at KS
    clear hv hl
    go_enter Tryz.func64, Tryz.ntmps64
    go_wp2_with fail
    refine (KS.out _ (Below.refl _ _)).mono ?_
    rintro e w1 ⟨⟨m, rfl, hm⟩, hw1⟩
    obtain rfl := hw1.symm
    clear hm
    go_wp2_with fail
    go_ret2
    exact ⟨rfl, Below.refl _ _⟩
end Go.Proofs.YtjkdonjcngmjeaaGreatDoor.sh
/-
  What goes through a text: bytes, number, text; where it is too short they panic.
-/
namespace Go.Proofs.YtjkdonjcngmjeaaGreatDoor.sh
open Go Go.RowKit
set_option linter.unusedVariables false
set_option linter.unusedSimpArgs false

section
variable {ops : Array Oper} {rest : List Oper} {o : Oper} {a : Act} {w : World} {Q : Exit → Act → World → Prop}
/-- A cell is written, whatever value of one cell it gets. -/
theorem wl_set1 (hgd : o.guard = none) (e : TypeId) (sz : ∀ w, (sizeOf e).run Tryz.prog w = .ok 1 w) (x y : Operand) (ho : o.op = .store e x y) (g k : Nat) (v : Value) (hx : a.eval x = .pointer (some ⟨g, k, none⟩)) (hy : a.eval y = v) (h1 : v.oneCell' = true) {t : TypeId} (A : Array Value)
    (hg : Blk w g t A) (hk : k < A.size) (h : ∀ w', Blk w' g t (A.setIfInBounds k v) → Put w w' g → wpList Tryz.prog ops Q rest (a.put o.dst undef) w') : wpList Tryz.prog ops Q (o :: rest) a w :=
  wpList_plain hgd fun K hK => by
    have hc : w.cell? ⟨g, k, none⟩ = some A[k] := cell_row hg (Array.getElem?_eq_getElem hk)
    have hf : w.frozen? ⟨g, k, none⟩ = false := frozen_of_row w g k A _ hg
    have hv : v.cells = #[v] := by cases v <;> simp_all [Value.oneCell', Value.cells]
    have hv' := hv
    unfold Value.cells at hv'
    have hrun : (execOp a.eval o).run Tryz.prog w = .ok .skip (w.setCell ⟨g, k, none⟩ v) := by
      unfold execOp
      simp only [ho, hx, hy, Instr.storeAt, Instr.sureAddr, Sem.run_bind, Sem.run_pure, Result.andThen_ok]
      simp [storeVar, storeCells, sz, go_sem, hc, hf, hv']
      rw [run_store _ _ _ _ _ h1, hc]
      simp [hf]
    unfold Oper.wp
    rw [hrun]
    exact hK _ _ (h _ (heap_setCell_same _ _ _ _ _ _ hg) ⟨⟨rfl, rfl, rfl, by simp, fun j _ hj => heap_setCell_other w ⟨g, k, none⟩ j _ (fun e => hj (by rw [e]))⟩, by simp⟩)
end
/-- A text that is gone through, in a block. -/
def Wk (b : Nat) (l : List Nat) (w : World) : Prop := Blk w b 175 #[.string (strOf l)]

set_option maxRecDepth 100000 in
set_option maxHeartbeats 1000000 in
theorem bytes_ok {b n : Nat} {l : List Nat} {w : World} (h : Wk b l w) (hn : n ≤ l.length) (hm : l.length < 4611686018427387904) :
    Calls Tryz.prog 134 #[.pointer (some ⟨b, 0, none⟩), .int .i64 (n : Int)] w fun e w' => e = .returned (.string (strOf (l.take n))) ∧ Wk b (l.drop n) w' ∧ Put w w' b := by
  obtain ⟨T, hT⟩ : ∃ T, T = l.take n := ⟨_, rfl⟩
  obtain ⟨D, hD⟩ : ∃ D, D = l.drop n := ⟨_, rfl⟩
  obtain ⟨m, hM⟩ : ∃ m, m = l.length := ⟨_, rfl⟩
  rw [← hT, ← hD]
  have KT : Kept _ := ⟨hT⟩
  have KD : Kept _ := ⟨hD⟩
  have KM : Kept _ := ⟨hM⟩
  have KN : Kept _ := ⟨hn⟩
  have KH : Kept _ := ⟨h⟩
  have h1 : ¬ (m : Int) < (n : Int) := by omega
  clear hT hD hM hn h
  go_enter Tryz.func134, Tryz.ntmps134
  go_wp2_with (first | ((with_reducible refine wv_elem (d := 10) ?hd ?hw 9 ag_str (.tmp 9) ?ho (⟨b, 0, none⟩) ?hx (.string (strOf l)) ?hc ?_); (case hd => rfl); (case hw => kernel_rfl); (case ho => rfl); (case hx => kernel_rfl); (case hc => exact (cell_row KH.out rfl)); simp only [Act.put, List.setIfInBounds_toArray, List.set_cons_succ, List.set_cons_zero]) | ((with_reducible refine wv_val (d := 11) ?hd ?hw (.int .i64 (m : Int)) ?hr ?_); (case hd => rfl); (case hw => kernel_rfl); (case hr => intro w; exact run_slen rfl (by kernel_rfl) KM.out w); simp only [Act.put, List.setIfInBounds_toArray, List.set_cons_succ, List.set_cons_zero]) | ((with_reducible refine wv_elem (d := 17) ?hd ?hw 9 ag_str (.tmp 16) ?ho (⟨b, 0, none⟩) ?hx (.string (strOf l)) ?hc ?_); (case hd => rfl); (case hw => kernel_rfl); (case ho => rfl); (case hx => kernel_rfl); (case hc => exact (cell_row KH.out rfl)); simp only [Act.put, List.setIfInBounds_toArray, List.set_cons_succ, List.set_cons_zero]) | ((with_reducible refine wv_val (d := 19) ?hd ?hw (.string (strOf T)) ?hr ?_); (case hd => rfl); (case hw => kernel_rfl); (case hr => intro w; exact run_scutT rfl (by kernel_rfl) (by kernel_rfl) KN.out KT.out w); simp only [Act.put, List.setIfInBounds_toArray, List.set_cons_succ, List.set_cons_zero]) | ((with_reducible refine wv_elem (d := 24) ?hd ?hw 9 ag_str (.tmp 23) ?ho (⟨b, 0, none⟩) ?hx (.string (strOf l)) ?hc ?_); (case hd => rfl); (case hw => kernel_rfl); (case ho => rfl); (case hx => kernel_rfl); (case hc => exact (cell_row KH.out rfl)); simp only [Act.put, List.setIfInBounds_toArray, List.set_cons_succ, List.set_cons_zero]) | ((with_reducible refine wv_val (d := 26) ?hd ?hw (.string (strOf D)) ?hr ?_); (case hd => rfl); (case hw => kernel_rfl); (case hr => intro w; exact run_scutF rfl (by kernel_rfl) (by kernel_rfl) KN.out KD.out w); simp only [Act.put, List.setIfInBounds_toArray, List.set_cons_succ, List.set_cons_zero]) | (refine wl_set1 rfl 9 Tryz.sizeOf9 (.tmp 28) (.tmp 26) rfl b 0 (.string (strOf D)) rfl rfl rfl #[.string (strOf l)] KH.out Nat.zero_lt_one ?_))
  intro w2 b2 p2
  go_wp2_with fail
  go_ret
  exact ⟨rfl, b2, p2⟩
/-- What it panics with. -/
def PV : Value := .iface 9 (.string { data := #[99, 111, 100, 101, 99, 58, 32, 97, 32, 116, 101, 120, 116, 32, 116, 104, 97, 116, 32, 105, 115, 32, 116, 111, 111, 32, 115, 104, 111, 114, 116] })
def Dies (e : Ending) : Prop := e = .panicked [{ v := PV, recovered := false }]
theorem gb_refl (w : World) (r : Option Nat) : w.grownBy w r := ⟨rfl, rfl, rfl, Nat.le_refl _, fun _ _ _ => rfl⟩
theorem gb_trans {w w1 w2 : World} {r : Option Nat} (h : w.grownBy w1 r) (h2 : w1.grownBy w2 r) : w.grownBy w2 r := ⟨h2.os.trans h.os, h2.tape.trans h.tape, h2.output.trans h.output, Nat.le_trans h.size h2.size, fun k hk hr => (h2.block k (Nat.lt_of_lt_of_le hk h.size) hr).trans (h.block k hk hr)⟩
theorem gb_below {w w' : World} {B b : Nat} (h : w.grownBy w' (some b)) (hB : B ≤ w.heap.size) (hb : B ≤ b) : Below B w w' := grown_mono h hB (fun k hk => by cases hk; exact hb)
theorem gb_under {w w' : World} (h : Below w.heap.size w w') (r : Option Nat) : w.grownBy w' r := ⟨h.os, h.tape, h.output, h.size, fun k hk _ => h.block k hk⟩
theorem gb_blk {w w' : World} {b k : Nat} {t : TypeId} {A : Array Value} (h : w.grownBy w' (some b)) (hk : Blk w k t A) (hne : k ≠ b) : Blk w' k t A := (h.block k hk.lt (fun e => by cases e; exact hne rfl)).trans hk
theorem Wk.under {b : Nat} {l : List Nat} {w w' : World} (h : Wk b l w) (hb : Below w.heap.size w w') : Wk b l w' := Blk.under h hb

set_option maxRecDepth 100000 in
set_option maxHeartbeats 1000000 in
theorem bytes_dies {b n : Nat} {l : List Nat} {w : World} (h : Wk b l w) (hn : l.length < n) :
    Calls Tryz.prog 134 #[.pointer (some ⟨b, 0, none⟩), .int .i64 (n : Int)] w fun e w' => Dies e ∧ w' = w := by
  obtain ⟨m, hM⟩ : ∃ m, m = l.length := ⟨_, rfl⟩
  have KM : Kept _ := ⟨hM⟩
  have KH : Kept _ := ⟨h⟩
  have h1 : (m : Int) < (n : Int) := by omega
  clear hM hn h
  go_enter Tryz.func134, Tryz.ntmps134
  go_wp2_with (first | ((with_reducible refine wv_elem (d := 10) ?hd ?hw 9 ag_str (.tmp 9) ?ho (⟨b, 0, none⟩) ?hx (.string (strOf l)) ?hc ?_); (case hd => rfl); (case hw => kernel_rfl); (case ho => rfl); (case hx => kernel_rfl); (case hc => exact (cell_row KH.out rfl)); simp only [Act.put, List.setIfInBounds_toArray, List.set_cons_succ, List.set_cons_zero]) | ((with_reducible refine wv_val (d := 11) ?hd ?hw (.int .i64 (m : Int)) ?hr ?_); (case hd => rfl); (case hw => kernel_rfl); (case hr => intro w; exact run_slen rfl (by kernel_rfl) KM.out w); simp only [Act.put, List.setIfInBounds_toArray, List.set_cons_succ, List.set_cons_zero]))
  exact ⟨rfl, rfl, rfl⟩
set_option maxRecDepth 100000 in
set_option maxHeartbeats 1000000 in
theorem number_ok {b x : Nat} {r : List Nat} {w : World} (h : Wk b (x :: r) w) (hx : x < 256) (hy : Bytes (x :: r)) (hm : (x :: r).length < 4611686018427387904) :
    Calls Tryz.prog 110 #[.pointer (some ⟨b, 0, none⟩)] w fun e w' => e = .returned (.int .i64 (x : Int)) ∧ Wk b r w' ∧ Put w w' b := by
  have CB := bytes_ok (n := 1) h (by simp) hm
  have hy1 : Bytes [x] := bytes_of_all (fun y hy => by simp at hy; omega)
  go_enter Tryz.func110, Tryz.ntmps110
  go_wp2_with fail
  refine CB.mono ?_
  rintro e w1 ⟨rfl, b1, p1⟩
  have e1 : (x :: r).take 1 = [x] := rfl
  rw [e1]
  go_wp2_with (first | ((with_reducible refine wv_val (d := 5) ?hd ?hw (.int .u8 (x : Int)) ?hr ?_); (case hd => rfl); (case hw => kernel_rfl); (case hr => intro w; exact run_sidx (i := 0) rfl (by kernel_rfl) rfl hy1 rfl w); simp only [Act.put, List.setIfInBounds_toArray, List.set_cons_succ, List.set_cons_zero]) | ((with_reducible refine wv_val (d := 6) ?hd ?hw (.int .i64 (x : Int)) ?hr ?_); (case hd => rfl); (case hw => kernel_rfl); (case hr => intro w; exact run_conv83 rfl (by kernel_rfl) hx w); simp only [Act.put, List.setIfInBounds_toArray, List.set_cons_succ, List.set_cons_zero]))
  go_ret
  exact ⟨rfl, b1, p1⟩
set_option maxRecDepth 100000 in
set_option maxHeartbeats 1000000 in
theorem number_dies {b : Nat} {w : World} (h : Wk b [] w) :
    Calls Tryz.prog 110 #[.pointer (some ⟨b, 0, none⟩)] w fun e w' => Dies e ∧ w' = w := by
  have CB := bytes_dies (n := 1) h (by simp)
  go_enter Tryz.func110, Tryz.ntmps110
  go_wp2_with fail
  refine CB.mono ?_
  rintro e w1 ⟨hd, rfl⟩
  obtain rfl := hd
  exact ⟨rfl, rfl, rfl⟩
theorem run_shl8 {o : Oper} {a : Act} {x : Operand} {m z : Nat} {u : TypeId} (ho : o.op = .binOp .shl 3 x (.const (.int .u64 8)) u) (hx : a.eval x = .int .i64 (m : Int)) (hz : z = m * 256) (hm : m < 65536) (w : World) : (execOp a.eval o).run Tryz.prog w = .ok (.value (.int .i64 (z : Int))) w := by
  have e3 : a.eval (.const (.int .u64 8)) = .int .u64 8 := rfl
  unfold execOp
  simp only [ho, hx, e3]
  simp [go_sem, Op.shift, IntKind.bits, IntKind.wrap_i64, wrap64]
  omega
theorem i64_or_nat (a b : Nat) (ha : a < 9223372036854775808) (hb : b < 9223372036854775808) : bits .or .i64 (a : Int) (b : Int) = ((a ||| b : Nat) : Int) := by
  have hx : a ||| b < 2 ^ 63 := Nat.or_lt_two_pow (by omega) (by omega)
  show IntKind.i64.wrap ((BitVec.ofInt 64 (a : Int) ||| BitVec.ofInt 64 (b : Int)).toNat : Int) = _
  rw [BitVec.toNat_or, ofInt_u64 a (by omega), ofInt_u64 b (by omega), IntKind.wrap_i64]
  omega
theorem or_256 (a b : Nat) (hb : b < 256) : a * 256 ||| b = 256 * a + b := by
  have h := Nat.two_pow_add_eq_or_of_lt (i := 8) (b := b) hb a
  rw [show (2 : Nat) ^ 8 = 256 by decide] at h
  rw [Nat.mul_comm a 256, ← h]
theorem run_or8 {o : Oper} {a : Act} {x y : Operand} {m n p z : Nat} (ho : o.op = .binOp .or 3 x y 3) (hx : a.eval x = .int .i64 (m : Int)) (hy : a.eval y = .int .i64 (n : Int)) (hm : m = p * 256) (hp : p < 65536) (hn : n < 256) (hz : z = 256 * p + n) (w : World) : (execOp a.eval o).run Tryz.prog w = .ok (.value (.int .i64 (z : Int))) w := by
  have h := i64_or_nat m n (by omega) (by omega)
  rw [hm, or_256 p n hn, ← hz, ← hm] at h
  unfold execOp
  simp only [ho, hx, hy]
  simp [go_sem]
  exact h
set_option maxRecDepth 100000 in
set_option maxHeartbeats 1000000 in
theorem Clone_any (l : List Nat) (w : World) (hl : l.length ≤ 281474976710656) :
    Calls Tryz.prog 135 #[.string (strOf l)] w fun e w' => e = .returned (.string (strOf l)) ∧ Below w.heap.size w w' := by
  go_enter Tryz.func135, Tryz.ntmps135
  go_wp2_with fail
  refine (sClone l w hl).mono ?_
  rintro e w1 ⟨rfl, q⟩
  go_wp2_with fail
  go_ret
  exact ⟨rfl, q⟩
set_option maxRecDepth 100000 in
set_option maxHeartbeats 1000000 in
theorem text_ok {b x y n : Nat} {r : List Nat} {w : World} (h : Wk b (x :: y :: r) w) (hy : Bytes (x :: y :: r)) (hm : (x :: y :: r).length ≤ 1000000) (hn : n = 256 * x + y) (hr : n ≤ r.length) :
    Calls Tryz.prog 111 #[.pointer (some ⟨b, 0, none⟩)] w fun e w' => e = .returned (.string (strOf (r.take n))) ∧ Wk b (r.drop n) w' ∧ w.grownBy w' (some b) := by
  have hx8 : x < 256 := hy 0 x rfl
  have hy8 : y < 256 := hy 1 y rfl
  have hr2 : Bytes (y :: r) := fun i z hz => hy (i + 1) z hz
  have hL : r.length + 2 ≤ 1000000 := by simpa using hm
  have C1 := number_ok h hx8 hy (by simp; omega)
  have C2 := fun w2 (h2 : Wk b (y :: r) w2) => number_ok h2 hy8 hr2 (by simp; omega)
  have C3 := fun w2 (h2 : Wk b r w2) => bytes_ok h2 hr (by omega)
  have C4 := fun w2 => Clone_any (r.take n) w2 (by rw [List.length_take]; omega)
  obtain ⟨T, hT⟩ : ∃ T, T = r.take n := ⟨_, rfl⟩
  obtain ⟨D, hD⟩ : ∃ D, D = r.drop n := ⟨_, rfl⟩
  rw [← hT] at C4
  have C3 : Kept (∀ w2, Wk b r w2 → Calls Tryz.prog 134 #[.pointer (some ⟨b, 0, none⟩), .int .i64 (n : Int)] w2 fun e w' => e = .returned (.string (strOf T)) ∧ Wk b D w' ∧ Put w2 w' b) := ⟨by rw [hT, hD]; exact C3⟩
  rw [← hT, ← hD]
  obtain ⟨m, hM⟩ : ∃ m, m = x * 256 := ⟨_, rfl⟩
  have KM : Kept _ := ⟨hM⟩
  have KN : Kept _ := ⟨hn⟩
  have hx6 : x < 65536 := by omega
  clear hM hn hT hD hr hy hr2 hm hL h
  go_enter Tryz.func111, Tryz.ntmps111
  go_wp2_with fail
  refine C1.mono ?_
  rintro e w1 ⟨rfl, b1, p1⟩
  go_wp2_with fail
  refine (C2 _ b1).mono ?_
  rintro e w2 ⟨rfl, b2, p2⟩
  replace p2 := gb_trans p1.grown p2.grown
  clear b1 p1 C1 C2
  go_wp2_with (first | ((with_reducible refine wv_val (d := 11) ?hd ?hw (.int .i64 (m : Int)) ?hr ?_); (case hd => rfl); (case hw => kernel_rfl); (case hr => intro w; exact run_shl8 rfl (by kernel_rfl) KM.out hx6 w); simp only [Act.put, List.setIfInBounds_toArray, List.set_cons_succ, List.set_cons_zero]) | ((with_reducible refine wv_val (d := 13) ?hd ?hw (.int .i64 (n : Int)) ?hr ?_); (case hd => rfl); (case hw => kernel_rfl); (case hr => intro w; exact run_or8 rfl (by kernel_rfl) (by kernel_rfl) KM.out hx6 hy8 KN.out w); simp only [Act.put, List.setIfInBounds_toArray, List.set_cons_succ, List.set_cons_zero]))
  refine (C3.out _ b2).mono ?_
  rintro e w3 ⟨rfl, b3, p3⟩
  replace p3 := gb_trans p2 p3.grown
  clear b2 p2 C3
  go_wp2_with fail
  refine (C4 w3).mono ?_
  rintro e w4 ⟨rfl, q4⟩
  go_wp2_with fail
  go_ret
  exact ⟨rfl, b3.under q4, gb_trans p3 (gb_under q4 _)⟩
/-- The three ways in which a text is too short. -/
def Short (l : List Nat) : Prop := l = [] ∨ (∃ x, l = [x]) ∨ ∃ x y r, l = x :: y :: r ∧ r.length < 256 * x + y
set_option maxRecDepth 100000 in
set_option maxHeartbeats 1000000 in
theorem text_dies {b : Nat} {l : List Nat} {w : World} (h : Wk b l w) (hy : Bytes l) (hm : l.length ≤ 1000000) (hs : Short l) :
    Calls Tryz.prog 111 #[.pointer (some ⟨b, 0, none⟩)] w fun e w' => Dies e ∧ w.grownBy w' (some b) := by
  rcases hs with rfl | ⟨x, rfl⟩ | ⟨x, y, r, rfl, hr⟩
  · have C1 := number_dies h
    go_enter Tryz.func111, Tryz.ntmps111
    go_wp2_with fail
    refine C1.mono ?_
    rintro e w1 ⟨hd, rfl⟩
    obtain rfl := hd
    exact ⟨rfl, rfl, gb_refl _ _⟩
  · have C1 := number_ok h (hy 0 x rfl) hy (by simp)
    have C2 := fun w2 (h2 : Wk b [] w2) => number_dies h2
    go_enter Tryz.func111, Tryz.ntmps111
    go_wp2_with fail
    refine C1.mono ?_
    rintro e w1 ⟨rfl, b1, p1⟩
    go_wp2_with fail
    refine (C2 _ b1).mono ?_
    rintro e w2 ⟨hd, rfl⟩
    obtain rfl := hd
    exact ⟨rfl, rfl, p1.grown⟩
  · have hx8 : x < 256 := hy 0 x rfl
    have hy8 : y < 256 := hy 1 y rfl
    have hr2 : Bytes (y :: r) := fun i z hz => hy (i + 1) z hz
    have hL : r.length + 2 ≤ 1000000 := by simpa using hm
    have C1 := number_ok h hx8 hy (by simp; omega)
    have C2 := fun w2 (h2 : Wk b (y :: r) w2) => number_ok h2 hy8 hr2 (by simp; omega)
    obtain ⟨n, hn⟩ : ∃ n, n = 256 * x + y := ⟨_, rfl⟩
    rw [← hn] at hr
    have C3 := fun w2 (h2 : Wk b r w2) => bytes_dies h2 hr
    obtain ⟨m, hM⟩ : ∃ m, m = x * 256 := ⟨_, rfl⟩
    have KM : Kept _ := ⟨hM⟩
    have KN : Kept _ := ⟨hn⟩
    have hx6 : x < 65536 := by omega
    clear hM hn hr hy hr2 hm hL h
    go_enter Tryz.func111, Tryz.ntmps111
    go_wp2_with fail
    refine C1.mono ?_
    rintro e w1 ⟨rfl, b1, p1⟩
    go_wp2_with fail
    refine (C2 _ b1).mono ?_
    rintro e w2 ⟨rfl, b2, p2⟩
    replace p2 := gb_trans p1.grown p2.grown
    clear b1 p1 C1 C2
    go_wp2_with (first | ((with_reducible refine wv_val (d := 11) ?hd ?hw (.int .i64 (m : Int)) ?hr ?_); (case hd => rfl); (case hw => kernel_rfl); (case hr => intro w; exact run_shl8 rfl (by kernel_rfl) KM.out hx6 w); simp only [Act.put, List.setIfInBounds_toArray, List.set_cons_succ, List.set_cons_zero]) | ((with_reducible refine wv_val (d := 13) ?hd ?hw (.int .i64 (n : Int)) ?hr ?_); (case hd => rfl); (case hw => kernel_rfl); (case hr => intro w; exact run_or8 rfl (by kernel_rfl) (by kernel_rfl) KM.out hx6 hy8 KN.out w); simp only [Act.put, List.setIfInBounds_toArray, List.set_cons_succ, List.set_cons_zero]))
    refine (C3 _ b2).mono ?_
    rintro e w3 ⟨hd, rfl⟩
    obtain rfl := hd
    exact ⟨rfl, rfl, p2⟩
end Go.Proofs.YtjkdonjcngmjeaaGreatDoor.sh
/-
  A region that draws its order, order by order: what may come first, each carried out as in a plain region.
-/
namespace Go.Proofs.YtjkdonjcngmjeaaGreatDoor.sh
open Go Go.RowKit
set_option linter.unusedVariables false
set_option linter.unusedSimpArgs false

section
variable {P : Program} {ops : Array Oper} {Q : Exit → Act → World → Prop} {a : Act} {w : World}
theorem wp_then {o : Oper} {K X : Act → World → Prop} (h : o.wp P a w X (Exit.then K Q)) : o.wp P a w X Q := by
  unfold Oper.wp at *
  generalize (execOp a.eval o).run P w = r at *
  cases r with
  | ok n w' => cases n <;> exact h
  | halt x w' => cases x <;> exact h
theorem any_op {i : Nat} {o : Oper} {K : Act → World → Prop} (ho : ops[i]? = some o) (h : wpList P ops (Exit.then K Q) [o] a w) : wpOp P ops Q i K a w := by
  unfold wpOp
  simp only [ho]
  unfold wpList at h
  split
  · next hw =>
    rw [if_pos hw] at h
    rcases h with h | h
    · exact .inl (wp_then (Oper.wp_mono (fun a w h => h) h))
    · exact .inr h
  · next hw =>
    rw [if_neg hw] at h
    exact h
theorem any0 {n : Nat} {listed : Array Bool} (hr : Region.ready .any ops listed = []) (h : Q .normal a w) : wpAny P .any ops Q n listed a w := by
  cases n with
  | zero => exact ⟨hr, h⟩
  | succ n => exact ⟨fun _ => h, fun i hi => by rw [hr] at hi; cases hi⟩
theorem any1 {n f i : Nat} {o : Oper} {listed : Array Bool} (hn : n = f + 1) (hr : Region.ready .any ops listed = [i]) (ho : ops[i]? = some o) (h : wpList P ops (Exit.then (wpAny P .any ops Q f (listed.setIfInBounds i true)) Q) [o] a w) : wpAny P .any ops Q n listed a w := by
  subst hn
  refine ⟨fun h => (by rw [hr] at h; cases h), fun j hj => ?_⟩
  rw [hr, List.mem_singleton] at hj
  subst hj
  exact any_op ho h
theorem any2 {n f i j : Nat} {o u : Oper} {listed : Array Bool} (hn : n = f + 1) (hr : Region.ready .any ops listed = [i, j]) (ho : ops[i]? = some o) (hu : ops[j]? = some u) (h : wpList P ops (Exit.then (wpAny P .any ops Q f (listed.setIfInBounds i true)) Q) [o] a w) (h2 : wpList P ops (Exit.then (wpAny P .any ops Q f (listed.setIfInBounds j true)) Q) [u] a w) : wpAny P .any ops Q n listed a w := by
  subst hn
  refine ⟨fun h => (by rw [hr] at h; cases h), fun k hk => ?_⟩
  rw [hr, List.mem_cons, List.mem_singleton] at hk
  rcases hk with rfl | rfl
  · exact any_op ho h
  · exact any_op hu h2
/-- Whatever order it draws, it comes to the same. -/
theorem region_to {id : Nat} (C : Act → Act → World → Prop) (hm : P.follows .mixedOrders = true) (h : ∀ Q' : Exit → Act → World → Prop, (∀ a' w', C a a' w' → Q' .normal a' w') → (∀ ch a' w', Q (.panic ch) a' w' → Q' (.panic ch) a' w') → wpAny P .any ops Q' ops.size (Array.replicate ops.size false) a { w with drawn := w.drawn + 1 }) (hq : ∀ a' w', C a a' w' → Q .normal a' w') : (Code.region id ops true).wp P Q a w :=
  wp_region_any hm (h Q hq fun _ _ _ h => h)
theorem put_comm (a : Act) (d e : Nat) (h : d ≠ e) (x y : Value) : (a.put (some d) x).put (some e) y = (a.put (some e) y).put (some d) x := by
  unfold Act.put
  simp only
  rw [Array.setIfInBounds_comm _ _ h]
end

section
variable {P : Program} {ops : Array Oper} {Q : Exit → Act → World → Prop} {a : Act} {w : World} {rest : List Oper} {o : Oper}
/-- A call in a plain list, by its contract: it returns. -/
theorem wl_callC (hgd : o.guard = none) (f : Nat) (fn : Func) (c : Code) (xs : List Operand) (ts : Array TypeId) (args : Array Value) (ho : o.op = .call { callee := .value (.func f), args := xs.toArray, argTypes := ts }) (hx : (xs.map a.eval).toArray = args) (hf : P.funcs[f]? = some fn) (hname : (fn.name == "runtime.NumGoroutine") = false) (hb : fn.body = some c) {R : Value → World → Prop}
    (hc : Calls P f args w fun e w' => ∃ v, e = .returned v ∧ R v w') (h : ∀ v w', R v w' → wpList P ops Q rest (a.put o.dst v) w') : wpList P ops Q (o :: rest) a w :=
  wpList_plain hgd fun K hK => by
    have h1 : fn.name ≠ "runtime.NumGoroutine" := by simpa using hname
    have hrun : (execOp a.eval o).run P w = .ok (.enter f args) w := by
      rw [← hx]
      unfold execOp
      simp only [ho, resolve, List.map_toArray, Act.eval]
      simp [Deferred.ofValue, invoke, callFunc, hf, h1, hb]
    unfold Oper.wp
    rw [hrun]
    simp only [Oper.upon]
    refine hc.mono fun e w' hh => ?_
    obtain ⟨v, rfl, hR⟩ := hh
    exact hK _ _ (h v w' hR)
/-- .. it panics. -/
theorem wl_callP (hgd : o.guard = none) (f : Nat) (fn : Func) (c : Code) (xs : List Operand) (ts : Array TypeId) (args : Array Value) (ho : o.op = .call { callee := .value (.func f), args := xs.toArray, argTypes := ts }) (hx : (xs.map a.eval).toArray = args) (hf : P.funcs[f]? = some fn) (hname : (fn.name == "runtime.NumGoroutine") = false) (hb : fn.body = some c)
    (hc : Calls P f args w fun e w' => ∃ ch, e = .panicked ch ∧ Q (.panic ch) a w') : wpList P ops Q (o :: rest) a w :=
  wpList_plain hgd fun K hK => by
    have h1 : fn.name ≠ "runtime.NumGoroutine" := by simpa using hname
    have hrun : (execOp a.eval o).run P w = .ok (.enter f args) w := by
      rw [← hx]
      unfold execOp
      simp only [ho, resolve, List.map_toArray, Act.eval]
      simp [Deferred.ofValue, invoke, callFunc, hf, h1, hb]
    unfold Oper.wp
    rw [hrun]
    simp only [Oper.upon]
    refine hc.mono fun e w' hh => ?_
    obtain ⟨ch, rfl, hR⟩ := hh
    exact hR
end
end Go.Proofs.YtjkdonjcngmjeaaGreatDoor.sh
/-
  codec.apart: what its deferred function does, of a panic and without one.
-/
namespace Go.Proofs.YtjkdonjcngmjeaaGreatDoor.sh
open Go Go.RowKit
set_option linter.unusedVariables false
set_option linter.unusedSimpArgs false

theorem rec_panic (b : Nat) (x y z : Value) (w : World) (h1 : Blk w b 5 #[x]) (h2 : Blk w (b + 1) 43 #[y]) (h3 : Blk w (b + 2) 4 #[z]) :
    CallsD Tryz.prog 109 #[.pointer (some ⟨b, 0, none⟩), .pointer (some ⟨b + 1, 0, none⟩), .pointer (some ⟨b + 2, 0, none⟩)] (.panicking [{ v := PV, recovered := false }]) w fun e u' w' =>
      e = .returned (.tuple #[]) ∧ u' = .panicking [{ v := PV, recovered := true }] ∧ w' = ((w.setCell ⟨b, 0, none⟩ (.int .u8 0)).setCell ⟨b + 1, 0, none⟩ (.slice none 0 0)).setCell ⟨b + 2, 0, none⟩ (.bool false) := by
  have c1 : w.cell? ⟨b, 0, none⟩ = some x := cell_row h1 rfl
  have c2 : w.cell? ⟨b + 1, 0, none⟩ = some y := cell_row h2 rfl
  have c3 : w.cell? ⟨b + 2, 0, none⟩ = some z := cell_row h3 rfl
  have f1 : w.frozen? ⟨b, 0, none⟩ = false := frozen_of_row w b 0 _ _ h1
  have f2 : w.frozen? ⟨b + 1, 0, none⟩ = false := frozen_of_row w (b + 1) 0 _ _ h2
  have f3 : w.frozen? ⟨b + 2, 0, none⟩ = false := frozen_of_row w (b + 2) 0 _ _ h3
  refine callsD_of_wpS Tryz.func109 rfl fun c₀ cs hu => ?_
  apply wpS_seq
  apply wpS_region
  simp [wpOpsS, go_sem, recoverD, hu, Tryz.ntmps109, Exit.thenS, PV]
  refine wpS_cond (t := true) (by simp [Act.eval, Array.replicate]) ?_
  simp only [if_true]
  apply wpS_region
  simp [wpOpsS, go_sem, c1, c2, c3, f1, f2, f3, bodyPostS, results, Tryz.results109]

theorem rec_idle (b : Nat) (w : World) :
    CallsD Tryz.prog 109 #[.pointer (some ⟨b, 0, none⟩), .pointer (some ⟨b + 1, 0, none⟩), .pointer (some ⟨b + 2, 0, none⟩)] .returning w fun e u' w' => e = .returned (.tuple #[]) ∧ u' = .returning ∧ w' = w := by
  refine callsD_of_wpS Tryz.func109 rfl fun c₀ cs hu => ?_
  apply wpS_seq
  apply wpS_region
  simp [wpOpsS, go_sem, recoverD, hu, Tryz.ntmps109, Exit.thenS]
  refine wpS_cond (t := false) (by simp [Act.eval, Array.replicate]) ?_
  simp only [Bool.false_eq_true, if_false]
  refine wpS_of_wp (wp_skip ?_)
  cases c₀
  simp_all [bodyPostS, results, Tryz.results109]
end Go.Proofs.YtjkdonjcngmjeaaGreatDoor.sh
