/-
  General pieces, joined: CD CE CF CG SHM CH CI CJ CK CL CM CN CO CP DA DB DC.
-/
import Derived.Test.YtjkdonjcngmjeaaGreatDoorG14
import Derived.Recover
import Derived.Test.YtjkdonjcngmjeaaGreatDoorG08
import Derived.Test.YtjkdonjcngmjeaaGreatDoorG11
import Derived.Test.YtjkdonjcngmjeaaGreatDoorG09
import Derived.Test.YtjkdonjcngmjeaaGreatDoorG10
import Derived.Test.YtjkdonjcngmjeaaGreatDoorG12
import Derived.Test.YtjkdonjcngmjeaaGreatDoorG13
import Derived.Shelf.Strings.Repeat
import Derived.Shelf.Small.Wraps
import Derived.Shelf.Strings.Trim
/-
  Texts as one: codec.Join.
-/
namespace Go.Proofs.YtjkdonjcngmjeaaGreatDoor.sh
open Go Go.RowKit
set_option linter.unusedVariables false
set_option linter.unusedSimpArgs false

/-- What Join answers: bytes, an error's number. -/
def joinS (k : Nat) (ll : List (List Nat)) : List Nat := if Fits ll then joinL k ll else []
def joinE (ll : List (List Nat)) : Nat := if Fits ll then 0 else 3
theorem joinS_fits {k : Nat} {ll : List (List Nat)} (h : Fits ll) : joinS k ll = joinL k ll := if_pos h
theorem joinE_fits {ll : List (List Nat)} (h : Fits ll) : joinE ll = 0 := if_pos h
theorem joinS_not {k : Nat} {ll : List (List Nat)} (h : ¬ Fits ll) : joinS k ll = [] := if_neg h
theorem joinE_not {ll : List (List Nat)} (h : ¬ Fits ll) : joinE ll = 3 := if_neg h
theorem run_shr8 {o : Oper} {a : Act} {x : Operand} {m z : Nat} {u : TypeId} (ho : o.op = .binOp .shr 3 x (.const (.int .u64 8)) u) (hx : a.eval x = .int .i64 (m : Int)) (hz : z = m / 256) (hm : m < 4611686018427387904) (w : World) : (execOp a.eval o).run Tryz.prog w = .ok (.value (.int .i64 (z : Int))) w := by
  have e3 : a.eval (.const (.int .u64 8)) = .int .u64 8 := rfl
  have h3 : (m : Int) / 256 = (z : Int) := by omega
  unfold execOp
  simp only [ho, hx, e3]
  simp [go_sem, Op.shift, IntKind.bits, IntKind.wrap_i64, wrap64, Int.fdiv_eq_ediv_of_nonneg _ (show (0 : Int) ≤ 256 by decide), h3]
  try omega
set_option maxRecDepth 100000 in
set_option maxHeartbeats 2000000 in
theorem JoinD {k : Nat} {ll : List (List Nat)} {v : Value} {w : World} (hk : k < 256) (hv : ValsV v w (strs ll)) (hl : ∀ l ∈ ll, Bytes l ∧ l.length ≤ maxLen) :
    Calls Tryz.prog 64 #[.int .u8 (k : Int), v] w fun e w' => e = .returned (.tuple #[.string (strOf (joinS k ll)), .int .i64 (joinE ll : Int)]) ∧ Below w.heap.size w w' := by
  have KS : Kept (∀ w2, Below w.heap.size w w2 → Calls Tryz.prog 97 #[v] w2 fun e w' => (∃ n : Nat, e = .returned (.tuple #[.int .i64 (n : Int), .bool (decide (Fits ll))]) ∧ (Fits ll → n = (itemsL ll).length + 3)) ∧ w' = w2) := ⟨fun w2 h => sizeOfD (hv.under h) fun l hm => (hl l hm).2⟩
  by_cases hF : Fits ll
  · rw [joinS_fits hF, joinE_fits hF]
    rw [decide_eq_true hF] at KS
    have HJ : Kept (Bytes (joinL k ll)) := ⟨joinL_bytes hk (fun l hm => (hl l hm).1) hF⟩
    have HF : Kept _ := ⟨hF⟩
    have hn255 : ll.length ≤ 255 := hF.1
    obtain ⟨p, c, rfl, hc⟩ := vals_form hv (strs_len ll)
    obtain ⟨n, hn⟩ : ∃ n, n = ll.length := ⟨_, rfl⟩
    rw [← hn] at hv hc KS hn255 ⊢
    obtain ⟨J, hJ⟩ : ∃ J, J = joinL k ll := ⟨_, rfl⟩
    rw [← hJ] at HJ ⊢
    have EJ : Kept _ := ⟨hJ⟩
    have HN : Kept _ := ⟨hn⟩
    have HV : Kept _ := ⟨hv⟩
    have HL : Kept _ := ⟨hl⟩
    clear hJ hn hv hl hF
    go_enter Tryz.func64, Tryz.ntmps64
    go_wp2_with fail
    refine (KS.out _ (Below.refl _ _)).mono ?_
    rintro e w1 ⟨⟨m, rfl, hm⟩, hw1⟩
    obtain rfl := hw1.symm
    have hm' := hm HF.out
    have hmB : m ≤ 281474976710656 := by have := HF.out.2.2; omega
    clear hm hm' KS
    go_wp2_with fail
    refine (bGrow w (Nat.le_refl _) hmB).mono ?_
    rintro e w2 ⟨rfl, b2, q2⟩
    clear hmB
    go_wp2_with fail
    refine (bByte (c := 1) b2 (by decide) q2.size).mono ?_
    rintro e w3 ⟨rfl, b3, q3⟩
    replace q3 := q2.trans q3
    clear b2 q2
    go_wp2_with fail
    refine (bByte (c := k) b3 (by simp) q3.size).mono ?_
    rintro e w4 ⟨rfl, b4, q4⟩
    replace q4 := q3.trans q4
    clear b3 q3
    have n256 : n < 256 := by omega
    go_wp2_with (first | ((with_reducible refine wv_val (d := 25) ?hd ?hw (.int .u8 (n : Int)) ?hr ?_); (case hd => rfl); (case hw => kernel_rfl); (case hr => intro w; exact run_c38 rfl (by kernel_rfl) n256 w); simp only [Act.put, List.setIfInBounds_toArray, List.set_cons_succ, List.set_cons_zero]))
    refine (bByte (c := n) b4 (by simp) q4.size).mono ?_
    rintro e w5 ⟨rfl, b5, q5⟩
    replace q5 := q4.trans q5
    have b5' : Bld w.heap.size w.heap.size (1 :: k :: n :: itemsL (ll.take 0)) w5 := by simpa [itemsL] using b5
    clear b4 q4 b5
    go_wp2_with fail
    go_loopg [29] n (fun g s29 wr => ∃ i : Nat, i + g = n ∧ s29 = .int .i64 (i : Int) ∧ Bld w.heap.size w.heap.size (1 :: k :: n :: itemsL (ll.take i)) wr ∧ Below w.heap.size w wr)
    case atStart => exact ⟨0, by omega, rfl, b5', q5⟩
    case round =>
      rename World => wz
      obtain ⟨i, hik, rfl, bi, qi⟩ := hrel
      clear b5' q5
      by_cases hk0 : gk = 0
      · obtain rfl : n = i := by omega
        have e1 : (1 :: k :: n :: itemsL (ll.take n)) = J := by rw [EJ.out, List.take_of_length_le (by rw [← HN.out]; exact Nat.le_refl _)]; unfold joinL; rw [← HN.out]
        rw [e1] at bi
        clear e1
        go_wp2_with fail
        refine (bString bi HJ.out qi.size).mono ?_
        rintro e w6 ⟨rfl, q6⟩
        go_wp2_with fail
        go_ret2
        exact ⟨rfl, qi.trans q6⟩
      · have hin : i < n := by omega
        have hin' : (i : Int) < (n : Int) := by omega
        obtain ⟨l, h1, h2, h3⟩ := strs_put (show i < ll.length by rw [← HN.out]; exact hin)
        obtain ⟨A, rfl, hA, hcell⟩ := vals_at (HV.out.under qi) h2
        have KC : Kept _ := ⟨hcell⟩
        obtain ⟨z, hz⟩ : ∃ z, z = l.length := ⟨_, rfl⟩
        have KZ : Kept _ := ⟨hz⟩
        have KL : Kept _ := ⟨h1⟩
        have hm := items_takeB (ll := ll) (i := i) (by omega) (fun x hx => HF.out.2.1 x (List.mem_of_mem_take hx))
        have hz4 : z ≤ 4000 := by rw [hz]; exact HF.out.2.1 l h3
        have hlB : Kept (Bytes l) := ⟨(HL.out l h3).1⟩
        have KI : Kept (itemsL (ll.take (i + 1)) = itemsL (ll.take i) ++ itemL l) := ⟨items_take h1⟩
        obtain ⟨x, hx⟩ : ∃ x, x = z / 256 := ⟨_, rfl⟩
        obtain ⟨y, hy⟩ : ∃ y, y = z % 256 := ⟨_, rfl⟩
        have KI2 : Kept (itemL l = x :: y :: l) := ⟨by unfold itemL; rw [← hz, hx, hy]⟩
        have KX : Kept _ := ⟨hx⟩
        have KY : Kept _ := ⟨hy⟩
        have hx8 : x < 256 := by omega
        have hz62 : z < 4611686018427387904 := by omega
        obtain ⟨T, hT⟩ : ∃ T, T = itemsL (ll.take i) := ⟨_, rfl⟩
        rw [← hT] at bi hm KI
        clear h1 h2 h3 hcell hz hx hy hT
        go_wp2_with (first | ((with_reducible refine wv_val (d := 31) ?hd ?hw (.pointer (some (A.add i))) ?hr ?_); (case hd => rfl); (case hw => kernel_rfl); (case hr => intro w; exact run_idxS rfl (by kernel_rfl) (by kernel_rfl) Tryz.underlying43 hin Tryz.sizeOf9 w); simp only [Act.put, List.setIfInBounds_toArray, List.set_cons_succ, List.set_cons_zero]) | ((with_reducible refine wv_elem (d := 32) ?hd ?hw 9 ag_str (.tmp 31) ?ho (A.add i) ?hx (.string (strOf l)) ?hc ?_); (case hd => rfl); (case hw => kernel_rfl); (case ho => rfl); (case hx => kernel_rfl); (case hc => exact KC.out); simp only [Act.put, List.setIfInBounds_toArray, List.set_cons_succ, List.set_cons_zero]) | ((with_reducible refine wv_val (d := 34) ?hd ?hw (.int .i64 (z : Int)) ?hr ?_); (case hd => rfl); (case hw => kernel_rfl); (case hr => intro w; exact run_slen rfl (by kernel_rfl) KZ.out w); simp only [Act.put, List.setIfInBounds_toArray, List.set_cons_succ, List.set_cons_zero]) | ((with_reducible refine wv_val (d := 35) ?hd ?hw (.int .i64 (x : Int)) ?hr ?_); (case hd => rfl); (case hw => kernel_rfl); (case hr => intro w; exact run_shr8 rfl (by kernel_rfl) KX.out hz62 w); simp only [Act.put, List.setIfInBounds_toArray, List.set_cons_succ, List.set_cons_zero]) | ((with_reducible refine wv_val (d := 36) ?hd ?hw (.int .u8 (x : Int)) ?hr ?_); (case hd => rfl); (case hw => kernel_rfl); (case hr => intro w; exact run_c38 rfl (by kernel_rfl) hx8 w); simp only [Act.put, List.setIfInBounds_toArray, List.set_cons_succ, List.set_cons_zero]))
        refine (bByte (c := x) bi (by simp; omega) qi.size).mono ?_
        rintro e w6 ⟨rfl, b6, q6⟩
        replace q6 := qi.trans q6
        clear bi qi KC
        go_wp2_with (first | ((with_reducible refine wv_val (d := 39) ?hd ?hw (.int .i64 (z : Int)) ?hr ?_); (case hd => rfl); (case hw => kernel_rfl); (case hr => intro w; exact run_slen rfl (by kernel_rfl) KZ.out w); simp only [Act.put, List.setIfInBounds_toArray, List.set_cons_succ, List.set_cons_zero]) | ((with_reducible refine wv_val (d := 40) ?hd ?hw (.int .u8 (y : Int)) ?hr ?_); (case hd => rfl); (case hw => kernel_rfl); (case hr => intro w; exact run_conv38 rfl (by kernel_rfl) KY.out w); simp only [Act.put, List.setIfInBounds_toArray, List.set_cons_succ, List.set_cons_zero]))
        refine (bByte (c := y) b6 (by simp; omega) q6.size).mono ?_
        rintro e w7 ⟨rfl, b7, q7⟩
        replace q7 := q6.trans q7
        clear b6 q6
        go_wp2_with fail
        refine (bStr b7 hlB.out (by simp; have := KZ.out; omega) q7.size).mono ?_
        rintro e w8 ⟨⟨r8, rfl⟩, b8, q8⟩
        replace q8 := q7.trans q8
        have e8 : (1 :: k :: n :: T) ++ [x] ++ [y] ++ l = 1 :: k :: n :: itemsL (ll.take (i + 1)) := by rw [KI.out, KI2.out]; simp
        rw [e8] at b8
        clear b7 q7 e8
        go_wp2_with fail
        go_roundg (gk - 1)
        case measure => omega
        case rel => exact ⟨i + 1, by omega, by simp, b8, q8⟩
  · rw [joinS_not hF, joinE_not hF]
    rw [decide_eq_false hF] at KS
    clear hv hl
    go_enter Tryz.func64, Tryz.ntmps64
    go_wp2_with fail
    refine (KS.out _ (Below.refl _ _)).mono ?_
    rintro e w1 ⟨⟨m, rfl, hm⟩, hw1⟩
    obtain rfl := hw1.symm
    clear hm
    go_wp2_with fail
    go_ret2
    exact ⟨rfl, Below.refl _ _⟩
end Go.Proofs.YtjkdonjcngmjeaaGreatDoor.sh
/-
  What goes through a text: bytes, number, text; where it is too short they panic.
-/
namespace Go.Proofs.YtjkdonjcngmjeaaGreatDoor.sh
open Go Go.RowKit
set_option linter.unusedVariables false
set_option linter.unusedSimpArgs false

section
variable {ops : Array Oper} {rest : List Oper} {o : Oper} {a : Act} {w : World} {Q : Exit → Act → World → Prop}
/-- A cell is written, whatever value of one cell it gets. -/
theorem wl_set1 (hgd : o.guard = none) (e : TypeId) (sz : ∀ w, (sizeOf e).run Tryz.prog w = .ok 1 w) (x y : Operand) (ho : o.op = .store e x y) (g k : Nat) (v : Value) (hx : a.eval x = .pointer (some ⟨g, k, none⟩)) (hy : a.eval y = v) (h1 : v.oneCell' = true) {t : TypeId} (A : Array Value)
    (hg : Blk w g t A) (hk : k < A.size) (h : ∀ w', Blk w' g t (A.setIfInBounds k v) → Put w w' g → wpList Tryz.prog ops Q rest (a.put o.dst undef) w') : wpList Tryz.prog ops Q (o :: rest) a w :=
  wpList_plain hgd fun K hK => by
    have hc : w.cell? ⟨g, k, none⟩ = some A[k] := cell_row hg (Array.getElem?_eq_getElem hk)
    have hf : w.frozen? ⟨g, k, none⟩ = false := frozen_of_row w g k A _ hg
    have hv : v.cells = #[v] := by cases v <;> simp_all [Value.oneCell', Value.cells]
    have hv' := hv
    unfold Value.cells at hv'
    have hrun : (execOp a.eval o).run Tryz.prog w = .ok .skip (w.setCell ⟨g, k, none⟩ v) := by
      unfold execOp
      simp only [ho, hx, hy, Instr.storeAt, Instr.sureAddr, Sem.run_bind, Sem.run_pure, Result.andThen_ok]
      simp [storeVar, storeCells, sz, go_sem, hc, hf, hv']
      rw [run_store _ _ _ _ _ h1, hc]
      simp [hf]
    unfold Oper.wp
    rw [hrun]
    exact hK _ _ (h _ (heap_setCell_same _ _ _ _ _ _ hg) ⟨⟨rfl, rfl, rfl, by simp, fun j _ hj => heap_setCell_other w ⟨g, k, none⟩ j _ (fun e => hj (by rw [e]))⟩, by simp⟩)
end
/-- A text that is gone through, in a block. -/
def Wk (b : Nat) (l : List Nat) (w : World) : Prop := Blk w b 175 #[.string (strOf l)]

theorem Wk.under {b : Nat} {l : List Nat} {w w' : World} (h : Wk b l w) (hb : Below w.heap.size w w') : Wk b l w' := Blk.under h hb

end Go.Proofs.YtjkdonjcngmjeaaGreatDoor.sh
/-
  A region that draws its order, order by order: what may come first, each carried out as in a plain region.
-/
namespace Go.Proofs.YtjkdonjcngmjeaaGreatDoor.sh
open Go Go.RowKit
set_option linter.unusedVariables false
set_option linter.unusedSimpArgs false

section
variable {P : Program} {ops : Array Oper} {Q : Exit → Act → World → Prop} {a : Act} {w : World}
end

section
variable {P : Program} {ops : Array Oper} {Q : Exit → Act → World → Prop} {a : Act} {w : World} {rest : List Oper} {o : Oper}
end
end Go.Proofs.YtjkdonjcngmjeaaGreatDoor.sh
/-
  codec.apart: what its deferred function does, of a panic and without one.
-/
namespace Go.Proofs.YtjkdonjcngmjeaaGreatDoor.sh
open Go Go.RowKit
set_option linter.unusedVariables false
set_option linter.unusedSimpArgs false

end Go.Proofs.YtjkdonjcngmjeaaGreatDoor.sh
/-
  A region that draws its order, in which stores may stand that change nothing (each writes what the cell holds).
-/
namespace Go.Proofs.YtjkdonjcngmjeaaGreatDoor.sh
open Go Go.RowKit
set_option linter.unusedVariables false
set_option linter.unusedSimpArgs false

end Go.Proofs.YtjkdonjcngmjeaaGreatDoor.sh
/-
  codec.apart: what a text says, or that it says nothing.
-/
namespace Go.Proofs.YtjkdonjcngmjeaaGreatDoor.sh
open Go Go.RowKit
set_option linter.unusedVariables false
set_option linter.unusedSimpArgs false

/-- What lies in memory while a text is gone through. -/
structure AS (w0 : World) (k : Nat) (v : Value) (ll : List (List Nat)) (rest : List Nat) (w : World) : Prop where
  kind : Blk w w0.heap.size 5 #[.int .u8 (k : Int)]
  list : Blk w (w0.heap.size + 1) 43 #[v]
  ok : Blk w (w0.heap.size + 2) 4 #[.bool false]
  wk : Wk (w0.heap.size + 3) rest w
  row : VRow (w0.heap.size + 4) 9 (strs ll) v w
  below : Below w0.heap.size w0 w
  size : w0.heap.size + 4 ≤ w.heap.size
theorem AS.drew {w0 : World} {k : Nat} {v : Value} {ll : List (List Nat)} {rest : List Nat} {w : World} (h : AS w0 k v ll rest w) : AS w0 k v ll rest { w with drawn := w.drawn + 1 } := ⟨h.kind, h.list, h.ok, h.wk, h.row, h.below.drew, h.size⟩
theorem sz_strs : ∀ w, (sizeOf 43).run Tryz.prog w = .ok 1 w := Tryz.sizeOf43
theorem ag_strs : ∀ w, (isAgg 43).run Tryz.prog w = .ok false w := Tryz.isAgg43
/-- What is told of a text that says something. -/
def Told (b : Nat) (s : List Nat) (K V : Value) (w : World) : Prop := ∀ k ll, splitL s = some (k, ll) → K = .int .u8 (k : Int) ∧ VRow b 9 (strs ll) V w
def APost (b : Nat) (w0 : World) (s : List Nat) (O : Bool) (e : Ending) (w : World) : Prop := (∃ K V, e = .returned (.tuple #[K, V, .bool O]) ∧ Told b s K V w) ∧ Below w0.heap.size w0 w

end Go.Proofs.YtjkdonjcngmjeaaGreatDoor.sh
/-
  codec.apart, of a text of three bytes or more.
-/
namespace Go.Proofs.YtjkdonjcngmjeaaGreatDoor.sh
open Go Go.RowKit
set_option linter.unusedVariables false
set_option linter.unusedSimpArgs false

theorem inf_str : (Tryz.prog.info? 9).map (fun i => (i.zero, i.size, i.bytes)) = some (some (.string .empty), 1, 16) := by kernel_rfl
theorem wl_build1S {ops : Array Oper} {rest : List Oper} {o : Oper} {a : Act} {w : World} {Q : Exit → Act → World → Prop} (hg : o.guard = none) (x : Operand) (ho : o.op = .buildSlice 43 1 #[(0, x)]) (s : List Nat) (hx : a.eval x = .string (strOf s))
    (h : wpList Tryz.prog ops Q rest (a.put o.dst (.slice (some ⟨w.heap.size, 0, none⟩) 1 1)) (w.alloc (.cells #[.string (strOf s)] 9))) : wpList Tryz.prog ops Q (o :: rest) a w := by
  obtain ⟨ie, hie, hz0, hz1, _⟩ := info_parts inf_str
  have hf := Great.fill_whole (s := 1) (by decide) [Value.string (strOf s)] ((Array.range (1 * 1)).map ((Value.string .empty).cells[· % (Value.string .empty).cells.size]!)) (fun v hv => by simp at hv; subst hv; rfl) (by simp)
  refine wpList_buildSlice hg 43 9 1 #[(0, x)] ho _ ie _ Tryz.underlying43 hie hz0 (by rw [hz1]; decide) (by rw [hz1]; decide) ?_ h
  rw [hz1]
  simpa [hx, Value.cells] using hf
theorem AS.under {w0 : World} {k : Nat} {v : Value} {ll : List (List Nat)} {rest : List Nat} {w w' : World} (h : AS w0 k v ll rest w) (hb : Below w.heap.size w w') : AS w0 k v ll rest w' :=
  ⟨h.kind.under hb, h.list.under hb, h.ok.under hb, h.wk.under hb, h.row.under hb, h.below.trans (hb.mono (by have := h.size; omega)), Nat.le_trans h.size hb.size⟩
theorem blk_grown {w w' : World} {r : Option Nat} {k : Nat} {t : TypeId} {A : Array Value} (h : w.grownBy w' r) (hk : Blk w k t A) (hne : some k ≠ r) : Blk w' k t A := (h.block k hk.lt hne).trans hk
theorem AS.fin {w0 : World} {k : Nat} {v : Value} {done : List (List Nat)} {s rest : List Nat} {O o : Bool} {wz w5 w6 : World} (h : AS w0 k v done rest wz) (h5 : Below wz.heap.size wz w5) (hb : Blk w6 (w0.heap.size + 2) 4 #[.bool o]) (hp : Put w5 w6 (w0.heap.size + 2)) (hO : O = o) (hs : ∀ k' ll, splitL s = some (k', ll) → k' = k ∧ ll = done) : APost (w0.heap.size + 4) w0 s O (.returned (.tuple #[.int .u8 (k : Int), v, .bool o])) w6 := by
  have h1 := h.under h5
  refine ⟨⟨_, _, by rw [hO], fun k' ll e => ?_⟩, h1.below.trans (hp.below (by omega))⟩
  obtain ⟨rfl, rfl⟩ := hs k' ll e
  refine ⟨rfl, h1.row.keeps hp.grown ?_⟩
  cases hb' : blkOf v with
  | none => exact .inl rfl
  | some b =>
    have := (h1.row.range b hb').1
    exact .inr (fun e => by cases e; omega)
end Go.Proofs.YtjkdonjcngmjeaaGreatDoor.sh
/-
  codec.Split, codec.Take.
-/
namespace Go.Proofs.YtjkdonjcngmjeaaGreatDoor.sh
open Go Go.RowKit
set_option linter.unusedVariables false
set_option linter.unusedSimpArgs false

theorem run_neI {o : Oper} {a : Act} {x y : Operand} {m n : Int} {b : Bool} (ho : o.op = .binOp .neq 3 x y 3) (hx : a.eval x = .int .i64 m) (hy : a.eval y = .int .i64 n) (hb : b = !decide (m = n)) (w : World) : (execOp a.eval o).run Tryz.prog w = .ok (.value (.bool b)) w := by
  unfold execOp
  simp only [ho, hx, hy]
  rw [hb]
  by_cases h : m = n
  · subst h; simp [go_sem]
  · have h2 : ¬ (m : Int) = (n : Int) := by omega
    simp [go_sem, h, h2]
end Go.Proofs.YtjkdonjcngmjeaaGreatDoor.sh
/-
  codec.Num, codec.Read.
-/
namespace Go.Proofs.YtjkdonjcngmjeaaGreatDoor.sh
open Go Go.RowKit
set_option linter.unusedVariables false
set_option linter.unusedSimpArgs false

section
variable {ops : Array Oper} {rest : List Oper} {o : Oper} {a : Act} {w : World} {Q : Exit → Act → World → Prop} {d : Nat}
/-- A value, in this world. -/
theorem wv_valW (hd : o.dst = some d) (hw : Region.wanted o (yielded ops a.tmps) = true) (v : Value) (hrun : (execOp a.eval o).run Tryz.prog w = .ok (.value v) w) (h : wpList Tryz.prog ops Q rest (a.put o.dst v) w) : wpList Tryz.prog ops Q (o :: rest) a w :=
  BigFrame.wpList_want hw fun K hK => by
    unfold Oper.wp
    rw [hrun]
    exact hK _ _ h
end
theorem run_c64b {o : Oper} {a : Act} {x : Operand} {m z : Nat} (ho : o.op = .convert 22 5 x) (hx : a.eval x = .int .u64 (m : Int)) (hz : z = m % 256) (w : World) : (execOp a.eval o).run Tryz.prog w = .ok (.value (.int .u8 (z : Int))) w := by
  unfold execOp
  simp only [ho, hx]
  simp [go_sem, IntKind.wrap_u8', hz]
theorem run_shr8u {o : Oper} {a : Act} {x : Operand} {m z : Nat} {u : TypeId} (ho : o.op = .binOp .shr 22 x (.const (.int .u64 8)) u) (hx : a.eval x = .int .u64 (m : Int)) (hz : z = m / 256) (hm : m < 18446744073709551616) (w : World) : (execOp a.eval o).run Tryz.prog w = .ok (.value (.int .u64 (z : Int))) w := by
  have e3 : a.eval (.const (.int .u64 8)) = .int .u64 8 := rfl
  have h3 : (m : Int) / 256 = (z : Int) := by omega
  have h4 : (z : Int) % 18446744073709551616 = (z : Int) := by omega
  unfold execOp
  simp only [ho, hx, e3]
  simp [go_sem, Op.shift, IntKind.bits, IntKind.wrap_u64, Int.fdiv_eq_ediv_of_nonneg _ (show (0 : Int) ≤ 256 by decide), h3, h4]
theorem arr_fromV {o : Oper} {a : Act} {x y : Operand} {g n k : Nat} {p : Option Addr} {t e : TypeId} (ho : o.op = .slice t x (some y) none none) (hx : a.eval x = .pointer (some ⟨g, 0, none⟩)) (hy : a.eval y = .int .i64 (k : Int)) (ht : Tryz.prog.underlying t = some (.array n e)) (sz : ∀ w, (sizeOf e).run Tryz.prog w = .ok 1 w) (hn : k ≤ n) (hp : p = if n = k then some ⟨g, 0, none⟩ else some ⟨g, k, none⟩) (w : World) :
    (execOp a.eval o).run Tryz.prog w = .ok (.value (.slice p (n - k) (n - k))) w := by
  subst hp
  have h1 : ((k : Int) ≤ (n : Int)) := by omega
  unfold execOp
  simp only [ho, hx, hy, Option.map_none, Option.map_some, Instr.sliceAt, Instr.slice, Instr.sliceBounds, Sem.run_bind, run_underlying ht, Result.andThen_ok]
  simp [Instr.sliceBound, asIntOf, sz, go_sem, h1, hn, Addr.add]
  by_cases h0 : k = 0
  · subst h0
    split <;> rfl
  · simp [h0]
    split <;> rfl
theorem set_zero : ∀ (k z : Nat) (D : List Nat), (List.replicate (k + 1) 0 ++ D).set k z = List.replicate k 0 ++ (z :: D)
  | 0, z, D => by simp
  | k + 1, z, D => by
    rw [List.replicate_succ, List.cons_append, List.set_cons_succ, set_zero k z D, List.replicate_succ, List.cons_append]
theorem z8_cells : (#[.int .u8 0, .int .u8 0, .int .u8 0, .int .u8 0, .int .u8 0, .int .u8 0, .int .u8 0, .int .u8 0] : Array Value) = ints .u8 (List.replicate 8 0 ++ []) := by kernel_rfl

set_option maxRecDepth 100000 in
set_option maxHeartbeats 1000000 in
theorem NumD {n : Nat} {w : World} (hn : n < 18446744073709551616) :
    Calls Tryz.prog 25 #[.int .u64 (n : Int)] w fun e w' => e = .returned (.string (strOf (numL n))) ∧ Below w.heap.size w w' := by
  obtain ⟨R, hR⟩ : ∃ R, R = numL n := ⟨_, rfl⟩
  rw [← hR]
  have E0 : Kept ((#[.int .u8 0, .int .u8 0, .int .u8 0, .int .u8 0, .int .u8 0, .int .u8 0, .int .u8 0, .int .u8 0] : Array Value) = ints .u8 (List.replicate 8 0 ++ [])) := ⟨z8_cells⟩
  have A0 : Blk (w.alloc (.cells #[.int .u8 0, .int .u8 0, .int .u8 0, .int .u8 0, .int .u8 0, .int .u8 0, .int .u8 0, .int .u8 0] 95)) w.heap.size 95 (ints .u8 (List.replicate 8 0 ++ [])) := by rw [E0.out]; exact blk_new w _ _
  have Q0 : Below w.heap.size w (w.alloc (.cells #[.int .u8 0, .int .u8 0, .int .u8 0, .int .u8 0, .int .u8 0, .int .u8 0, .int .u8 0, .int .u8 0] 95)) := (Below.refl _ _).alloc (Nat.le_refl _) _
  have KR : Kept (numT n 8 ++ [] = R) := ⟨by rw [hR, List.append_nil]; rfl⟩
  clear hR
  go_enter Tryz.func25, Tryz.ntmps25
  go_wp2_with fail
  generalize hW : w.alloc (.cells #[.int .u8 0, .int .u8 0, .int .u8 0, .int .u8 0, .int .u8 0, .int .u8 0, .int .u8 0, .int .u8 0] 95) = wa at *
  clear hW E0
  go_loopg [0, 4] 8 (fun k s0 s4 wr => ∃ (m : Nat) (D : List Nat), s0 = .int .u64 (m : Int) ∧ s4 = .int .i64 (k : Int) ∧ k ≤ 8 ∧ m < 18446744073709551616 ∧ Kept (m < 256 ^ k ∧ D.length + k = 8 ∧ Bytes D ∧ numT m k ++ D = R) ∧ Below w.heap.size w wr ∧ Blk wr w.heap.size 95 (ints .u8 (List.replicate k 0 ++ D)))
  case atStart => exact ⟨n, [], rfl, rfl, Nat.le_refl _, hn, ⟨hn, rfl, nil_bytes, KR.out⟩, Q0, A0⟩
  case round =>
    rename World => wz
    obtain ⟨m, D, rfl, rfl, hk8, hm, KD, HB, AZ⟩ := hrel
    clear A0 Q0 KR
    by_cases hm0 : m = 0
    case pos =>
      subst hm0
      have h0 : ¬ (0 : Int) < ((0 : Nat) : Int) := by omega
      have eD : Kept (D = R) := ⟨by have := KD.out.2.2.2; rwa [numT_zero, List.nil_append] at this⟩
      obtain ⟨p, hp⟩ : ∃ p : Option Addr, p = if 8 = gk then some ⟨w.heap.size, 0, none⟩ else some ⟨w.heap.size, gk, none⟩ := ⟨_, rfl⟩
      have KPP : Kept _ := ⟨hp⟩
      have sl : Kept (IntsV .u8 (.slice p (8 - gk) (8 - gk)) wz R) := ⟨by
        have hDl : D.length = 8 - gk := by have := KD.out.2.1; omega
        refine ⟨_, 8 - gk, by rw [← eD.out, hDl], by rw [← eD.out, hDl]; exact Nat.le_refl _, fun hne => ?_⟩
        have hg8 : ¬ 8 = gk := fun h => hne (List.eq_nil_of_length_eq_zero (by rw [← eD.out, hDl]; omega))
        refine ⟨⟨w.heap.size, gk, none⟩, by rw [hp, if_neg hg8], AZ.lt, fun j x hx => ?_⟩
        rw [addr_add]
        refine AZ.cell (ints_get ?_)
        rw [List.getElem?_append_right (by rw [List.length_replicate]; omega), List.length_replicate, show gk + j - gk = j by omega, eD.out]
        exact hx⟩
      clear hp
      go_wp2_with (first | ((with_reducible refine wv_val (d := 16) ?hd ?hw (.slice p (8 - gk) (8 - gk)) ?hr ?_); (case hd => rfl); (case hw => kernel_rfl); (case hr => intro w; exact arr_fromV rfl (by kernel_rfl) (by kernel_rfl) Tryz.underlying95 sz_u8 hk8 KPP.out w); simp only [Act.put, List.setIfInBounds_toArray, List.set_cons_succ, List.set_cons_zero]) | ((with_reducible refine wv_valW (d := 17) ?hd ?hw (.string (strOf R)) ?hr ?_); (case hd => rfl); (case hw => kernel_rfl); (case hr => exact run_str rfl (by kernel_rfl) sl.out); simp only [Act.put, List.setIfInBounds_toArray, List.set_cons_succ, List.set_cons_zero]))
      go_ret
      exact ⟨rfl, HB⟩
    case neg =>
      have h0 : (0 : Int) < (m : Int) := by omega
      obtain ⟨k, hk⟩ : ∃ k, gk = k + 1 := by
        cases gk with
        | zero => have := KD.out.1; simp at this; omega
        | succ k => exact ⟨k, rfl⟩
      obtain ⟨z, hz⟩ : ∃ z, z = m % 256 := ⟨_, rfl⟩
      obtain ⟨m2, hm2⟩ : ∃ m2, m2 = m / 256 := ⟨_, rfl⟩
      have KZ : Kept _ := ⟨hz⟩
      have K2 : Kept _ := ⟨hm2⟩
      have K1 : Kept (gk = k + 1) := ⟨hk⟩
      have hk7 : k < 8 := by omega
      have hm2' : m2 < 18446744073709551616 := by omega
      have EB : Kept ((ints .u8 (List.replicate gk 0 ++ D)).setIfInBounds k (.int .u8 (z : Int)) = ints .u8 (List.replicate k 0 ++ (z :: D))) := ⟨by rw [ints_set, hk, set_zero]⟩
      have SB : k < (ints .u8 (List.replicate gk 0 ++ D)).size := by rw [ints_size, List.length_append, List.length_replicate]; omega
      have KD2 : Kept (m2 < 256 ^ k ∧ (z :: D).length + k = 8 ∧ Bytes (z :: D) ∧ numT m2 k ++ (z :: D) = R) := ⟨by
        obtain ⟨d1, d2, d3, d4⟩ := KD.out
        rw [hk, Nat.pow_succ] at d1
        refine ⟨by omega, by rw [List.length_cons]; omega, (bytes_of_all (fun y hy => by simp at hy; omega) : Bytes [z]).append d3, ?_⟩
        rw [← d4, hk]
        show _ = (if m = 0 then [] else numT (m / 256) k ++ [m % 256]) ++ D
        rw [if_neg hm0, hm2, hz, List.append_assoc]
        rfl⟩
      clear hz hm2 hk hm0 KD
      go_wp2_with (first | ((with_reducible refine wv_val (d := 10) ?hd ?hw (.int .i64 (k : Int)) ?hr ?_); (case hd => rfl); (case hw => kernel_rfl); (case hr => intro w; exact run_subZ 1 rfl (by kernel_rfl) K1.out (by omega) w); simp only [Act.put, List.setIfInBounds_toArray, List.set_cons_succ, List.set_cons_zero]) | ((with_reducible refine wv_val (d := 13) ?hd ?hw (.int .u8 (z : Int)) ?hr ?_); (case hd => rfl); (case hw => kernel_rfl); (case hr => intro w; exact run_c64b rfl (by kernel_rfl) KZ.out w); simp only [Act.put, List.setIfInBounds_toArray, List.set_cons_succ, List.set_cons_zero]) | ((with_reducible refine wv_val (d := 14) ?hd ?hw (.pointer (some ⟨w.heap.size, k, none⟩)) ?hr ?_); (case hd => rfl); (case hw => kernel_rfl); (case hr => intro w; exact run_idx rfl (by kernel_rfl) (by kernel_rfl) Tryz.underlying95 hk7 sz_u8 w); simp only [Act.put, List.setIfInBounds_toArray, List.set_cons_succ, List.set_cons_zero]) | (refine wl_setElem rfl 5 sz_u8 (.tmp 14) (.tmp 13) rfl w.heap.size k .u8 (z : Int) rfl rfl _ AZ SB ?_))
      intro w4 A4 P4
      rw [EB.out] at A4
      have HB4 := HB.trans (P4.below (Nat.le_refl _))
      clear AZ HB P4 SB EB
      go_wp2_with (first | ((with_reducible refine wv_val (d := 8) ?hd ?hw (.int .u64 (m2 : Int)) ?hr ?_); (case hd => rfl); (case hw => kernel_rfl); (case hr => intro w; exact run_shr8u rfl (by kernel_rfl) K2.out hm w); simp only [Act.put, List.setIfInBounds_toArray, List.set_cons_succ, List.set_cons_zero]))
      go_roundg k
      case measure => have := K1.out; omega
      case rel => exact ⟨m2, z :: D, rfl, rfl, by omega, hm2', KD2, HB4, A4⟩

/-- What Read answers. -/
def Reads (s : List Nat) : Prop := s.length ≤ 8 ∧ s.head? ≠ some 0
instance decReads (s : List Nat) : Decidable (Reads s) := inferInstanceAs (Decidable (_ ∧ _))
end Go.Proofs.YtjkdonjcngmjeaaGreatDoor.sh
/-
  The reference's Same, Num, Read.
-/
namespace Go.Proofs.YtjkdonjcngmjeaaGreatDoor.sh
open Go Go.RowKit
set_option linter.unusedVariables false
set_option linter.unusedSimpArgs false

end Go.Proofs.YtjkdonjcngmjeaaGreatDoor.sh
/-
  The reference's Join.
-/
namespace Go.Proofs.YtjkdonjcngmjeaaGreatDoor.sh
open Go Go.RowKit
set_option linter.unusedVariables false
set_option linter.unusedSimpArgs false

section
variable {h : List Oper} {A0 A : Act} {W0 : World} {S : Nat → Option (Value → World → Prop)} {sp O : List Nat} {E : List (Nat × Nat)} {i : Nat} {o : Oper}
end
end Go.Proofs.YtjkdonjcngmjeaaGreatDoor.sh
/-
  The reference's Split.
-/
namespace Go.Proofs.YtjkdonjcngmjeaaGreatDoor.sh
open Go Go.RowKit
set_option linter.unusedVariables false
set_option linter.unusedSimpArgs false

end Go.Proofs.YtjkdonjcngmjeaaGreatDoor.sh
/-
  The statements' alive: answers that the document fixes.
-/
namespace Go.Proofs.YtjkdonjcngmjeaaGreatDoor.sh
open Go Go.RowKit
set_option linter.unusedVariables false
set_option linter.unusedSimpArgs false

def s8 : List Nat := [1, 7, 2, 0, 1, 97, 0, 0]
end Go.Proofs.YtjkdonjcngmjeaaGreatDoor.sh
/-
  What the statements of layer 8 take and compare; CodecKinds.
-/
namespace Go.Proofs.YtjkdonjcngmjeaaGreatDoor.sh
open Go Go.RowKit
set_option linter.unusedVariables false
set_option linter.unusedSimpArgs false

theorem run_eqII {o : Oper} {a : Act} {x y : Operand} {m n : Int} {b : Bool} (ho : o.op = .binOp .eql 3 x y 3) (hx : a.eval x = .int .i64 m) (hy : a.eval y = .int .i64 n) (hb : b = decide (m = n)) (w : World) : (execOp a.eval o).run Tryz.prog w = .ok (.value (.bool b)) w := by
  unfold execOp
  simp only [ho, hx, hy]
  rw [hb]
  by_cases h : m = n
  · subst h; simp [go_sem]
  · simp [go_sem, h]
theorem join_lenB {k : Nat} {ll : List (List Nat)} (hF : Fits ll) : (joinL k ll).length ≤ maxLen := by
  have := hF.2.2
  rw [joinL_len]
  unfold maxLen
  omega
end Go.Proofs.YtjkdonjcngmjeaaGreatDoor.sh
/-
  Terms as lists: names, what a table has, found, put, put together by two.
-/
namespace Go.Proofs.YtjkdonjcngmjeaaGreatDoor.sh
open Go Go.RowKit
set_option linter.unusedVariables false
set_option linter.unusedSimpArgs false

/-- A number's eight bytes, the highest first. -/
def bigL : Nat → Nat → List Nat
  | _, 0 => []
  | n, k + 1 => bigL (n / 256) k ++ [n % 256]
theorem bigL_len : ∀ (k n : Nat), (bigL n k).length = k
  | 0, _ => rfl
  | k + 1, n => by unfold bigL; rw [List.length_append, bigL_len k]; rfl
theorem bigL_bytes : ∀ (k n : Nat), Bytes (bigL n k)
  | 0, _ => nil_bytes
  | k + 1, n => by unfold bigL; exact (bigL_bytes k _).append (bytes_of_all (fun x hx => by simp at hx; omega))
theorem readT_bigL : ∀ (k n : Nat), n < 256 ^ k → readT (bigL n k) = n
  | 0, n, h => by simp at h; subst h; rfl
  | k + 1, n, h => by
    unfold bigL
    rw [readT_snoc, readT_bigL k (n / 256) (by rw [Nat.pow_succ] at h; omega)]
    omega
/-- The n-th name. -/
def termN (n : Nat) : List Nat := [116, 101, 114, 109] ++ List.replicate 20 0 ++ bigL n 8
theorem termN_len (n : Nat) : (termN n).length = 32 := by unfold termN; rw [List.length_append, bigL_len]; rfl
theorem termN_bytes (n : Nat) : Bytes (termN n) := by
  unfold termN
  exact (bytes_of_all (fun x hx => by
    rcases List.mem_append.1 hx with hx | hx
    · simp at hx; omega
    · have := List.eq_of_mem_replicate hx; omega)).append (bigL_bytes 8 n)
theorem termN_inj {n m : Nat} (hn : n < 18446744073709551616) (hm : m < 18446744073709551616) (h : termN n = termN m) : n = m := by
  have h1 := List.append_cancel_left h
  have h2 := congrArg readT h1
  rwa [readT_bigL 8 n hn, readT_bigL 8 m hm] at h2
/-- A term: its kind, its parts. -/
abbrev TermL := Nat × List (List Nat)
/-- What a list of terms is behind a term that is put, and its name. -/
def putL (ts : List TermL) (t : TermL) : List TermL × List Nat :=
  if Fits t.2 then (if t ∈ ts then (ts, termN (ts.idxOf t + 1)) else (ts ++ [t], termN (ts.length + 1))) else (ts, [])
theorem putL_not {ts : List TermL} {t : TermL} (h : ¬ Fits t.2) : putL ts t = (ts, []) := if_neg h
theorem putL_old {ts : List TermL} {t : TermL} (h : Fits t.2) (h2 : t ∈ ts) : putL ts t = (ts, termN (ts.idxOf t + 1)) := by unfold putL; rw [if_pos h, if_pos h2]
theorem putL_new {ts : List TermL} {t : TermL} (h : Fits t.2) (h2 : t ∉ ts) : putL ts t = (ts ++ [t], termN (ts.length + 1)) := by unfold putL; rw [if_pos h, if_neg h2]
/-- A list as tables have it: no term twice, each may be joined. -/
def Clean (ts : List TermL) : Prop := ts.Nodup ∧ ∀ t ∈ ts, Fits t.2
theorem clean_nil : Clean [] := ⟨List.nodup_nil, fun t h => by cases h⟩
theorem putL_clean {ts : List TermL} (h : Clean ts) (t : TermL) : Clean (putL ts t).1 := by
  by_cases hF : Fits t.2
  · by_cases hm : t ∈ ts
    · rw [putL_old hF hm]; exact h
    · rw [putL_new hF hm]
      refine ⟨List.nodup_append.2 ⟨h.1, by simp, fun a ha b hb => ?_⟩, fun x hx => ?_⟩
      · rw [List.mem_singleton] at hb
        subst hb
        exact fun e => hm (by rw [← e]; exact ha)
      · rcases List.mem_append.1 hx with hx | hx
        · exact h.2 x hx
        · rw [List.mem_singleton] at hx; rw [hx]; exact hF
  · rw [putL_not hF]; exact h
end Go.Proofs.YtjkdonjcngmjeaaGreatDoor.sh
/-
  Terms as lists: names that stay, acts one behind the other, what two secrets come to.
-/
namespace Go.Proofs.YtjkdonjcngmjeaaGreatDoor.sh
open Go Go.RowKit
set_option linter.unusedVariables false
set_option linter.unusedSimpArgs false

/-- An act. -/
structure ActL where
  kind : Nat
  a : Nat
  b : Nat
  n : Nat
  s : List Nat
  raw : Bool
/-- What terms a table has: of what kinds, of how many parts, of bytes. -/
def Formed (t : TermL) : Prop := (∀ p ∈ t.2, Bytes p) ∧ ((t.1 = 1 ∧ ∃ p, t.2 = [p]) ∨ (t.1 = 2 ∧ ∃ p, t.2 = [p]) ∨ (t.1 = 3 ∧ ∃ p q, t.2 = [p, q]) ∨ t.1 = 4 ∨ t.1 = 5)
def Terms (ts : List TermL) : Prop := Clean ts ∧ ∀ t ∈ ts, Formed t
theorem terms_nil : Terms [] := ⟨clean_nil, fun t h => by cases h⟩
theorem putL_terms {ts : List TermL} {t : TermL} (h : Terms ts) (ht : Formed t) : Terms (putL ts t).1 := by
  refine ⟨putL_clean h.1 t, ?_⟩
  by_cases hF : Fits t.2
  · by_cases hm : t ∈ ts
    · rw [putL_old hF hm]; exact h.2
    · rw [putL_new hF hm]
      intro x hx
      rcases List.mem_append.1 hx with hx | hx
      · exact h.2 x hx
      · rw [List.mem_singleton] at hx; rw [hx]; exact ht
  · rw [putL_not hF]; exact h.2
end Go.Proofs.YtjkdonjcngmjeaaGreatDoor.sh
/-
  The library's Repeat, CutPrefix and TrimLeft at one byte in this program: the shelf's contracts.
-/
namespace Go.Proofs.YtjkdonjcngmjeaaGreatDoor.sh
open Go Go.RowKit Go.Shelf
set_option linter.unusedVariables false
set_option linter.unusedSimpArgs false

theorem lay105 : Lays.n105 Tryz.prog ren := { mixed := by kernel_rfl, f99 := Tryz.func104.trans (congrArg some (by kernel_rfl)), f105 := Tryz.func102.trans (congrArg some (by kernel_rfl)), f165 := Tryz.func98.trans (congrArg some (by kernel_rfl)), f166 := Tryz.func100.trans (congrArg some (by kernel_rfl)), f169 := Tryz.func101.trans (congrArg some (by kernel_rfl)), f170 := Tryz.func129.trans (congrArg some (by kernel_rfl)), f206 := Tryz.func130.trans (congrArg some (by kernel_rfl)), f212 := Tryz.func128.trans (congrArg some (by kernel_rfl)), f240 := Tryz.func126.trans (congrArg some (by kernel_rfl)), f241 := Tryz.func127.trans (congrArg some (by kernel_rfl)), f263 := Tryz.func141.trans (congrArg some (by kernel_rfl)), f264 := Tryz.func137.trans (congrArg some (by kernel_rfl)), f276 := Tryz.func139.trans (congrArg some (by kernel_rfl)), f277 := Tryz.func140.trans (congrArg some (by kernel_rfl)), t0 := Tryz.underlying0, a0 := Tryz.isAgg0, z0 := Tryz.sizeOf0, v0 := Tryz.zeroValue0, t3 := Tryz.underlying3, a3 := Tryz.isAgg3, z3 := Tryz.sizeOf3, v3 := Tryz.zeroValue3, t4 := Tryz.underlying4, a4 := Tryz.isAgg4, z4 := Tryz.sizeOf4, v4 := Tryz.zeroValue4, t5 := Tryz.underlying5, a5 := Tryz.isAgg5, z5 := Tryz.sizeOf5, v5 := Tryz.zeroValue5, t9 := Tryz.underlying9, a9 := Tryz.isAgg9, z9 := Tryz.sizeOf9, v9 := Tryz.zeroValue9, t20 := Tryz.underlying20, a20 := Tryz.isAgg20, z20 := Tryz.sizeOf20, v20 := Tryz.zeroValue20, t37 := Tryz.underlying34, a37 := Tryz.isAgg34, z37 := Tryz.sizeOf34, v37 := Tryz.zeroValue34, t46 := Tryz.underlying96, a46 := Tryz.isAgg96, z46 := Tryz.sizeOf96, v46 := Tryz.zeroValue96, t51 := Tryz.underlying72, a51 := Tryz.isAgg72, z51 := Tryz.sizeOf72, v51 := Tryz.zeroValue72, t53 := Tryz.underlying22, a53 := Tryz.isAgg22, z53 := Tryz.sizeOf22, v53 := Tryz.zeroValue22, t70 := Tryz.underlying155, a70 := Tryz.isAgg155, z70 := Tryz.sizeOf155, v70 := Tryz.zeroValue155, t72 := Tryz.underlying157, a72 := Tryz.isAgg157, z72 := Tryz.sizeOf157, v72 := Tryz.zeroValue157, t75 := Tryz.underlying160, a75 := Tryz.isAgg160, z75 := Tryz.sizeOf160, v75 := Tryz.zeroValue160, t76 := Tryz.underlying162, a76 := Tryz.isAgg162, z76 := Tryz.sizeOf162, v76 := Tryz.zeroValue162, t109 := Tryz.underlying194, a109 := Tryz.isAgg194, z109 := Tryz.sizeOf194, v109 := Tryz.zeroValue194, t127 := Tryz.underlying193, a127 := Tryz.isAgg193, z127 := Tryz.sizeOf193, v127 := Tryz.zeroValue193, t146 := Tryz.underlying208, a146 := Tryz.isAgg208, z146 := Tryz.sizeOf208, v146 := Tryz.zeroValue208, t148 := Tryz.underlying179, a148 := Tryz.isAgg179, z148 := Tryz.sizeOf179, v148 := Tryz.zeroValue179, t164 := Tryz.underlying205, a164 := Tryz.isAgg205, z164 := Tryz.sizeOf205, v164 := Tryz.zeroValue205 }
theorem sRep {l : List Nat} {c : Nat} (w : World) (hl : l.length * c ≤ 140737488355328) (hc : c ≤ 9223372036854775807) :
    Calls Tryz.prog 102 #[.string (strOf l), .int .i64 (c : Int)] w fun e w' => e = .returned (.string ⟨(Lib.repeatL ((l.map fun n => UInt8.ofNat n)) c).toArray⟩) ∧ Below w.heap.size w w' := by
  have h := Any.strings_Repeat lay105 layX (strOf l) c w hc (by rw [strOf_size]; exact hl)
  rw [sa_data] at h
  exact h
end Go.Proofs.YtjkdonjcngmjeaaGreatDoor.sh
