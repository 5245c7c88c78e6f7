/-
  What a table answers: Atom, Pub, Hash, Seal, Parts; of a table that no call made, nothing.
-/
import Derived.Test.YtfdldpcfdebinaaDoorDF
namespace Go.Proofs.YtfdldpcfdebinaaDoor.sh
open Go Go.RowKit Go.Maps
set_option linter.unusedVariables false
set_option linter.unusedSimpArgs false

section
variable {ops : Array Oper} {rest : List Oper} {o : Oper} {a : Act} {w : World} {Q : Exit → Act → World → Prop}
theorem run_bs1 (s0 : List Nat) (w : World) : (Instr.buildSlice 35 1 #[(0, .string (strOf s0))]).run Tryd.prog w = .ok (.slice (some ⟨w.heap.size, 0, none⟩) 1 1) (w.alloc (.cells #[.string (strOf s0)] 9)) := by kernel_rfl
/-- A slice of 1 texts is built. -/
theorem wl_bs1 (hw : Region.wanted o (yielded ops a.tmps) = true) (x0 : Operand) (ho : o.op = .buildSlice 35 1 #[(0, x0)]) (s0 : List Nat) (h0 : a.eval x0 = .string (strOf s0))
    (h : wpList Tryd.prog ops Q rest (a.put o.dst (.slice (some ⟨w.heap.size, 0, none⟩) 1 1)) (w.alloc (.cells #[.string (strOf s0)] 9))) : wpList Tryd.prog ops Q (o :: rest) a w :=
  BigFrame.wpList_want hw fun K hK => by
    have hrun : (execOp a.eval o).run Tryd.prog w = .ok (.value (.slice (some ⟨w.heap.size, 0, none⟩) 1 1)) (w.alloc (.cells #[.string (strOf s0)] 9)) := by
      unfold execOp
      simp only [ho]
      simp [h0, run_bs1]
    unfold Oper.wp
    rw [hrun]
    exact hK _ _ h
theorem new1 (s0 : List Nat) (w : World) : ValsV (.slice (some ⟨w.heap.size, 0, none⟩) 1 1) (w.alloc (.cells #[.string (strOf s0)] 9)) (strs [s0]) := vrow_vals (vrow_lit (base := 0) w #[.string (strOf s0)] 1 rfl (Nat.zero_le _) (by decide))

theorem run_bs2 (s0 s1 : List Nat) (w : World) : (Instr.buildSlice 35 2 #[(0, .string (strOf s0)), (1, .string (strOf s1))]).run Tryd.prog w = .ok (.slice (some ⟨w.heap.size, 0, none⟩) 2 2) (w.alloc (.cells #[.string (strOf s0), .string (strOf s1)] 9)) := by kernel_rfl
/-- A slice of 2 texts is built. -/
theorem wl_bs2 (hw : Region.wanted o (yielded ops a.tmps) = true) (x0 x1 : Operand) (ho : o.op = .buildSlice 35 2 #[(0, x0), (1, x1)]) (s0 s1 : List Nat) (h0 : a.eval x0 = .string (strOf s0)) (h1 : a.eval x1 = .string (strOf s1))
    (h : wpList Tryd.prog ops Q rest (a.put o.dst (.slice (some ⟨w.heap.size, 0, none⟩) 2 2)) (w.alloc (.cells #[.string (strOf s0), .string (strOf s1)] 9))) : wpList Tryd.prog ops Q (o :: rest) a w :=
  BigFrame.wpList_want hw fun K hK => by
    have hrun : (execOp a.eval o).run Tryd.prog w = .ok (.value (.slice (some ⟨w.heap.size, 0, none⟩) 2 2)) (w.alloc (.cells #[.string (strOf s0), .string (strOf s1)] 9)) := by
      unfold execOp
      simp only [ho]
      simp [h0, h1, run_bs2]
    unfold Oper.wp
    rw [hrun]
    exact hK _ _ h
theorem new2 (s0 s1 : List Nat) (w : World) : ValsV (.slice (some ⟨w.heap.size, 0, none⟩) 2 2) (w.alloc (.cells #[.string (strOf s0), .string (strOf s1)] 9)) (strs [s0, s1]) := vrow_vals (vrow_lit (base := 0) w #[.string (strOf s0), .string (strOf s1)] 2 rfl (Nat.zero_le _) (by decide))

theorem run_bs3 (s0 s1 s2 : List Nat) (w : World) : (Instr.buildSlice 35 3 #[(0, .string (strOf s0)), (1, .string (strOf s1)), (2, .string (strOf s2))]).run Tryd.prog w = .ok (.slice (some ⟨w.heap.size, 0, none⟩) 3 3) (w.alloc (.cells #[.string (strOf s0), .string (strOf s1), .string (strOf s2)] 9)) := by kernel_rfl
/-- A slice of 3 texts is built. -/
theorem wl_bs3 (hw : Region.wanted o (yielded ops a.tmps) = true) (x0 x1 x2 : Operand) (ho : o.op = .buildSlice 35 3 #[(0, x0), (1, x1), (2, x2)]) (s0 s1 s2 : List Nat) (h0 : a.eval x0 = .string (strOf s0)) (h1 : a.eval x1 = .string (strOf s1)) (h2 : a.eval x2 = .string (strOf s2))
    (h : wpList Tryd.prog ops Q rest (a.put o.dst (.slice (some ⟨w.heap.size, 0, none⟩) 3 3)) (w.alloc (.cells #[.string (strOf s0), .string (strOf s1), .string (strOf s2)] 9))) : wpList Tryd.prog ops Q (o :: rest) a w :=
  BigFrame.wpList_want hw fun K hK => by
    have hrun : (execOp a.eval o).run Tryd.prog w = .ok (.value (.slice (some ⟨w.heap.size, 0, none⟩) 3 3)) (w.alloc (.cells #[.string (strOf s0), .string (strOf s1), .string (strOf s2)] 9)) := by
      unfold execOp
      simp only [ho]
      simp [h0, h1, h2, run_bs3]
    unfold Oper.wp
    rw [hrun]
    exact hK _ _ h
theorem new3 (s0 s1 s2 : List Nat) (w : World) : ValsV (.slice (some ⟨w.heap.size, 0, none⟩) 3 3) (w.alloc (.cells #[.string (strOf s0), .string (strOf s1), .string (strOf s2)] 9)) (strs [s0, s1, s2]) := vrow_vals (vrow_lit (base := 0) w #[.string (strOf s0), .string (strOf s1), .string (strOf s2)] 3 rfl (Nat.zero_le _) (by decide))

theorem run_bs4 (s0 s1 s2 s3 : List Nat) (w : World) : (Instr.buildSlice 35 4 #[(0, .string (strOf s0)), (1, .string (strOf s1)), (2, .string (strOf s2)), (3, .string (strOf s3))]).run Tryd.prog w = .ok (.slice (some ⟨w.heap.size, 0, none⟩) 4 4) (w.alloc (.cells #[.string (strOf s0), .string (strOf s1), .string (strOf s2), .string (strOf s3)] 9)) := by kernel_rfl
/-- A slice of 4 texts is built. -/
theorem wl_bs4 (hw : Region.wanted o (yielded ops a.tmps) = true) (x0 x1 x2 x3 : Operand) (ho : o.op = .buildSlice 35 4 #[(0, x0), (1, x1), (2, x2), (3, x3)]) (s0 s1 s2 s3 : List Nat) (h0 : a.eval x0 = .string (strOf s0)) (h1 : a.eval x1 = .string (strOf s1)) (h2 : a.eval x2 = .string (strOf s2)) (h3 : a.eval x3 = .string (strOf s3))
    (h : wpList Tryd.prog ops Q rest (a.put o.dst (.slice (some ⟨w.heap.size, 0, none⟩) 4 4)) (w.alloc (.cells #[.string (strOf s0), .string (strOf s1), .string (strOf s2), .string (strOf s3)] 9))) : wpList Tryd.prog ops Q (o :: rest) a w :=
  BigFrame.wpList_want hw fun K hK => by
    have hrun : (execOp a.eval o).run Tryd.prog w = .ok (.value (.slice (some ⟨w.heap.size, 0, none⟩) 4 4)) (w.alloc (.cells #[.string (strOf s0), .string (strOf s1), .string (strOf s2), .string (strOf s3)] 9)) := by
      unfold execOp
      simp only [ho]
      simp [h0, h1, h2, h3, run_bs4]
    unfold Oper.wp
    rw [hrun]
    exact hK _ _ h
theorem new4 (s0 s1 s2 s3 : List Nat) (w : World) : ValsV (.slice (some ⟨w.heap.size, 0, none⟩) 4 4) (w.alloc (.cells #[.string (strOf s0), .string (strOf s1), .string (strOf s2), .string (strOf s3)] 9)) (strs [s0, s1, s2, s3]) := vrow_vals (vrow_lit (base := 0) w #[.string (strOf s0), .string (strOf s1), .string (strOf s2), .string (strOf s3)] 4 rfl (Nat.zero_le _) (by decide))

end
theorem Puts.from {tb B : Nat} {ts us : List TermL} {M : Nat → Prop} {w w1 w2 : World} (h : Puts tb B ts M w1 us w2) (q : Below w.heap.size w w1) : Puts tb B ts M w us w2 := by
  obtain ⟨M', h1, h2⟩ := h
  exact ⟨M', h1, (Turn.of_below q).trans h2⟩
set_option maxRecDepth 100000 in
set_option maxHeartbeats 1000000 in
theorem nameN {p : Option Addr} {k : Nat} {V : Value} {w : World} (hp : Nobody p w) :
    Calls Tryd.prog 33 #[.pointer p, .int .u8 (k : Int), V] w fun e w' => e = .returned (.string .empty) ∧ w' = w := by
  have KC : Kept _ := ⟨madeN hp⟩
  clear hp
  go_enter Tryd.func33, Tryd.ntmps33
  go_wp2_with fail
  refine KC.out.mono ?_
  rintro e w2 ⟨rfl, rfl⟩
  go_wp2_with fail
  go_ret
  exact ⟨rfl, rfl⟩
set_option maxRecDepth 100000 in
set_option maxHeartbeats 1000000 in
theorem AtomD {tb B : Nat} {ts : List TermL} {M : Nat → Prop} {s : List Nat} {w : World} (hT : Tab tb B ts M w) (hs : Bytes s) (hl : s.length ≤ maxLen) (hn : ts.length < 1000000) :
    Calls Tryd.prog 18 #[.pointer (some ⟨tb, 0, none⟩), .string (strOf s)] w fun e w' => e = .returned (.string (strOf (putL ts (1, [s])).2)) ∧ Puts tb B ts M w (putL ts (1, [s])).1 w' := by
  have q1 := (Below.refl w.heap.size w).alloc (Nat.le_refl _) (.cells #[.string (strOf s)] 9)
  have CN := nameD (k := 1) (hT.under q1) ⟨fun p hp => by simp at hp; subst hp; exact hs, by simp⟩ (new1 s w) (fun l h => by simp at h; subst h; exact hl) hn
  have KC : Kept _ := ⟨CN⟩
  have KQ : Kept _ := ⟨q1⟩
  clear hT hs hl hn q1 CN
  go_enter Tryd.func18, Tryd.ntmps18
  go_wp2_with (first | (refine wl_bs1 (by kernel_rfl) (.tmp 6) rfl (s) (by kernel_rfl) ?_; simp only [Act.put, List.setIfInBounds_toArray, List.set_cons_succ, List.set_cons_zero]))
  refine KC.out.mono ?_
  rintro e w2 ⟨rfl, hP⟩
  go_wp2_with fail
  go_ret
  exact ⟨rfl, hP.from KQ.out⟩
set_option maxRecDepth 100000 in
set_option maxHeartbeats 1000000 in
theorem AtomN {p : Option Addr} {s : List Nat} {w : World} (hp : Nobody p w) :
    Calls Tryd.prog 18 #[.pointer p, .string (strOf s)] w fun e w' => e = .returned (.string .empty) ∧ Below w.heap.size w w' := by
  have q1 := (Below.refl w.heap.size w).alloc (Nat.le_refl _) (.cells #[.string (strOf s)] 9)
  have CN := nameN (k := 1) (V := .slice (some ⟨w.heap.size, 0, none⟩) 1 1) (hp.under q1)
  have KC : Kept _ := ⟨CN⟩
  have KQ : Kept _ := ⟨q1⟩
  clear q1 CN
  go_enter Tryd.func18, Tryd.ntmps18
  go_wp2_with (first | (refine wl_bs1 (by kernel_rfl) (.tmp 6) rfl (s) (by kernel_rfl) ?_; simp only [Act.put, List.setIfInBounds_toArray, List.set_cons_succ, List.set_cons_zero]))
  refine KC.out.mono ?_
  rintro e w2 ⟨rfl, rfl⟩
  go_wp2_with fail
  go_ret
  exact ⟨rfl, KQ.out⟩

set_option maxRecDepth 100000 in
set_option maxHeartbeats 1000000 in
theorem PubD {tb B : Nat} {ts : List TermL} {M : Nat → Prop} {s : List Nat} {w : World} (hT : Tab tb B ts M w) (hs : Bytes s) (hl : s.length ≤ maxLen) (hn : ts.length < 1000000) :
    Calls Tryd.prog 19 #[.pointer (some ⟨tb, 0, none⟩), .string (strOf s)] w fun e w' => e = .returned (.string (strOf (putL ts (2, [s])).2)) ∧ Puts tb B ts M w (putL ts (2, [s])).1 w' := by
  have q1 := (Below.refl w.heap.size w).alloc (Nat.le_refl _) (.cells #[.string (strOf s)] 9)
  have CN := nameD (k := 2) (hT.under q1) ⟨fun p hp => by simp at hp; subst hp; exact hs, by simp⟩ (new1 s w) (fun l h => by simp at h; subst h; exact hl) hn
  have KC : Kept _ := ⟨CN⟩
  have KQ : Kept _ := ⟨q1⟩
  clear hT hs hl hn q1 CN
  go_enter Tryd.func19, Tryd.ntmps19
  go_wp2_with (first | (refine wl_bs1 (by kernel_rfl) (.tmp 6) rfl (s) (by kernel_rfl) ?_; simp only [Act.put, List.setIfInBounds_toArray, List.set_cons_succ, List.set_cons_zero]))
  refine KC.out.mono ?_
  rintro e w2 ⟨rfl, hP⟩
  go_wp2_with fail
  go_ret
  exact ⟨rfl, hP.from KQ.out⟩
set_option maxRecDepth 100000 in
set_option maxHeartbeats 1000000 in
theorem PubN {p : Option Addr} {s : List Nat} {w : World} (hp : Nobody p w) :
    Calls Tryd.prog 19 #[.pointer p, .string (strOf s)] w fun e w' => e = .returned (.string .empty) ∧ Below w.heap.size w w' := by
  have q1 := (Below.refl w.heap.size w).alloc (Nat.le_refl _) (.cells #[.string (strOf s)] 9)
  have CN := nameN (k := 2) (V := .slice (some ⟨w.heap.size, 0, none⟩) 1 1) (hp.under q1)
  have KC : Kept _ := ⟨CN⟩
  have KQ : Kept _ := ⟨q1⟩
  clear q1 CN
  go_enter Tryd.func19, Tryd.ntmps19
  go_wp2_with (first | (refine wl_bs1 (by kernel_rfl) (.tmp 6) rfl (s) (by kernel_rfl) ?_; simp only [Act.put, List.setIfInBounds_toArray, List.set_cons_succ, List.set_cons_zero]))
  refine KC.out.mono ?_
  rintro e w2 ⟨rfl, rfl⟩
  go_wp2_with fail
  go_ret
  exact ⟨rfl, KQ.out⟩

set_option maxRecDepth 100000 in
set_option maxHeartbeats 1000000 in
theorem HashD {tb B : Nat} {ts : List TermL} {M : Nat → Prop} {ll : List (List Nat)} {V : Value} {w : World} (hT : Tab tb B ts M w) (hy : ∀ l ∈ ll, Bytes l) (hV : ValsV V w (strs ll)) (hl : ∀ l ∈ ll, l.length ≤ maxLen) (hn : ts.length < 1000000) :
    Calls Tryd.prog 20 #[.pointer (some ⟨tb, 0, none⟩), V] w fun e w' => e = .returned (.string (strOf (putL ts (4, ll)).2)) ∧ Puts tb B ts M w (putL ts (4, ll)).1 w' := by
  have CN := nameD (k := 4) hT ⟨hy, by simp⟩ hV hl hn
  obtain ⟨p, c, rfl, _⟩ := vals_form hV (strs_len ll)
  have KC : Kept _ := ⟨CN⟩
  obtain ⟨m, hm⟩ : ∃ m, m = ll.length := ⟨_, rfl⟩
  rw [← hm] at KC ⊢
  clear hT hV hl hn CN hm
  go_enter Tryd.func20, Tryd.ntmps20
  go_wp2_with fail
  refine KC.out.mono ?_
  rintro e w2 ⟨rfl, hP⟩
  go_wp2_with fail
  go_ret
  exact ⟨rfl, hP⟩
set_option maxRecDepth 100000 in
set_option maxHeartbeats 1000000 in
theorem HashN {p P : Option Addr} {n c : Nat} {w : World} (hp : Nobody p w) :
    Calls Tryd.prog 20 #[.pointer p, .slice P n c] w fun e w' => e = .returned (.string .empty) ∧ w' = w := by
  have KC : Kept _ := ⟨nameN (k := 4) (V := .slice P n c) hp⟩
  go_enter Tryd.func20, Tryd.ntmps20
  go_wp2_with fail
  refine KC.out.mono ?_
  rintro e w2 ⟨rfl, rfl⟩
  go_wp2_with fail
  go_ret
  exact ⟨rfl, rfl⟩
set_option maxRecDepth 100000 in
set_option maxHeartbeats 1000000 in
theorem SealD {tb B n : Nat} {ts : List TermL} {M : Nat → Prop} {k a t : List Nat} {w : World} (hT : Tab tb B ts M w) (hn64 : n < 18446744073709551616) (hk : Bytes k) (ha : Bytes a) (ht : Bytes t) (hkl : k.length ≤ maxLen) (hal : a.length ≤ maxLen) (htl : t.length ≤ maxLen) (hn : ts.length < 1000000) :
    Calls Tryd.prog 22 #[.pointer (some ⟨tb, 0, none⟩), .string (strOf k), .int .u64 (n : Int), .string (strOf a), .string (strOf t)] w fun e w' => e = .returned (.string (strOf (putL ts (5, [k, numL n, a, t])).2)) ∧ Puts tb B ts M w (putL ts (5, [k, numL n, a, t])).1 w' := by
  have hNL := numL_len n
  have hNY := numL_bytes n
  have CU := NumD (w := w) hn64
  obtain ⟨N, hN⟩ : ∃ N, N = numL n := ⟨_, rfl⟩
  rw [← hN] at CU hNL hNY ⊢
  have CN := fun w1 (q : Below w.heap.size w w1) => nameD (k := 5) (hT.under (q.trans (((Below.refl w1.heap.size w1).alloc (Nat.le_refl _) (.cells #[.string (strOf k), .string (strOf N), .string (strOf a), .string (strOf t)] 9)).mono q.size))) ⟨fun p hp => by simp at hp; rcases hp with rfl | rfl | rfl | rfl <;> assumption, by simp⟩ (new4 k N a t w1) (fun l h => by simp at h; rcases h with rfl | rfl | rfl | rfl <;> first | assumption | (unfold maxLen; omega)) hn
  have KU : Kept _ := ⟨CU⟩
  have KC : Kept _ := ⟨CN⟩
  clear hT hk ha ht hkl hal htl hn CU CN hN hNL hNY
  go_enter Tryd.func22, Tryd.ntmps22
  go_wp2_with fail
  refine KU.out.mono ?_
  rintro e w1 ⟨rfl, q1⟩
  go_wp2_with (first | (refine wl_bs4 (by kernel_rfl) (.tmp 12) (.tmp 14) (.tmp 15) (.tmp 16) rfl (k) (N) (a) (t) (by kernel_rfl) (by kernel_rfl) (by kernel_rfl) (by kernel_rfl) ?_; simp only [Act.put, List.setIfInBounds_toArray, List.set_cons_succ, List.set_cons_zero]))
  refine (KC.out w1 q1).mono ?_
  rintro e w2 ⟨rfl, hP⟩
  go_wp2_with fail
  go_ret
  exact ⟨rfl, hP.from (q1.trans (((Below.refl w1.heap.size w1).alloc (Nat.le_refl _) _).mono q1.size))⟩
set_option maxRecDepth 100000 in
set_option maxHeartbeats 1000000 in
theorem SealN {n : Nat} {p : Option Addr} {k a t : List Nat} {w : World} (hp : Nobody p w) (hn64 : n < 18446744073709551616) :
    Calls Tryd.prog 22 #[.pointer p, .string (strOf k), .int .u64 (n : Int), .string (strOf a), .string (strOf t)] w fun e w' => e = .returned (.string .empty) ∧ Below w.heap.size w w' := by
  have CU := NumD (w := w) hn64
  obtain ⟨N, hN⟩ : ∃ N, N = numL n := ⟨_, rfl⟩
  rw [← hN] at CU
  have CN := fun w1 (q : Below w.heap.size w w1) => nameN (k := 5) (V := .slice (some ⟨w1.heap.size, 0, none⟩) 4 4) (hp.under (q.trans (((Below.refl w1.heap.size w1).alloc (Nat.le_refl _) (.cells #[.string (strOf k), .string (strOf N), .string (strOf a), .string (strOf t)] 9)).mono q.size)))
  have KU : Kept _ := ⟨CU⟩
  have KC : Kept _ := ⟨CN⟩
  clear hp CU CN hN
  go_enter Tryd.func22, Tryd.ntmps22
  go_wp2_with fail
  refine KU.out.mono ?_
  rintro e w1 ⟨rfl, q1⟩
  go_wp2_with (first | (refine wl_bs4 (by kernel_rfl) (.tmp 12) (.tmp 14) (.tmp 15) (.tmp 16) rfl (k) (N) (a) (t) (by kernel_rfl) (by kernel_rfl) (by kernel_rfl) (by kernel_rfl) ?_; simp only [Act.put, List.setIfInBounds_toArray, List.set_cons_succ, List.set_cons_zero]))
  refine (KC.out w1 q1).mono ?_
  rintro e w2 ⟨rfl, rfl⟩
  go_wp2_with fail
  go_ret
  exact ⟨rfl, q1.trans (((Below.refl w1.heap.size w1).alloc (Nat.le_refl _) _).mono q1.size)⟩

/-- The term of a name, if there is one. -/
def partX (ts : List TermL) (s : List Nat) : Option TermL := if findN ts.length s = 0 then none else ts[findN ts.length s - 1]?
theorem partX_none {ts : List TermL} {s : List Nat} (hs : Bytes s) (hN : ts.length < 1000000) (h : noL s = 0 ∨ ts.length < noL s) : partX ts s = none := by
  unfold partX
  rw [if_pos]
  rw [findN_no hs (by omega)]
  rcases h with h | h
  · rw [h]; simp
  · rw [if_neg (by omega)]
theorem partX_some {ts : List TermL} {s : List Nat} (hs : Bytes s) (hN : ts.length < 1000000) (h : noL s ≠ 0) (h2 : noL s ≤ ts.length) : partX ts s = ts[noL s - 1]? := by
  unfold partX
  rw [findN_no hs (by omega), if_pos h2, if_neg h]
theorem run_eq0U {o : Oper} {a : Act} {x : Operand} {n : Nat} {b : Bool} (ho : o.op = .binOp .eql 28 x (.const (.int .u64 0)) 28) (hx : a.eval x = .int .u64 (n : Int)) (hb : b = decide (n = 0)) (w : World) : (execOp a.eval o).run Tryd.prog w = .ok (.value (.bool b)) w := by
  have e3 : a.eval (.const (.int .u64 0)) = .int .u64 0 := rfl
  unfold execOp
  simp only [ho, hx, e3]
  rw [hb]
  by_cases h : n = 0
  · subst h; simp [go_sem]
  · have h2 : ¬ (n : Int) = 0 := by omega
    simp [go_sem, h, h2]
theorem run_gtrU {o : Oper} {a : Act} {x y : Operand} {m n : Nat} {b : Bool} (ho : o.op = .binOp .gtr 28 x y 28) (hx : a.eval x = .int .u64 (m : Int)) (hy : a.eval y = .int .u64 (n : Int)) (hb : b = decide (n < m)) (w : World) : (execOp a.eval o).run Tryd.prog w = .ok (.value (.bool b)) w := by
  unfold execOp
  simp only [ho, hx, hy]
  rw [hb]
  simp [go_sem]
theorem run_sub1U {o : Oper} {a : Act} {x : Operand} {m n : Nat} (ho : o.op = .binOp .sub 28 x (.const (.int .u64 1)) 28) (hx : a.eval x = .int .u64 (m : Int)) (hn : m = n + 1) (hm : m < 18446744073709551616) (w : World) : (execOp a.eval o).run Tryd.prog w = .ok (.value (.int .u64 (n : Int))) w := by
  have e3 : a.eval (.const (.int .u64 1)) = .int .u64 1 := rfl
  have h4 : ((m : Int) - 1) % 18446744073709551616 = (n : Int) := by omega
  unfold execOp
  simp only [ho, hx, e3]
  simp [go_sem, IntKind.wrap_u64, h4]
theorem run_idxU {o : Oper} {a : Act} {x y : Operand} {i l c : Nat} {A : Addr} {t e : TypeId} (ho : o.op = .indexAddr t x y) (hx : a.eval x = .slice (some A) l c) (hy : a.eval y = .int .u64 (i : Int)) (ht : Tryd.prog.underlying t = some (.slice e)) (hi : i < l) (sz : ∀ w, (sizeOf e).run Tryd.prog w = .ok 1 w) (w : World) : (execOp a.eval o).run Tryd.prog w = .ok (.value (.pointer (some (A.add i)))) w := by
  have h1 : ((i : Int) < (l : Int)) := by omega
  unfold execOp
  simp only [ho, hx, hy, Instr.indexAt]
  simp [asIntOf, run_underlying ht, h1, sz, go_sem]
  intro h
  omega
def PPost (x : Option TermL) (w : World) (e : Ending) (w' : World) : Prop :=
  match x with
  | none => e = .returned (.tuple #[.int .u8 0, .slice none 0 0, .bool false]) ∧ Below w.heap.size w w'
  | some t => (∃ V, e = .returned (.tuple #[.int .u8 (t.1 : Int), V, .bool true]) ∧ VRow w.heap.size 9 (strs t.2) V w') ∧ Below w.heap.size w w'
theorem SplitT {t : TermL} {w : World} (hG : GoodT t) :
    Calls Tryd.prog 32 #[.string (strOf (keyL t))] w fun e w' => (∃ V, e = .returned (.tuple #[.int .u8 (t.1 : Int), V, .int .i64 0]) ∧ VRow w.heap.size 9 (strs t.2) V w') ∧ Below w.heap.size w w' := by
  have h := SplitD (w := w) (keyL_bytes hG) (join_lenB hG.2.2)
  refine h.mono ?_
  rintro e w' ⟨⟨V, rfl, hr⟩, hb⟩
  have e : splitL (keyL t) = some (t.1, t.2) := splitL_join hG.2.2
  unfold spK spE spL at *
  rw [e] at hr ⊢
  exact ⟨⟨V, rfl, hr⟩, hb⟩
set_option maxRecDepth 100000 in
set_option maxHeartbeats 2000000 in
theorem PartsD {tb B : Nat} {ts : List TermL} {M : Nat → Prop} {s : List Nat} {w : World} (hT : Tab tb B ts M w) (hs : Bytes s) (hl : s.length ≤ maxLen) (hn : ts.length < 1000000) :
    Calls Tryd.prog 15 #[.pointer (some ⟨tb, 0, none⟩), .string (strOf s)] w fun e w' => PPost (partX ts s) w e w' := by
  obtain ⟨mb, v, hA⟩ := hT.at'
  have hA' := hA
  obtain ⟨_, _, _, hr0, _⟩ := hA'
  obtain ⟨p, cc, rfl, hcc⟩ := vals_form (vrow_vals hr0) (keys_len ts)
  have CU := numberOfD (w := w) hs hl
  have CM := madeD hA.1
  obtain ⟨n, hnn⟩ : ∃ n, n = noL s := ⟨_, rfl⟩
  obtain ⟨m, hm⟩ : ∃ m, m = ts.length := ⟨_, rfl⟩
  rw [← hm] at hA hcc
  rw [← hnn] at CU
  have hn64 : n < 18446744073709551616 := by
    by_cases h0 : n = 0
    · omega
    · rw [hnn]; exact (noL_of hs (by rw [← hnn]; exact h0)).2
  have hm6 : m < 1000000 := by omega
  have hmI : m < 4611686018427387904 := by omega
  have c1 : Kept (w.cell? ⟨tb, 1, none⟩ = some (.slice p m cc)) := ⟨hA.1.cell rfl⟩
  have KU : Kept _ := ⟨CU⟩
  have KM : Kept _ := ⟨CM⟩
  by_cases h0 : n = 0
  · have KP : Kept (partX ts s = none) := ⟨partX_none hs hn (.inl (by rw [← hnn]; exact h0))⟩
    subst h0
    have B0 : Kept (true = decide (0 = 0)) := ⟨rfl⟩
    rw [KP.out]
    clear hT hA hr0 hs hl hnn hm CU CM hn
    go_enter Tryd.func15, Tryd.ntmps15
    go_wp2_with fail
    refine KU.out.mono ?_
    rintro e w1 ⟨rfl, hw⟩
    obtain rfl := hw.symm
    go_wp2_with fail
    refine KM.out.mono ?_
    rintro e w1 ⟨rfl, hw⟩
    obtain rfl := hw.symm
    go_wp2_with (first | ((with_reducible refine wv_val (d := 18) ?hd ?hw (.bool true) ?hr ?_); (case hd => rfl); (case hw => kernel_rfl); (case hr => intro w; exact run_eq0U (n := 0) rfl (by kernel_rfl) B0.out w); simp only [Act.put, List.setIfInBounds_toArray, List.set_cons_succ, List.set_cons_zero]))
    refine bodyPost_ret (v := .tuple #[.int .u8 0, .slice none 0 0, .bool false]) (by simp [results, Tryd.results15, go_sem]) rfl ?_
    exact ⟨rfl, Below.refl _ _⟩
  · have B0 : Kept (false = decide (n = 0)) := ⟨(decide_eq_false h0).symm⟩
    by_cases h1 : m < n
    · have KP : Kept (partX ts s = none) := ⟨partX_none hs hn (.inr (by rw [← hnn, ← hm]; exact h1))⟩
      have B1 : Kept (true = decide (m < n)) := ⟨(decide_eq_true h1).symm⟩
      rw [KP.out]
      clear hT hA hr0 hs hl hnn hm CU CM h0 h1 hn
      go_enter Tryd.func15, Tryd.ntmps15
      go_wp2_with fail
      refine KU.out.mono ?_
      rintro e w1 ⟨rfl, hw⟩
      obtain rfl := hw.symm
      go_wp2_with fail
      refine KM.out.mono ?_
      rintro e w1 ⟨rfl, hw⟩
      obtain rfl := hw.symm
      go_wp2_with (first | ((with_reducible refine wv_val (d := 18) ?hd ?hw (.bool false) ?hr ?_); (case hd => rfl); (case hw => kernel_rfl); (case hr => intro w; exact run_eq0U rfl (by kernel_rfl) B0.out w); simp only [Act.put, List.setIfInBounds_toArray, List.set_cons_succ, List.set_cons_zero]) | ((with_reducible refine wv_elem (d := 25) ?hd ?hw 35 ag_strs (.tmp 24) ?ho (⟨tb, 1, none⟩) ?hx (.slice p m cc) ?hc ?_); (case hd => rfl); (case hw => kernel_rfl); (case ho => rfl); (case hx => kernel_rfl); (case hc => exact c1.out); simp only [Act.put, List.setIfInBounds_toArray, List.set_cons_succ, List.set_cons_zero]) | ((with_reducible refine wv_val (d := 27) ?hd ?hw (.int .u64 (m : Int)) ?hr ?_); (case hd => rfl); (case hw => kernel_rfl); (case hr => intro w; exact run_c3U rfl (by kernel_rfl) hmI w); simp only [Act.put, List.setIfInBounds_toArray, List.set_cons_succ, List.set_cons_zero]) | ((with_reducible refine wv_val (d := 28) ?hd ?hw (.bool true) ?hr ?_); (case hd => rfl); (case hw => kernel_rfl); (case hr => intro w; exact run_gtrU rfl (by kernel_rfl) (by kernel_rfl) B1.out w); simp only [Act.put, List.setIfInBounds_toArray, List.set_cons_succ, List.set_cons_zero]))
      refine bodyPost_ret (v := .tuple #[.int .u8 0, .slice none 0 0, .bool false]) (by simp [results, Tryd.results15, go_sem]) rfl ?_
      exact ⟨rfl, Below.refl _ _⟩
    · have B1 : Kept (false = decide (m < n)) := ⟨(decide_eq_false h1).symm⟩
      obtain ⟨i, hi⟩ : ∃ i, n = i + 1 := ⟨n - 1, by omega⟩
      have him : i < m := by omega
      have KI : Kept _ := ⟨hi⟩
      obtain ⟨t, ht⟩ : ∃ t, ts[i]? = some t := ⟨_, List.getElem?_eq_getElem (by omega)⟩
      have KP : Kept (partX ts s = some t) := ⟨by rw [partX_some hs hn (by rw [← hnn]; exact h0) (by rw [← hnn, ← hm]; omega), ← hnn, hi]; exact ht⟩
      have hG : GoodT t := good_mem hT.terms (List.mem_of_getElem? ht)
      have CS := SplitT (w := w) hG
      have hx : (strs (ts.map keyL))[i]? = some (.string (strOf (keyL t))) := strs_get (by rw [List.getElem?_map, ht]; rfl)
      obtain ⟨A, rfl, hAb, hcell⟩ := vals_at (vrow_vals hr0) hx
      obtain ⟨T, hTT⟩ : ∃ T, T = keyL t := ⟨_, rfl⟩
      rw [← hTT] at CS hcell
      have KS : Kept _ := ⟨CS⟩
      have KC : Kept _ := ⟨hcell⟩
      rw [KP.out]
      clear hT hA hr0 hs hl hnn hm CU CM h0 h1 hn ht hx hcell CS hTT hG hi
      go_enter Tryd.func15, Tryd.ntmps15
      go_wp2_with fail
      refine KU.out.mono ?_
      rintro e w1 ⟨rfl, hw⟩
      obtain rfl := hw.symm
      go_wp2_with fail
      refine KM.out.mono ?_
      rintro e w1 ⟨rfl, hw⟩
      obtain rfl := hw.symm
      go_wp2_with (first | ((with_reducible refine wv_val (d := 18) ?hd ?hw (.bool false) ?hr ?_); (case hd => rfl); (case hw => kernel_rfl); (case hr => intro w; exact run_eq0U rfl (by kernel_rfl) B0.out w); simp only [Act.put, List.setIfInBounds_toArray, List.set_cons_succ, List.set_cons_zero]) | ((with_reducible refine wv_elem (d := 25) ?hd ?hw 35 ag_strs (.tmp 24) ?ho (⟨tb, 1, none⟩) ?hx (.slice (some A) m cc) ?hc ?_); (case hd => rfl); (case hw => kernel_rfl); (case ho => rfl); (case hx => kernel_rfl); (case hc => exact c1.out); simp only [Act.put, List.setIfInBounds_toArray, List.set_cons_succ, List.set_cons_zero]) | ((with_reducible refine wv_val (d := 27) ?hd ?hw (.int .u64 (m : Int)) ?hr ?_); (case hd => rfl); (case hw => kernel_rfl); (case hr => intro w; exact run_c3U rfl (by kernel_rfl) hmI w); simp only [Act.put, List.setIfInBounds_toArray, List.set_cons_succ, List.set_cons_zero]) | ((with_reducible refine wv_val (d := 28) ?hd ?hw (.bool false) ?hr ?_); (case hd => rfl); (case hw => kernel_rfl); (case hr => intro w; exact run_gtrU rfl (by kernel_rfl) (by kernel_rfl) B1.out w); simp only [Act.put, List.setIfInBounds_toArray, List.set_cons_succ, List.set_cons_zero]) | ((with_reducible refine wv_elem (d := 34) ?hd ?hw 35 ag_strs (.tmp 33) ?ho (⟨tb, 1, none⟩) ?hx (.slice (some A) m cc) ?hc ?_); (case hd => rfl); (case hw => kernel_rfl); (case ho => rfl); (case hx => kernel_rfl); (case hc => exact c1.out); simp only [Act.put, List.setIfInBounds_toArray, List.set_cons_succ, List.set_cons_zero]) | ((with_reducible refine wv_val (d := 36) ?hd ?hw (.int .u64 (i : Int)) ?hr ?_); (case hd => rfl); (case hw => kernel_rfl); (case hr => intro w; exact run_sub1U rfl (by kernel_rfl) KI.out hn64 w); simp only [Act.put, List.setIfInBounds_toArray, List.set_cons_succ, List.set_cons_zero]) | ((with_reducible refine wv_val (d := 37) ?hd ?hw (.pointer (some (A.add i))) ?hr ?_); (case hd => rfl); (case hw => kernel_rfl); (case hr => intro w; exact run_idxU rfl (by kernel_rfl) (by kernel_rfl) Tryd.underlying35 him Tryd.sizeOf9 w); simp only [Act.put, List.setIfInBounds_toArray, List.set_cons_succ, List.set_cons_zero]) | ((with_reducible refine wv_elem (d := 38) ?hd ?hw 9 ag_str (.tmp 37) ?ho (A.add i) ?hx (.string (strOf T)) ?hc ?_); (case hd => rfl); (case hw => kernel_rfl); (case ho => rfl); (case hx => kernel_rfl); (case hc => exact KC.out); simp only [Act.put, List.setIfInBounds_toArray, List.set_cons_succ, List.set_cons_zero]))
      refine KS.out.mono ?_
      rintro e w1 ⟨⟨V, rfl, hV⟩, q1⟩
      have KV : Kept _ := ⟨hV⟩
      clear hV
      go_wp2_with fail
      refine bodyPost_ret (v := .tuple #[.int .u8 (t.1 : Int), V, .bool true]) (by simp [results, Tryd.results15, go_sem]) rfl ?_
      exact ⟨⟨V, rfl, KV.out⟩, q1⟩
set_option maxRecDepth 100000 in
set_option maxHeartbeats 2000000 in
theorem PartsN {p : Option Addr} {s : List Nat} {w : World} (hp : Nobody p w) (hs : Bytes s) (hl : s.length ≤ maxLen) :
    Calls Tryd.prog 15 #[.pointer p, .string (strOf s)] w fun e w' => e = .returned (.tuple #[.int .u8 0, .slice none 0 0, .bool false]) ∧ w' = w := by
  have CU := numberOfD (w := w) hs hl
  have CM := madeN hp
  obtain ⟨n, hnn⟩ : ∃ n, n = noL s := ⟨_, rfl⟩
  rw [← hnn] at CU
  have KU : Kept _ := ⟨CU⟩
  have KM : Kept _ := ⟨CM⟩
  clear hnn CU CM
  go_enter Tryd.func15, Tryd.ntmps15
  go_wp2_with fail
  refine KU.out.mono ?_
  rintro e w1 ⟨rfl, hw⟩
  obtain rfl := hw.symm
  go_wp2_with fail
  refine KM.out.mono ?_
  rintro e w1 ⟨rfl, hw⟩
  obtain rfl := hw.symm
  go_wp2_with fail
  refine bodyPost_ret (v := .tuple #[.int .u8 0, .slice none 0 0, .bool false]) (by simp [results, Tryd.results15, go_sem]) rfl ?_
  exact ⟨rfl, rfl⟩
end Go.Proofs.YtfdldpcfdebinaaDoor.sh
