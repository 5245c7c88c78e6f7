/-
  What a round makes of a state.
-/
import Derived.Test.YthnkipicehppmaaDoorSetB
import Derived.Test.YthnkipicehppmaaDoorSR
namespace Go.Proofs.YthnkipicehppmaaDoor.sh
open Go Go.RowKit
set_option linter.unusedVariables false
set_option linter.unusedSimpArgs false

def chN (e f g : Nat) : Nat := (e &&& f) ^^^ ((4294967295 ^^^ e) &&& g)
def majN (a b c : Nat) : Nat := ((a &&& b) ^^^ (a &&& c)) ^^^ (b &&& c)
def tN (e f g h more : Nat) : Nat := (((h + turnN e [6, 11, 25]) % 4294967296 + chN e f g) % 4294967296 + more) % 4294967296
def uN (a b c : Nat) : Nat := (turnN a [2, 13, 22] + majN a b c) % 4294967296
def roundL : List Nat → Nat → List Nat
  | [a, b, c, d, e, f, g, h], more => [(tN e f g h more + uN a b c) % 4294967296, a, b, c, (d + tN e f g h more) % 4294967296, e, f, g]
  | s, _ => s

/-- Nothing changed but block g, and new blocks. -/
def Grew (w w' : World) (g : Nat) : Prop := w.grownBy w' (some g)
theorem Grew.blk {w w' : World} {g k : Nat} {t : TypeId} {A : Array Value} (h : Grew w w' g) (hk : Blk w k t A) (hne : k ≠ g) : Blk w' k t A := (h.block k hk.lt (fun e => by cases e; exact hne rfl)).trans hk
theorem Grew.below {w w' : World} {g B : Nat} (h : Grew w w' g) (hB : B ≤ g) (hs : B ≤ w.heap.size) : Below B w w' := ⟨h.os, h.tape, h.output, h.size, fun k hk => h.block k (by omega) (fun e => by cases e; omega)⟩
theorem Grew.trans {w w' w'' : World} {g : Nat} (h : Grew w w' g) (h' : Grew w' w'' g) : Grew w w'' g := ⟨h'.os.trans h.os, h'.tape.trans h.tape, h'.output.trans h.output, Nat.le_trans h.size h'.size, fun k hk hne => (h'.block k (Nat.lt_of_lt_of_le hk h.size) hne).trans (h.block k hk hne)⟩
theorem grew_of_below {w w' : World} {g : Nat} (h : Below w.heap.size w w') : Grew w w' g := ⟨h.os, h.tape, h.output, h.size, fun k hk _ => h.block k hk⟩

theorem amounts1 (i m : Nat) (h : [6, 11, 25][i]? = some m) : 0 < m ∧ m < 32 := by
  rcases i with _ | _ | _ | i <;> simp at h <;> omega
theorem amounts2 (i m : Nat) (h : [2, 13, 22][i]? = some m) : 0 < m ∧ m < 32 := by
  rcases i with _ | _ | _ | i <;> simp at h <;> omega

theorem neg_run {o : Oper} {a : Act} {x : Operand} {n m : Nat} (ho : o.op = .unOp .xor 47 x) (hx : a.eval x = .int .u32 (n : Int)) (hb : bits .xor .u32 4294967295 (n : Int) = (m : Int)) (w : World) : (execOp a.eval o).run Tryd.prog w = .ok (.value (.int .u32 (m : Int))) w := by
  unfold execOp
  simp only [ho, hx]
  simp [go_sem, IntKind.signed]
  exact hb

set_option maxHeartbeats 1000000 in
theorem round_any (x0 x1 x2 x3 x4 x5 x6 x7 m g : Nat) (w : World) (h0 : x0 < 4294967296) (h1 : x1 < 4294967296) (h2 : x2 < 4294967296) (h4 : x4 < 4294967296) (h5 : x5 < 4294967296) (h6 : x6 < 4294967296) (hm : m < 4294967296) (A0 : Blk w g 49 (ints .u32 [x0, x1, x2, x3, x4, x5, x6, x7])) :
    Calls Tryd.prog 45 #[.pointer (some ⟨g, 0, none⟩), .int .u32 (m : Int)] w fun e w' => Blk w' g 49 (ints .u32 (roundL [x0, x1, x2, x3, x4, x5, x6, x7] m)) ∧ Grew w w' g ∧ e = .returned (.tuple #[]) := by
  have K0 : Kept _ := ⟨h0⟩
  have K4 : Kept _ := ⟨h4⟩
  have c1 : Kept (bits .and .u32 (x4 : Int) (x5 : Int) = ((x4 &&& x5 : Nat) : Int)) := ⟨u32_and_nat _ _ h4 h5⟩
  go_enter Tryd.func45, Tryd.ntmps45
  go_wp2_with fail
  refine wp_region_quiet (C := fun w' => Below w.heap.size w w') (by kernel_rfl) (by kernel_rfl) (Below.drew (Below.refl _ _)) ?_
  refine q_val (by kernel_rfl) (.pointer (some ⟨g, 0, none⟩)) (fun w' => by kernel_rfl) ?_
  simp only [Act.put, List.setIfInBounds_toArray, List.set_cons_succ, List.set_cons_zero]
  refine q_val (by kernel_rfl) (.pointer (some ⟨g, 0, none⟩)) (fun w' => by kernel_rfl) ?_
  simp only [Act.put, List.setIfInBounds_toArray, List.set_cons_succ, List.set_cons_zero]
  refine q_val (by kernel_rfl) (.pointer (some ⟨g, 0, none⟩)) (fun w' => by kernel_rfl) ?_
  simp only [Act.put, List.setIfInBounds_toArray, List.set_cons_succ, List.set_cons_zero]
  refine q_elem (by kernel_rfl) 47 ag_u32 (.tmp 15) rfl (g) 0 (by kernel_rfl) 49 (ints .u32 [x0, x1, x2, x3, x4, x5, x6, x7]) (.int .u32 (x0 : Int)) (fun w' hb => Blk.under A0 hb) rfl ?_
  simp only [Act.put, List.setIfInBounds_toArray, List.set_cons_succ, List.set_cons_zero]
  refine q_val (by kernel_rfl) (.pointer (some ⟨g, 0, none⟩)) (fun w' => by kernel_rfl) ?_
  simp only [Act.put, List.setIfInBounds_toArray, List.set_cons_succ, List.set_cons_zero]
  refine q_val (by kernel_rfl) (.pointer (some ⟨g, 0, none⟩)) (fun w' => by kernel_rfl) ?_
  simp only [Act.put, List.setIfInBounds_toArray, List.set_cons_succ, List.set_cons_zero]
  refine q_val (by kernel_rfl) (.pointer (some ⟨g, 1, none⟩)) (fun w' => by kernel_rfl) ?_
  simp only [Act.put, List.setIfInBounds_toArray, List.set_cons_succ, List.set_cons_zero]
  refine q_elem (by kernel_rfl) 47 ag_u32 (.tmp 19) rfl (g) 1 (by kernel_rfl) 49 (ints .u32 [x0, x1, x2, x3, x4, x5, x6, x7]) (.int .u32 (x1 : Int)) (fun w' hb => Blk.under A0 hb) rfl ?_
  simp only [Act.put, List.setIfInBounds_toArray, List.set_cons_succ, List.set_cons_zero]
  refine q_val (by kernel_rfl) (.pointer (some ⟨g, 0, none⟩)) (fun w' => by kernel_rfl) ?_
  simp only [Act.put, List.setIfInBounds_toArray, List.set_cons_succ, List.set_cons_zero]
  refine q_val (by kernel_rfl) (.pointer (some ⟨g, 0, none⟩)) (fun w' => by kernel_rfl) ?_
  simp only [Act.put, List.setIfInBounds_toArray, List.set_cons_succ, List.set_cons_zero]
  refine q_val (by kernel_rfl) (.pointer (some ⟨g, 2, none⟩)) (fun w' => by kernel_rfl) ?_
  simp only [Act.put, List.setIfInBounds_toArray, List.set_cons_succ, List.set_cons_zero]
  refine q_elem (by kernel_rfl) 47 ag_u32 (.tmp 23) rfl (g) 2 (by kernel_rfl) 49 (ints .u32 [x0, x1, x2, x3, x4, x5, x6, x7]) (.int .u32 (x2 : Int)) (fun w' hb => Blk.under A0 hb) rfl ?_
  simp only [Act.put, List.setIfInBounds_toArray, List.set_cons_succ, List.set_cons_zero]
  refine q_val (by kernel_rfl) (.pointer (some ⟨g, 0, none⟩)) (fun w' => by kernel_rfl) ?_
  simp only [Act.put, List.setIfInBounds_toArray, List.set_cons_succ, List.set_cons_zero]
  refine q_val (by kernel_rfl) (.pointer (some ⟨g, 0, none⟩)) (fun w' => by kernel_rfl) ?_
  simp only [Act.put, List.setIfInBounds_toArray, List.set_cons_succ, List.set_cons_zero]
  refine q_val (by kernel_rfl) (.pointer (some ⟨g, 4, none⟩)) (fun w' => by kernel_rfl) ?_
  simp only [Act.put, List.setIfInBounds_toArray, List.set_cons_succ, List.set_cons_zero]
  refine q_elem (by kernel_rfl) 47 ag_u32 (.tmp 27) rfl (g) 4 (by kernel_rfl) 49 (ints .u32 [x0, x1, x2, x3, x4, x5, x6, x7]) (.int .u32 (x4 : Int)) (fun w' hb => Blk.under A0 hb) rfl ?_
  simp only [Act.put, List.setIfInBounds_toArray, List.set_cons_succ, List.set_cons_zero]
  refine q_val (by kernel_rfl) (.pointer (some ⟨g, 0, none⟩)) (fun w' => by kernel_rfl) ?_
  simp only [Act.put, List.setIfInBounds_toArray, List.set_cons_succ, List.set_cons_zero]
  refine q_val (by kernel_rfl) (.pointer (some ⟨g, 0, none⟩)) (fun w' => by kernel_rfl) ?_
  simp only [Act.put, List.setIfInBounds_toArray, List.set_cons_succ, List.set_cons_zero]
  refine q_val (by kernel_rfl) (.pointer (some ⟨g, 5, none⟩)) (fun w' => by kernel_rfl) ?_
  simp only [Act.put, List.setIfInBounds_toArray, List.set_cons_succ, List.set_cons_zero]
  refine q_elem (by kernel_rfl) 47 ag_u32 (.tmp 31) rfl (g) 5 (by kernel_rfl) 49 (ints .u32 [x0, x1, x2, x3, x4, x5, x6, x7]) (.int .u32 (x5 : Int)) (fun w' hb => Blk.under A0 hb) rfl ?_
  simp only [Act.put, List.setIfInBounds_toArray, List.set_cons_succ, List.set_cons_zero]
  refine q_val (by kernel_rfl) (.pointer (some ⟨g, 0, none⟩)) (fun w' => by kernel_rfl) ?_
  simp only [Act.put, List.setIfInBounds_toArray, List.set_cons_succ, List.set_cons_zero]
  refine q_val (by kernel_rfl) (.pointer (some ⟨g, 0, none⟩)) (fun w' => by kernel_rfl) ?_
  simp only [Act.put, List.setIfInBounds_toArray, List.set_cons_succ, List.set_cons_zero]
  refine q_val (by kernel_rfl) (.pointer (some ⟨g, 6, none⟩)) (fun w' => by kernel_rfl) ?_
  simp only [Act.put, List.setIfInBounds_toArray, List.set_cons_succ, List.set_cons_zero]
  refine q_elem (by kernel_rfl) 47 ag_u32 (.tmp 35) rfl (g) 6 (by kernel_rfl) 49 (ints .u32 [x0, x1, x2, x3, x4, x5, x6, x7]) (.int .u32 (x6 : Int)) (fun w' hb => Blk.under A0 hb) rfl ?_
  simp only [Act.put, List.setIfInBounds_toArray, List.set_cons_succ, List.set_cons_zero]
  refine q_val (by kernel_rfl) (.pointer (some ⟨g, 0, none⟩)) (fun w' => by kernel_rfl) ?_
  simp only [Act.put, List.setIfInBounds_toArray, List.set_cons_succ, List.set_cons_zero]
  refine q_val (by kernel_rfl) (.pointer (some ⟨g, 0, none⟩)) (fun w' => by kernel_rfl) ?_
  simp only [Act.put, List.setIfInBounds_toArray, List.set_cons_succ, List.set_cons_zero]
  refine q_val (by kernel_rfl) (.pointer (some ⟨g, 7, none⟩)) (fun w' => by kernel_rfl) ?_
  simp only [Act.put, List.setIfInBounds_toArray, List.set_cons_succ, List.set_cons_zero]
  refine q_elem (by kernel_rfl) 47 ag_u32 (.tmp 39) rfl (g) 7 (by kernel_rfl) 49 (ints .u32 [x0, x1, x2, x3, x4, x5, x6, x7]) (.int .u32 (x7 : Int)) (fun w' hb => Blk.under A0 hb) rfl ?_
  simp only [Act.put, List.setIfInBounds_toArray, List.set_cons_succ, List.set_cons_zero]
  refine q_val (by kernel_rfl) (.int .u32 (x0 : Int)) (fun w' => by kernel_rfl) ?_
  simp only [Act.put, List.setIfInBounds_toArray, List.set_cons_succ, List.set_cons_zero]
  refine q_val (by kernel_rfl) (.int .u32 (x1 : Int)) (fun w' => by kernel_rfl) ?_
  simp only [Act.put, List.setIfInBounds_toArray, List.set_cons_succ, List.set_cons_zero]
  refine q_val (by kernel_rfl) (.int .u32 (x2 : Int)) (fun w' => by kernel_rfl) ?_
  simp only [Act.put, List.setIfInBounds_toArray, List.set_cons_succ, List.set_cons_zero]
  refine q_val (by kernel_rfl) (.int .u32 (x4 : Int)) (fun w' => by kernel_rfl) ?_
  simp only [Act.put, List.setIfInBounds_toArray, List.set_cons_succ, List.set_cons_zero]
  refine q_val (by kernel_rfl) (.int .u32 (x5 : Int)) (fun w' => by kernel_rfl) ?_
  simp only [Act.put, List.setIfInBounds_toArray, List.set_cons_succ, List.set_cons_zero]
  refine q_val (by kernel_rfl) (.int .u32 (x6 : Int)) (fun w' => by kernel_rfl) ?_
  simp only [Act.put, List.setIfInBounds_toArray, List.set_cons_succ, List.set_cons_zero]
  refine q_val (by kernel_rfl) (.int .u32 (x7 : Int)) (fun w' => by kernel_rfl) ?_
  simp only [Act.put, List.setIfInBounds_toArray, List.set_cons_succ, List.set_cons_zero]
  refine wpQuiet_nil ?_
  intro w1 hb1
  have A1 := A0.under hb1
  have G1 : Grew w w1 g := grew_of_below hb1
  clear A0 hb1
  go_wp2_with fail
  obtain ⟨s1, hs1⟩ : ∃ s1, s1 = turnN x4 [6, 11, 25] := ⟨_, rfl⟩
  obtain ⟨s2, hs2⟩ : ∃ s2, s2 = turnN x0 [2, 13, 22] := ⟨_, rfl⟩
  have E1 : Kept _ := ⟨hs1⟩
  have E2 : Kept _ := ⟨hs2⟩
  have hc := turned_any x4 [6, 11, 25] w1.heap.size 3 3 (w1.alloc (.cells (ints .i64 [6, 11, 25]) 3)) h4 amounts1 (blk_new w1 3 _) (by decide)
  rw [← hs1] at hc
  refine hc.mono ?_
  clear hc hs1 hs2
  rintro e w2 ⟨rfl, hw2⟩
  have A2 : Blk w2 g 49 (ints .u32 [x0, x1, x2, x3, x4, x5, x6, x7]) := by rw [hw2]; exact A1.alloc _
  have G2 : Grew w w2 g := G1.trans (by rw [hw2]; exact World.grownBy_alloc _ _ _)
  clear hw2 A1 G1
  have b1 : bits .and .u32 (x4 : Int) (x5 : Int) = ((x4 &&& x5 : Nat) : Int) := u32_and_nat _ _ h4 h5
  have b2 : bits .xor .u32 4294967295 (x4 : Int) = ((4294967295 ^^^ x4 : Nat) : Int) := u32_xor_nat 4294967295 x4 (by decide) h4
  obtain ⟨n4, hn4⟩ : ∃ n4, n4 = 4294967295 ^^^ x4 := ⟨_, rfl⟩
  rw [← hn4] at b2
  have l1 : x4 &&& x5 < 4294967296 := Nat.and_lt_two_pow (n := 32) _ h5
  have l2 : n4 < 4294967296 := by rw [hn4]; exact Nat.xor_lt_two_pow (n := 32) (by decide) h4
  have l3 : n4 &&& x6 < 4294967296 := Nat.and_lt_two_pow (n := 32) _ h6
  have b3 : bits .and .u32 (n4 : Int) (x6 : Int) = ((n4 &&& x6 : Nat) : Int) := u32_and_nat _ _ l2 h6
  have b4 : bits .xor .u32 ((x4 &&& x5 : Nat) : Int) ((n4 &&& x6 : Nat) : Int) = ((chN x4 x5 x6 : Nat) : Int) := by rw [u32_xor_nat _ _ l1 l3, hn4]; rfl
  clear l1 l2 l3 hn4
  obtain ⟨t, ht⟩ : ∃ t, t = tN x4 x5 x6 x7 m := ⟨_, rfl⟩
  obtain ⟨c, hc⟩ : ∃ c, c = chN x4 x5 x6 := ⟨_, rfl⟩
  rw [← hc] at b4
  have et : ((x7 : Int) + s1 + c + m) % 4294967296 = (t : Int) := by
    rw [ht]; unfold tN; rw [← E1.out, ← hc]; omega
  have ET : Kept _ := ⟨ht⟩
  have ET2 : Kept _ := ⟨et⟩
  clear ht hc
  go_wp2_with (first | (refine wl_at (d := 50) rfl rfl (.int .u32 (n4 : Int)) ?h1 ?_; (case h1 => exact neg_run rfl rfl b2 _); simp only [Act.put, List.setIfInBounds_toArray, List.set_cons_succ, List.set_cons_zero]))
  have hc := turned_any x0 [2, 13, 22] w2.heap.size 3 3 (w2.alloc (.cells (ints .i64 [2, 13, 22]) 3)) h0 amounts2 (blk_new w2 3 _) (by decide)
  rw [← E2.out] at hc
  refine hc.mono ?_
  clear hc b1 b2 b3 b4 et
  rintro e w3 ⟨rfl, hw3⟩
  have A3 : Blk w3 g 49 (ints .u32 [x0, x1, x2, x3, x4, x5, x6, x7]) := by rw [hw3]; exact A2.alloc _
  have G3 : Grew w w3 g := G2.trans (by rw [hw3]; exact World.grownBy_alloc _ _ _)
  clear hw3 A2 G2
  have b1 : bits .and .u32 (x0 : Int) (x1 : Int) = ((x0 &&& x1 : Nat) : Int) := u32_and_nat _ _ h0 h1
  have b2 : bits .and .u32 (x0 : Int) (x2 : Int) = ((x0 &&& x2 : Nat) : Int) := u32_and_nat _ _ h0 h2
  have b3 : bits .and .u32 (x1 : Int) (x2 : Int) = ((x1 &&& x2 : Nat) : Int) := u32_and_nat _ _ h1 h2
  have l1 : x0 &&& x1 < 4294967296 := Nat.and_lt_two_pow (n := 32) _ h1
  have l2 : x0 &&& x2 < 4294967296 := Nat.and_lt_two_pow (n := 32) _ h2
  have l3 : x1 &&& x2 < 4294967296 := Nat.and_lt_two_pow (n := 32) _ h2
  have b4 : bits .xor .u32 ((x0 &&& x1 : Nat) : Int) ((x0 &&& x2 : Nat) : Int) = (((x0 &&& x1) ^^^ (x0 &&& x2) : Nat) : Int) := u32_xor_nat _ _ l1 l2
  have b5 : bits .xor .u32 (((x0 &&& x1) ^^^ (x0 &&& x2) : Nat) : Int) ((x1 &&& x2 : Nat) : Int) = ((majN x0 x1 x2 : Nat) : Int) := u32_xor_nat _ _ (Nat.xor_lt_two_pow (n := 32) l1 l2) l3
  obtain ⟨u, hu⟩ : ∃ u, u = uN x0 x1 x2 := ⟨_, rfl⟩
  obtain ⟨c, hc⟩ : ∃ c, c = majN x0 x1 x2 := ⟨_, rfl⟩
  rw [← hc] at b5
  have eu : ((s2 : Int) + c) % 4294967296 = (u : Int) := by
    rw [hu]; unfold uN; rw [← E2.out, ← hc]; omega
  have EU : Kept _ := ⟨hu⟩
  clear hu hc l1 l2 l3
  go_wp2_with fail
  rw [eu, ET2.out]
  clear b1 b2 b3 b4 b5 eu ET2
  refine wp_region_quiet_under (C := fun w' => Below w3.heap.size w3 w') 6 rfl (by kernel_rfl) (by kernel_rfl) (by kernel_rfl) (by kernel_rfl) (by kernel_rfl) (Below.drew (Below.refl _ _)) ?_
  dsimp only [List.take_succ_cons, List.take_zero]
  refine q_val (by kernel_rfl) (.pointer (some ⟨g, 0, none⟩)) (fun w' => by kernel_rfl) ?_
  simp only [Act.put, List.setIfInBounds_toArray, List.set_cons_succ, List.set_cons_zero]
  refine q_val (by kernel_rfl) (.pointer (some ⟨g, 0, none⟩)) (fun w' => by kernel_rfl) ?_
  simp only [Act.put, List.setIfInBounds_toArray, List.set_cons_succ, List.set_cons_zero]
  refine q_val (by kernel_rfl) (.slice (some ⟨g, 1, none⟩) 7 7) (fun w' => by kernel_rfl) ?_
  simp only [Act.put, List.setIfInBounds_toArray, List.set_cons_succ, List.set_cons_zero]
  refine q_val (by kernel_rfl) (.pointer (some ⟨g, 0, none⟩)) (fun w' => by kernel_rfl) ?_
  simp only [Act.put, List.setIfInBounds_toArray, List.set_cons_succ, List.set_cons_zero]
  refine q_val (by kernel_rfl) (.pointer (some ⟨g, 0, none⟩)) (fun w' => by kernel_rfl) ?_
  simp only [Act.put, List.setIfInBounds_toArray, List.set_cons_succ, List.set_cons_zero]
  refine q_val (by kernel_rfl) (.slice (some ⟨g, 0, none⟩) 7 8) (fun w' => by kernel_rfl) ?_
  simp only [Act.put, List.setIfInBounds_toArray, List.set_cons_succ, List.set_cons_zero]
  refine wpQuiet_nil ?_
  intro w4 hb4
  have A3' := A3.under hb4
  have G3' : Grew w w4 g := G3.trans (grew_of_below hb4)
  clear A3 G3 hb4
  refine wl_copy rfl (.tmp 74) (.tmp 77) 64 64 rfl 47 Tryd.underlying64 (by kernel_rfl) g 1 7 7 ⟨g, 0, none⟩ 7 8 (by kernel_rfl) (by kernel_rfl) _ A3' (ints .u32 [x0, x1, x2, x3, x4, x5, x6]).toList rfl ?hsrc (by simp [ints]) ?hone ?_
  case hsrc =>
    intro j v hv
    have hj : j < 7 := (List.getElem?_eq_some_iff.1 hv).1
    rw [show (⟨g, 0, none⟩ : Addr).add j = ⟨g, j, none⟩ from by rw [addr_add, Nat.zero_add]]
    refine A3'.cell ?_
    rw [← hv]
    rcases j with _ | _ | _ | _ | _ | _ | _ | j
    all_goals first | rfl | omega
  case hone =>
    intro v hv
    simp [ints] at hv
    rcases hv with rfl | rfl | rfl | rfl | rfl | rfl | rfl <;> rfl
  intro w5 A4 P4
  have A4 : Blk w5 g 49 (ints .u32 [x0, x0, x1, x2, x3, x4, x5, x6]) := A4
  have G4 : Grew w w5 g := G3'.trans P4.grown
  clear A3' G3' P4
  go_wp2_with fail
  obtain ⟨z, hz⟩ : ∃ z, z = (x3 + t) % 4294967296 := ⟨_, rfl⟩
  have EZ : Kept _ := ⟨hz⟩
  refine wp_region_quiet_under (C := fun w' => Below w5.heap.size w5 w') 8 rfl (by kernel_rfl) (by kernel_rfl) (by kernel_rfl) (by kernel_rfl) (by kernel_rfl) (Below.drew (Below.refl _ _)) ?_
  dsimp only [List.take_succ_cons, List.take_zero]
  refine q_val (by kernel_rfl) (.pointer (some ⟨g, 0, none⟩)) (fun w' => by kernel_rfl) ?_
  simp only [Act.put, List.setIfInBounds_toArray, List.set_cons_succ, List.set_cons_zero]
  refine q_val (by kernel_rfl) (.pointer (some ⟨g, 0, none⟩)) (fun w' => by kernel_rfl) ?_
  simp only [Act.put, List.setIfInBounds_toArray, List.set_cons_succ, List.set_cons_zero]
  refine q_val (by kernel_rfl) (.pointer (some ⟨g, 4, none⟩)) (fun w' => by kernel_rfl) ?_
  simp only [Act.put, List.setIfInBounds_toArray, List.set_cons_succ, List.set_cons_zero]
  refine q_elem (by kernel_rfl) 47 ag_u32 (.tmp 81) rfl (g) 4 (by kernel_rfl) 49 (ints .u32 [x0, x0, x1, x2, x3, x4, x5, x6]) (.int .u32 (x3 : Int)) (fun w' hb => Blk.under A4 hb) rfl ?_
  simp only [Act.put, List.setIfInBounds_toArray, List.set_cons_succ, List.set_cons_zero]
  refine q_val (by kernel_rfl) (.int .u32 (t : Int)) (fun w' => by kernel_rfl) ?_
  simp only [Act.put, List.setIfInBounds_toArray, List.set_cons_succ, List.set_cons_zero]
  refine q_val (by kernel_rfl) (.int .u32 (z : Int)) (fun w' => ?ad) ?_
  case ad =>
    simp [execOp, Act.eval, go_sem, IntKind.wrap_u32']
    omega
  simp only [Act.put, List.setIfInBounds_toArray, List.set_cons_succ, List.set_cons_zero]
  refine q_val (by kernel_rfl) (.pointer (some ⟨g, 0, none⟩)) (fun w' => by kernel_rfl) ?_
  simp only [Act.put, List.setIfInBounds_toArray, List.set_cons_succ, List.set_cons_zero]
  refine q_val (by kernel_rfl) (.pointer (some ⟨g, 4, none⟩)) (fun w' => by kernel_rfl) ?_
  simp only [Act.put, List.setIfInBounds_toArray, List.set_cons_succ, List.set_cons_zero]
  refine wpQuiet_nil ?_
  intro w6 hb6
  have A4' := A4.under hb6
  have G4' : Grew w w6 g := G4.trans (grew_of_below hb6)
  clear A4 G4 hb6
  refine wl_setElem rfl 47 sz_u32 (.tmp 86) (.tmp 84) rfl g 4 .u32 (z : Int) (by kernel_rfl) (by kernel_rfl) _ A4' (by simp [ints]) ?_
  intro w7 A5 P5
  rw [ints_set] at A5
  have G5 : Grew w w7 g := G4'.trans P5.grown
  clear A4' G4' P5 hz
  obtain ⟨y, hy⟩ : ∃ y, y = (t + u) % 4294967296 := ⟨_, rfl⟩
  have ey : ((t : Int) + u) % 4294967296 = (y : Int) := by rw [hy]; omega
  have EY : Kept _ := ⟨hy⟩
  clear hy
  go_wp2_with (first | (refine wl_setElem rfl 47 sz_u32 (.tmp 92) (.tmp 90) rfl g 0 .u32 (((t : Int) + u) % 4294967296) rfl rfl _ A5 (by simp [ints]) ?_))
  intro w8 A6 P6
  rw [ints_set] at A6
  have A6 : Blk w8 g 49 (ints .u32 [y, x0, x1, x2, z, x4, x5, x6]) := A6
  have G6 : Grew w w8 g := G5.trans P6.grown
  clear A5 G5 P6
  go_wp2_with fail
  refine bodyPost_end (results_none Tryd.results45 _ _ _) rfl ?_
  refine ⟨?_, G6, rfl⟩
  rw [EY.out, EZ.out, ET.out, EU.out] at A6
  exact A6
end Go.Proofs.YthnkipicehppmaaDoor.sh
