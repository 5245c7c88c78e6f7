/-
  codec.apart: what a text says, or that it says nothing.
-/
import Derived.Test.YtfkpbmkhkhnehaaCG
import Derived.Test.YtfkpbmkhkhnehaaSHM
namespace Go.Proofs.Ytfkpbmkhkhnehaa.sh
open Go Go.RowKit
set_option linter.unusedVariables false
set_option linter.unusedSimpArgs false

set_option maxRecDepth 100000 in
set_option maxHeartbeats 1000000 in
/-- The door, of a panic: whatever was told, nothing is told. -/
theorem door_panic {b : Nat} {x y z : Value} {W : World} {tmps : Array Value} {R : Ending → World → Prop} (h1 : Blk W b 5 #[x]) (h2 : Blk W (b + 1) 22 #[y]) (h3 : Blk W (b + 2) 4 #[z])
    (t2 : tmps[2]? = some (.pointer (some ⟨b, 0, none⟩))) (t3 : tmps[3]? = some (.pointer (some ⟨b + 1, 0, none⟩))) (t4 : tmps[4]? = some (.pointer (some ⟨b + 2, 0, none⟩)))
    (hR : ∀ w', Below b W w' → R (.returned (.tuple #[.int .u8 0, .slice none 0 0, .bool false])) w') :
    bodyPostD Try.prog Try.f27 R (.panic [{ v := PV, recovered := false }]) { tmps := tmps, defers := [{ target := .fn (.func 31) #[.pointer (some ⟨b, 0, none⟩), .pointer (some ⟨b + 1, 0, none⟩), .pointer (some ⟨b + 2, 0, none⟩)], args := #[] }] } W := by
  refine leaves_cons (f := 31) (args := #[.pointer (some ⟨b, 0, none⟩), .pointer (some ⟨b + 1, 0, none⟩), .pointer (some ⟨b + 2, 0, none⟩)]) (by simp) (by simp [go_sem]) ?_
  refine (rec_panic b x y z W h1 h2 h3).mono ?_
  rintro e u' w' ⟨rfl, rfl, hw⟩
  have c1 : W.cell? ⟨b, 0, none⟩ = some x := cell_row h1 rfl
  have c2 : W.cell? ⟨b + 1, 0, none⟩ = some y := cell_row h2 rfl
  have c3 : W.cell? ⟨b + 2, 0, none⟩ = some z := cell_row h3 rfl
  have d1 : w'.cell? ⟨b, 0, none⟩ = some (.int .u8 0) := by rw [hw]; simp [go_sem, c1, c2, c3]
  have d2 : w'.cell? ⟨b + 1, 0, none⟩ = some (.slice none 0 0) := by rw [hw]; simp [go_sem, c1, c2, c3]
  have d3 : w'.cell? ⟨b + 2, 0, none⟩ = some (.bool false) := by rw [hw]; simp [go_sem, c1, c2, c3]
  have hB : Below b W w' := by
    rw [hw]
    exact (((Below.refl b W).setCell (p := ⟨b, 0, none⟩) (Nat.le_refl _) _).setCell (p := ⟨b + 1, 0, none⟩) (by simp) _).setCell (p := ⟨b + 2, 0, none⟩) (by simp) _
  have hr := hR w' hB
  clear hR hw
  simp [Leaves, settle, results, Try.results27, go_sem, Array.getD_eq_getD_getElem?, t2, t3, t4, d1, d2, d3]
  exact hr

/-- What lies in memory while a text is gone through. -/
structure AS (w0 : World) (k : Nat) (v : Value) (ll : List (List Nat)) (rest : List Nat) (w : World) : Prop where
  kind : Blk w w0.heap.size 5 #[.int .u8 (k : Int)]
  list : Blk w (w0.heap.size + 1) 22 #[v]
  ok : Blk w (w0.heap.size + 2) 4 #[.bool false]
  wk : Wk (w0.heap.size + 3) rest w
  row : VRow (w0.heap.size + 4) 9 (strs ll) v w
  below : Below w0.heap.size w0 w
  size : w0.heap.size + 4 ≤ w.heap.size
theorem AS.drew {w0 : World} {k : Nat} {v : Value} {ll : List (List Nat)} {rest : List Nat} {w : World} (h : AS w0 k v ll rest w) : AS w0 k v ll rest { w with drawn := w.drawn + 1 } := ⟨h.kind, h.list, h.ok, h.wk, h.row, h.below.drew, h.size⟩
theorem AS.step {w0 : World} {k : Nat} {v : Value} {ll : List (List Nat)} {rest rest' : List Nat} {w w' : World} (h : AS w0 k v ll rest w) (hg : w.grownBy w' (some (w0.heap.size + 3))) (hk : Wk (w0.heap.size + 3) rest' w') : AS w0 k v ll rest' w' :=
  ⟨gb_blk hg h.kind (by omega), gb_blk hg h.list (by omega), gb_blk hg h.ok (by omega), hk, h.row.keeps hg (by
    cases hb : blkOf v with
    | none => exact .inl rfl
    | some b =>
      have := (h.row.range b hb).1
      exact .inr (fun e => by cases e; omega)), h.below.trans (gb_below hg (by have := h.size; omega) (by omega)), Nat.le_trans h.size hg.size⟩
theorem as_new (w : World) (s : List Nat) : AS w 0 (.slice none 0 0) [] s ((((w.alloc (.cells #[.int .u8 0] 5)).alloc (.cells #[.slice none 0 0] 22)).alloc (.cells #[.bool false] 4)).alloc (.cells #[.string (strOf s)] 71)) :=
  ⟨(((blk_new w _ _).alloc _).alloc _).alloc _, ((blk_top _ _ _ _ (by simp)).alloc _).alloc _, (blk_top _ _ _ _ (by simp)).alloc _, blk_top _ _ _ _ (by simp), vrow_nil _ _ _, ((((Below.refl _ _).alloc (Nat.le_refl _) _).alloc (by simp) _).alloc (by simp; omega) _).alloc (by simp; omega) _, by simp⟩
theorem split_short {s : List Nat} (h : s.length < 3) : splitL s = none := by
  unfold splitL
  match s, h with
  | [], _ => simp
  | [a], _ => simp
  | [a, b], _ => simp
theorem split_stuck {x k n : Nat} {r rest : List Nat} {done : List (List Nat)} (hy : Bytes (x :: k :: n :: r)) (hr : r = itemsL done ++ rest) (hn : done.length < n) (hs : Short rest) : splitL (x :: k :: n :: r) = none := by
  cases h : splitL (x :: k :: n :: r) with
  | none => rfl
  | some q =>
    obtain ⟨k', ll⟩ := q
    have h1 := ((splitL_says hy).1 h).1
    unfold joinL at h1
    simp only [List.cons.injEq] at h1
    obtain ⟨_, _, h2, h3⟩ := h1
    obtain ⟨l, e0, e1, e2, _⟩ := cut_stuck (q := []) (ll := ll) (done := done) (rest := rest) (by rw [List.append_nil, ← h3, hr]) (by omega)
    rcases hs with rfl | ⟨y, rfl⟩ | ⟨y, z, r', rfl, h4⟩
    · simp at e0
    · simp at e1
    · simp at e0 e1 e2
      omega
theorem split_end {x k n : Nat} {r rest : List Nat} {done : List (List Nat)} (hy : Bytes (x :: k :: n :: r)) (hr : r = itemsL done ++ rest) (hn : done.length = n) : splitL (x :: k :: n :: r) = if x = 1 ∧ rest = [] ∧ Fits done then some (k, done) else none := by
  by_cases hc : x = 1 ∧ rest = [] ∧ Fits done
  · obtain ⟨h1, h2, h3⟩ := hc
    rw [if_pos ⟨h1, h2, h3⟩]
    have : x :: k :: n :: r = joinL k done := by unfold joinL; rw [h1, hn, hr, h2, List.append_nil]
    rw [this]
    exact splitL_join h3
  · rw [if_neg hc]
    cases h : splitL (x :: k :: n :: r) with
    | none => rfl
    | some q =>
      obtain ⟨k', ll⟩ := q
      have hs := (splitL_says hy).1 h
      have h1 := hs.1
      unfold joinL at h1
      simp only [List.cons.injEq] at h1
      obtain ⟨h0, _, h2, h3⟩ := h1
      obtain ⟨e1, e2⟩ := items_prefix (ll := ll) (mm := done) (r := []) (q := rest) (by omega) (by rw [List.append_nil, ← h3, hr])
      exact absurd ⟨h0, e2.symm, by rw [← e1]; exact hs.2⟩ hc
theorem short_or {n : Nat} (l : List Nat) : Short l ∨ ∃ x y r, l = x :: y :: r ∧ 256 * x + y ≤ r.length := by
  match l with
  | [] => exact .inl (.inl rfl)
  | [x] => exact .inl (.inr (.inl ⟨x, rfl⟩))
  | x :: y :: r =>
    by_cases h : r.length < 256 * x + y
    · exact .inl (.inr (.inr ⟨x, y, r, rfl, h⟩))
    · exact .inr ⟨x, y, r, rfl, by omega⟩
theorem sz_strs : ∀ w, (sizeOf 22).run Try.prog w = .ok 1 w := Try.sizeOf22
theorem ag_strs : ∀ w, (isAgg 22).run Try.prog w = .ok false w := Try.isAgg22
/-- What is told of a text that says something. -/
def Told (b : Nat) (s : List Nat) (K V : Value) (w : World) : Prop := ∀ k ll, splitL s = some (k, ll) → K = .int .u8 (k : Int) ∧ VRow b 9 (strs ll) V w
theorem told_none {b : Nat} {s : List Nat} {K V : Value} {w : World} (h : splitL s = none) : Told b s K V w := fun k ll e => by rw [h] at e; cases e
def APost (b : Nat) (w0 : World) (s : List Nat) (O : Bool) (e : Ending) (w : World) : Prop := (∃ K V, e = .returned (.tuple #[K, V, .bool O]) ∧ Told b s K V w) ∧ Below w0.heap.size w0 w

set_option maxRecDepth 100000 in
set_option maxHeartbeats 1000000 in
theorem apart_short {s : List Nat} {w : World} (hs : Bytes s) (h3 : s.length < 3) :
    Calls Try.prog 27 #[.string (strOf s)] w fun e w' => APost w.heap.size w s false e w' := by
  have hmf : ∀ (fn : Fn) (first cap : Array Value) (w : World), (Instr.makeFunc fn first cap).run Try.prog w = .ok (.func fn first cap) w := fun _ _ _ _ => rfl
  have hN := split_short h3
  have fin : Kept (∀ w1 w2, AS w 0 (.slice none 0 0) [] [] w1 ∨ True → Below w.heap.size w w1 → Below w.heap.size w1 w2 → APost w.heap.size w s false (.returned (.tuple #[.int .u8 0, .slice none 0 0, .bool false])) w2) := ⟨fun w1 w2 _ h1 h2 => ⟨⟨_, _, rfl, told_none hN⟩, h1.trans h2⟩⟩
  match s, hs, h3 with
  | [], hs, _ =>
    have A0 := as_new w []
    go_enter_defers Try.func27, Try.ntmps27
    go_wp2_with fail
    refine (number_dies A0.wk).mono ?_
    rintro e w1 ⟨hd, rfl⟩
    obtain rfl := hd
    exact door_panic A0.kind A0.list A0.ok rfl rfl rfl (fun w2 h2 => fin.out _ w2 (.inr trivial) A0.below h2)
  | [x], hs, _ =>
    have A0 := as_new w [x]
    have C1 := number_ok A0.wk (hs 0 x rfl) hs (by simp)
    go_enter_defers Try.func27, Try.ntmps27
    go_wp2_with fail
    refine C1.mono ?_
    rintro e w1 ⟨rfl, b1, p1⟩
    have A1 := A0.step p1.grown b1
    clear A0 b1 p1
    go_wp2_with fail
    refine (number_dies A1.wk).mono ?_
    rintro e w2 ⟨hd, rfl⟩
    obtain rfl := hd
    exact door_panic A1.kind A1.list A1.ok rfl rfl rfl (fun w2 h2 => fin.out _ w2 (.inr trivial) A1.below h2)
  | [x, k], hs, _ =>
    have A0 := as_new w [x, k]
    have C1 := number_ok A0.wk (hs 0 x rfl) hs (by simp)
    have hk : k < 256 := hs 1 k rfl
    have C2 := fun w2 (h2 : Wk (w.heap.size + 3) [k] w2) => number_ok h2 hk (bytes_of_all (fun y hy => by simp at hy; omega)) (by simp)
    go_enter_defers Try.func27, Try.ntmps27
    go_wp2_with fail
    refine C1.mono ?_
    rintro e w1 ⟨rfl, b1, p1⟩
    have A1 := A0.step p1.grown b1
    clear A0 b1 p1
    go_wp2_with fail
    refine (C2 _ A1.wk).mono ?_
    rintro e w2 ⟨rfl, b2, p2⟩
    have A2 := A1.step p2.grown b2
    clear A1 b2 p2
    go_wp2_with (first | ((with_reducible refine wv_val (d := 14) ?hd ?hw (.int .u8 (k : Int)) ?hr ?_); (case hd => rfl); (case hw => kernel_rfl); (case hr => intro w; exact run_c38 rfl (by kernel_rfl) hk w); simp only [Act.put, List.setIfInBounds_toArray, List.set_cons_succ, List.set_cons_zero]) | (refine wl_set1 rfl 5 sz_u8 (.tmp 2) (.tmp 14) rfl w.heap.size 0 (.int .u8 (k : Int)) rfl rfl rfl _ A2.kind Nat.zero_lt_one ?_))
    intro w3 b3 p3
    have A3l := p3.blk A2.list (by omega)
    have A3o := p3.blk A2.ok (by omega)
    have A3w : Wk (w.heap.size + 3) [] w3 := p3.blk A2.wk (by omega)
    have A3b := A2.below.trans (p3.below (Nat.le_refl _))
    clear A2 p3
    go_wp2_with fail
    refine (number_dies A3w).mono ?_
    rintro e w4 ⟨hd, rfl⟩
    obtain rfl := hd
    exact door_panic b3 A3l A3o rfl rfl rfl (fun w2 h2 => fin.out _ w2 (.inr trivial) A3b h2)
end Go.Proofs.Ytfkpbmkhkhnehaa.sh
