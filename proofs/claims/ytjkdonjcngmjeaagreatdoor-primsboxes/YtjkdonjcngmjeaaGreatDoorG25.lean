/-
  General pieces, joined: CI CJ.
-/
import Derived.Test.YtjkdonjcngmjeaaGreatDoorG24
/-
  codec.apart, of a text of three bytes or more.
-/
namespace Go.Proofs.YtjkdonjcngmjeaaGreatDoor.sh
open Go Go.RowKit
set_option linter.unusedVariables false
set_option linter.unusedSimpArgs false

theorem sz_bool : ∀ w, (sizeOf 4).run Tryz.prog w = .ok 1 w := Tryz.sizeOf4
theorem inf_str : (Tryz.prog.info? 9).map (fun i => (i.zero, i.size, i.bytes)) = some (some (.string .empty), 1, 16) := by kernel_rfl
theorem wl_build1S {ops : Array Oper} {rest : List Oper} {o : Oper} {a : Act} {w : World} {Q : Exit → Act → World → Prop} (hg : o.guard = none) (x : Operand) (ho : o.op = .buildSlice 43 1 #[(0, x)]) (s : List Nat) (hx : a.eval x = .string (strOf s))
    (h : wpList Tryz.prog ops Q rest (a.put o.dst (.slice (some ⟨w.heap.size, 0, none⟩) 1 1)) (w.alloc (.cells #[.string (strOf s)] 9))) : wpList Tryz.prog ops Q (o :: rest) a w := by
  obtain ⟨ie, hie, hz0, hz1, _⟩ := info_parts inf_str
  have hf := Great.fill_whole (s := 1) (by decide) [Value.string (strOf s)] ((Array.range (1 * 1)).map ((Value.string .empty).cells[· % (Value.string .empty).cells.size]!)) (fun v hv => by simp at hv; subst hv; rfl) (by simp)
  refine wpList_buildSlice hg 43 9 1 #[(0, x)] ho _ ie _ Tryz.underlying43 hie hz0 (by rw [hz1]; decide) (by rw [hz1]; decide) ?_ h
  rw [hz1]
  simpa [hx, Value.cells] using hf
theorem AS.under {w0 : World} {k : Nat} {v : Value} {ll : List (List Nat)} {rest : List Nat} {w w' : World} (h : AS w0 k v ll rest w) (hb : Below w.heap.size w w') : AS w0 k v ll rest w' :=
  ⟨h.kind.under hb, h.list.under hb, h.ok.under hb, h.wk.under hb, h.row.under hb, h.below.trans (hb.mono (by have := h.size; omega)), Nat.le_trans h.size hb.size⟩
theorem blk_grown {w w' : World} {r : Option Nat} {k : Nat} {t : TypeId} {A : Array Value} (h : w.grownBy w' r) (hk : Blk w k t A) (hne : some k ≠ r) : Blk w' k t A := (h.block k hk.lt hne).trans hk
/-- A text more, and the list is where it was. -/
theorem AS.app {w0 : World} {k : Nat} {v v' : Value} {ll : List (List Nat)} {T rest : List Nat} {w w' w2 : World} (h : AS w0 k v ll rest w) (hr : VRow (w0.heap.size + 4) 9 (strs ll ++ [.string (strOf T)]) v' w') (hg : w.grownBy w' (blkOf v)) (hb : Blk w2 (w0.heap.size + 1) 43 #[v']) (hp : Put w' w2 (w0.heap.size + 1)) : AS w0 k v' (ll ++ [T]) rest w2 := by
  have hne : ∀ j, j < w0.heap.size + 4 → some j ≠ blkOf v := fun j hj e => by
    have := (h.row.range j e.symm).1
    omega
  have hne' : blkOf v' = none ∨ blkOf v' ≠ some (w0.heap.size + 1) := by
    cases hb' : blkOf v' with
    | none => exact .inl rfl
    | some b =>
      have := (hr.range b hb').1
      exact .inr (fun e => by cases e; omega)
  refine ⟨hp.blk (blk_grown hg h.kind (hne _ (by omega))) (by omega), hb, hp.blk (blk_grown hg h.ok (hne _ (by omega))) (by omega), hp.blk (blk_grown hg h.wk (hne _ (by omega))) (by omega), ?_, ?_, ?_⟩
  · have e : strs (ll ++ [T]) = strs ll ++ [.string (strOf T)] := strs_append _ _
    rw [e]
    exact hr.keeps hp.grown hne'
  · exact (h.below.trans (grown_mono hg (by have := h.size; omega) (fun b hb => by have := (h.row.range b hb).1; omega))).trans (hp.below (by omega))
  · rw [hp.size]; exact Nat.le_trans h.size hg.size
theorem AS.cellL {w0 : World} {k : Nat} {v v' : Value} {ll : List (List Nat)} {T rest : List Nat} {w w' : World} (h : AS w0 k v ll rest w) (hr : VRow (w0.heap.size + 4) 9 (strs ll ++ [.string (strOf T)]) v' w') (hg : w.grownBy w' (blkOf v)) : Blk w' (w0.heap.size + 1) 43 #[v] ∧ v'.oneCell' = true :=
  ⟨blk_grown hg h.list (fun e => by have := (h.row.range _ e.symm).1; omega), by rcases hr.2 with ⟨rfl, _⟩ | ⟨g, cap, cur, rfl, _⟩ <;> rfl⟩
theorem permB (a : Act) (x y u z : Value) : ((((a.put (some 19) y).put (some 18) x).put (some 20) u).put (some 21) z) = putR a [(18, x), (19, y), (20, u), (21, z)] := by
  rw [put_comm a 19 18 (by decide)]
  rfl
theorem permC (a : Act) (x y u z : Value) : ((((a.put (some 19) y).put (some 20) u).put (some 18) x).put (some 21) z) = putR a [(18, x), (19, y), (20, u), (21, z)] := by
  rw [put_comm _ 20 18 (by decide), put_comm a 19 18 (by decide)]
  rfl
set_option maxRecDepth 100000 in
set_option maxHeartbeats 1000000 in
/-- The door, where it returns: what the variables hold. -/
theorem door_ret {b : Nat} {x y z : Value} {W : World} {tmps : Array Value} {R : Ending → World → Prop} (h1 : Blk W b 5 #[x]) (h2 : Blk W (b + 1) 43 #[y]) (h3 : Blk W (b + 2) 4 #[z])
    (t2 : tmps[2]? = some (.pointer (some ⟨b, 0, none⟩))) (t3 : tmps[3]? = some (.pointer (some ⟨b + 1, 0, none⟩))) (t4 : tmps[4]? = some (.pointer (some ⟨b + 2, 0, none⟩)))
    (hR : R (.returned (.tuple #[x, y, z])) W) :
    bodyPostD Tryz.prog Tryz.f69 R .ret { tmps := tmps, defers := [{ target := .fn (.func 109) #[.pointer (some ⟨b, 0, none⟩), .pointer (some ⟨b + 1, 0, none⟩), .pointer (some ⟨b + 2, 0, none⟩)], args := #[] }] } W := by
  have d1 : W.cell? ⟨b, 0, none⟩ = some x := cell_row h1 rfl
  have d2 : W.cell? ⟨b + 1, 0, none⟩ = some y := cell_row h2 rfl
  have d3 : W.cell? ⟨b + 2, 0, none⟩ = some z := cell_row h3 rfl
  refine leaves_cons (f := 109) (args := #[.pointer (some ⟨b, 0, none⟩), .pointer (some ⟨b + 1, 0, none⟩), .pointer (some ⟨b + 2, 0, none⟩)]) (by simp) (by simp [go_sem]) ?_
  refine (rec_idle b W).mono ?_
  rintro e u' w' ⟨rfl, rfl, rfl⟩
  simp [Leaves, settle, results, Tryz.results69, go_sem, Array.getD_eq_getD_getElem?, t2, t3, t4, d1, d2, d3]
  exact hR
theorem run_eqK {o : Oper} {a : Act} {x : Operand} {m : Nat} {b : Bool} (c : Nat) (ho : o.op = .binOp .eql 3 x (.const (.int .i64 (c : Int))) 3) (hx : a.eval x = .int .i64 (m : Int)) (hb : b = decide (m = c)) (w : World) : (execOp a.eval o).run Tryz.prog w = .ok (.value (.bool b)) w := by
  have e3 : a.eval (.const (.int .i64 (c : Int))) = .int .i64 (c : Int) := rfl
  have h : ((m : Int) == (c : Int)) = b := by
    rw [hb]
    by_cases h : m = c
    · subst h; simp
    · rw [decide_eq_false h]
      exact beq_eq_false_iff_ne.2 (by omega)
  unfold execOp
  simp only [ho, hx, e3]
  simp [go_sem]
  first | exact h | simpa using h | (rw [hb]; exact decide_eq_decide.2 (by omega))
theorem item_in : ∀ {ll : List (List Nat)} {l : List Nat}, l ∈ ll → l.length ≤ (itemsL ll).length
  | x :: ll, l, h => by
    rw [itemsL_cons, List.length_append, itemL_len]
    rcases List.mem_cons.1 h with rfl | h
    · omega
    · have := item_in h
      omega
theorem AS.fin {w0 : World} {k : Nat} {v : Value} {done : List (List Nat)} {s rest : List Nat} {O o : Bool} {wz w5 w6 : World} (h : AS w0 k v done rest wz) (h5 : Below wz.heap.size wz w5) (hb : Blk w6 (w0.heap.size + 2) 4 #[.bool o]) (hp : Put w5 w6 (w0.heap.size + 2)) (hO : O = o) (hs : ∀ k' ll, splitL s = some (k', ll) → k' = k ∧ ll = done) : APost (w0.heap.size + 4) w0 s O (.returned (.tuple #[.int .u8 (k : Int), v, .bool o])) w6 := by
  have h1 := h.under h5
  refine ⟨⟨_, _, by rw [hO], fun k' ll e => ?_⟩, h1.below.trans (hp.below (by omega))⟩
  obtain ⟨rfl, rfl⟩ := hs k' ll e
  refine ⟨rfl, h1.row.keeps hp.grown ?_⟩
  cases hb' : blkOf v with
  | none => exact .inl rfl
  | some b =>
    have := (h1.row.range b hb').1
    exact .inr (fun e => by cases e; omega)
set_option maxRecDepth 100000 in
set_option maxHeartbeats 4000000 in
theorem apart_long {x k n : Nat} {r : List Nat} {O : Bool} {w : World} (hs : Bytes (x :: k :: n :: r)) (hL : r.length ≤ 40000) (hO : O = (splitL (x :: k :: n :: r)).isSome) :
    Calls Tryz.prog 69 #[.string (strOf (x :: k :: n :: r))] w fun e w' => APost (w.heap.size + 4) w (x :: k :: n :: r) O e w' := by
  have hmf : ∀ (fn : Fn) (first cap : Array Value) (w : World), (Instr.makeFunc fn first cap).run Tryz.prog w = .ok (.func fn first cap) w := fun _ _ _ _ => rfl
  have hx8 : x < 256 := hs 0 x rfl
  have hk8 : k < 256 := hs 1 k rfl
  have hn8 : n < 256 := hs 2 n rfl
  have y1 : Bytes (k :: n :: r) := fun i z hz => hs (i + 1) z hz
  have y2 : Bytes (n :: r) := fun i z hz => hs (i + 2) z hz
  have y3 : Bytes r := fun i z hz => hs (i + 3) z hz
  have A0 := as_new w (x :: k :: n :: r)
  have C1 := number_ok A0.wk hx8 hs (by simp; omega)
  have C2 := fun w2 (h2 : Wk (w.heap.size + 3) (k :: n :: r) w2) => number_ok h2 hk8 y1 (by simp; omega)
  have C3 := fun w2 (h2 : Wk (w.heap.size + 3) (n :: r) w2) => number_ok h2 hn8 y2 (by simp; omega)
  have fin : Kept (∀ w1 w2, splitL (x :: k :: n :: r) = none → Below w.heap.size w w1 → Below w.heap.size w1 w2 → APost (w.heap.size + 4) w (x :: k :: n :: r) O (.returned (.tuple #[.int .u8 0, .slice none 0 0, .bool false])) w2) := ⟨fun w1 w2 hN h1 h2 => ⟨⟨_, _, by rw [hO, hN]; rfl, told_none hN⟩, h1.trans h2⟩⟩
  have YS : Kept _ := ⟨hs⟩
  have YR3 : Kept _ := ⟨y3⟩
  have EO : Kept _ := ⟨hO⟩
  clear hs y1 y2 y3 hO
  go_enter_defers Tryz.func69, Tryz.ntmps69
  go_wp2_with fail
  refine C1.mono ?_
  rintro e w1 ⟨rfl, b1, p1⟩
  have A1 := A0.step p1.grown b1
  clear A0 b1 p1 C1
  go_wp2_with fail
  refine (C2 _ A1.wk).mono ?_
  rintro e w2 ⟨rfl, b2, p2⟩
  have A2 := A1.step p2.grown b2
  clear A1 b2 p2 C2
  go_wp2_with (first | ((with_reducible refine wv_val (d := 14) ?hd ?hw (.int .u8 (k : Int)) ?hr ?_); (case hd => rfl); (case hw => kernel_rfl); (case hr => intro w; exact run_c38 rfl (by kernel_rfl) hk8 w); simp only [Act.put, List.setIfInBounds_toArray, List.set_cons_succ, List.set_cons_zero]) | (refine wl_set1 rfl 5 sz_u8 (.tmp 2) (.tmp 14) rfl w.heap.size 0 (.int .u8 (k : Int)) rfl rfl rfl _ A2.kind Nat.zero_lt_one ?_))
  intro w3 b3 p3
  have A3 : AS w k (.slice none 0 0) [] (n :: r) w3 := ⟨b3, p3.blk A2.list (by omega), p3.blk A2.ok (by omega), p3.blk A2.wk (by omega), vrow_nil _ _ _, A2.below.trans (p3.below (Nat.le_refl _)), by rw [p3.size]; exact A2.size⟩
  clear A2 b3 p3
  go_wp2_with fail
  refine (C3 _ A3.wk).mono ?_
  rintro e w4 ⟨rfl, b4, p4⟩
  have A4 := A3.step p4.grown b4
  clear A3 b4 p4 C3
  go_wp2_with fail
  go_loopg [16] n (fun g s16 wr => ∃ (i : Nat) (done : List (List Nat)) (rest : List Nat) (v : Value), i + g = n ∧ s16 = .int .i64 (i : Int) ∧ Kept (done.length = i ∧ r = itemsL done ++ rest ∧ v.oneCell' = true) ∧ AS w k v done rest wr)
  case atStart => exact ⟨0, [], r, _, by omega, rfl, ⟨rfl, by simp [itemsL], rfl⟩, A4⟩
  case round =>
    rename World => wz
    obtain ⟨i, done, rest, v, hik, rfl, KD, AE⟩ := hrel
    clear A4
    have YR : Kept (Bytes rest) := ⟨fun j z hz => YR3.out (j + (itemsL done).length) z (by rw [KD.out.2.1, List.getElem?_append_right (by omega)]; simpa using hz)⟩
    have hRL : rest.length ≤ 40000 := by have := congrArg List.length KD.out.2.1; rw [List.length_append] at this; omega
    have ONE : Kept _ := ⟨KD.out.2.2⟩
    by_cases hk0 : gk = 0
    case neg =>
      have hin : i < n := by omega
      have hin' : (i : Int) < (n : Int) := by omega
      go_wp2_with fail
      rcases short_or (n := 0) rest with hS | ⟨p, q, r', hR, hpq⟩
      case inl =>
        have hN := split_stuck YS.out KD.out.2.1 (by have := KD.out.1; omega) hS
        have CT := fun w5 (h5 : Wk (w.heap.size + 3) rest w5) => text_dies h5 YR.out (by omega) hS
        refine wp_region_any rfl ?_
        refine any2 (f := 4) (i := 0) (j := 1) rfl (by kernel_rfl) rfl rfl ?_ ?_
        · refine wl_elem rfl 43 ag_strs (.tmp 3) rfl (w.heap.size + 1) 0 rfl #[v] v (AE.drew).list rfl ?_; refine wpList_nil ?_
          refine any1 (f := 3) (i := 1) rfl (by kernel_rfl) rfl ?_
          refine wl_callP rfl 111 Tryz.f111 _ [.tmp 5] _ _ rfl rfl Tryz.func111 (by kernel_rfl) rfl ?_
          refine (CT _ AE.drew.wk).mono ?_
          rintro e w5 ⟨hd, g5⟩
          have A5 := AE.drew.step (rest' := rest) g5
          exact ⟨_, hd, door_panic (gb_blk g5 AE.kind (by omega)) (gb_blk g5 AE.list (by omega)) (gb_blk g5 AE.ok (by omega)) rfl rfl rfl (fun w6 h6 => fin.out _ w6 hN (AE.drew.below.trans (gb_below g5 (by have := AE.size; show _ ≤ wz.heap.size; omega) (by omega))) h6)⟩
        · refine wl_callP rfl 111 Tryz.f111 _ [.tmp 5] _ _ rfl rfl Tryz.func111 (by kernel_rfl) rfl ?_
          refine (CT _ AE.drew.wk).mono ?_
          rintro e w5 ⟨hd, g5⟩
          exact ⟨_, hd, door_panic (gb_blk g5 AE.kind (by omega)) (gb_blk g5 AE.list (by omega)) (gb_blk g5 AE.ok (by omega)) rfl rfl rfl (fun w6 h6 => fin.out _ w6 hN (AE.drew.below.trans (gb_below g5 (by have := AE.size; show _ ≤ wz.heap.size; omega) (by omega))) h6)⟩
      case inr =>
        obtain ⟨m, hm⟩ : ∃ m, m = 256 * p + q := ⟨_, rfl⟩
        obtain ⟨T, hT⟩ : ∃ T, T = r'.take m := ⟨_, rfl⟩
        obtain ⟨D, hD⟩ : ∃ D, D = r'.drop m := ⟨_, rfl⟩
        have hRS : r = itemsL (done ++ [T]) ++ D := by
          have h := KD.out.2.1
          have h0 : rest[0]? = some p := by rw [hR]; rfl
          have h1 : rest[1]? = some q := by rw [hR]; rfl
          have := cut_step (done := done) (rest := rest) (n := m) h0 h1 (YR.out 1 q h1) hm (by rw [hR]; simp; omega)
          rw [h, this, hT, hD, hR]
          simp
        have KT : Kept (∀ w5, AS w k v done rest w5 → Calls Tryz.prog 111 #[.pointer (some ⟨w.heap.size + 3, 0, none⟩)] w5 fun e w' => ∃ u, e = .returned u ∧ (u = .string (strOf T) ∧ AS w k v done D w')) := ⟨fun w5 h5 => by
          have h6 := h5.wk
          rw [hR] at h6
          refine (text_ok h6 (by rw [← hR]; exact YR.out) (by rw [← hR]; omega) hm (by omega)).mono ?_
          rintro e w' ⟨rfl, hk', hg'⟩
          exact ⟨_, rfl, by rw [hT], h5.step hg' (by rw [hD]; exact hk')⟩⟩
        have KR : Kept _ := ⟨hRS⟩
        have one_T : Kept (∀ x ∈ [Value.string (strOf T)], x.oneCell' = true) := ⟨fun x hx => by simp at hx; subst hx; rfl⟩
        have len_T : Kept ((strs done).length + [Value.string (strOf T)].length ≤ 1099511627776) := ⟨by rw [strs_len, KD.out.1]; simp; omega⟩
        have lit : Kept (∀ w5 : World, ValsV (.slice (some ⟨w5.heap.size, 0, none⟩) 1 1) (w5.alloc (.cells #[.string (strOf T)] 9)) [.string (strOf T)]) := ⟨fun w5 => vrow_vals (vrow_lit (base := 0) w5 #[.string (strOf T)] 1 rfl (Nat.zero_le _) (by decide))⟩
        clear hR hpq hm hT hD hRS
        refine region_to (fun a0 a' w' => ∃ v' u, a' = putR a0 [(18, v), (19, .string (strOf T)), (20, u), (21, v')] ∧ v'.oneCell' = true ∧ AS w k v' (done ++ [T]) D w') rfl ?_ ?_
        · intro Q' hQ _
          refine any2 (f := 4) (i := 0) (j := 1) rfl (by kernel_rfl) rfl rfl ?_ ?_
          · refine wl_elem rfl 43 ag_strs (.tmp 3) rfl (w.heap.size + 1) 0 rfl #[v] v (AE.drew).list rfl ?_; refine wpList_nil ?_
            refine any1 (f := 3) (i := 1) rfl (by kernel_rfl) rfl ?_
            refine wl_callC rfl 111 Tryz.f111 _ [.tmp 5] _ _ rfl rfl Tryz.func111 (by kernel_rfl) rfl (R := fun u w' => u = .string (strOf T) ∧ AS w k v done D w') (KT.out _ (AE.drew)) ?_
            rintro u w5 ⟨rfl, A5⟩
            refine wpList_nil ?_
            refine any1 (f := 2) (i := 2) rfl (by kernel_rfl) rfl ?_
            refine wl_build1S rfl (.tmp 19) rfl T rfl ?_; refine wpList_nil ?_
            refine any1 (f := 1) (i := 3) rfl (by kernel_rfl) rfl ?_
            have A6 := A5.under ((Below.refl _ _).alloc (Nat.le_refl _) (.cells #[.string (strOf T)] 9))
            refine wl_appV rfl (.tmp 18) (.tmp 20) 43 9 (.string .empty) 16 rfl Tryz.underlying43 inf_str rfl (by decide) (w.heap.size + 4) (strs done) [.string (strOf T)] v _ rfl rfl (A6).row (lit.out w5) one_T.out len_T.out (A6).size ?_
            intro v' w6 r6 g6 _
            refine wpList_nil ?_
            refine any1 (f := 0) (i := 4) rfl (by kernel_rfl) rfl ?_
            refine wl_set1 rfl 43 sz_strs (.tmp 3) (.tmp 21) rfl (w.heap.size + 1) 0 v' rfl rfl (A6.cellL r6 g6).2 #[v] (A6.cellL r6 g6).1 Nat.zero_lt_one ?_
            intro w7 b7 p7
            refine wpList_nil ?_
            refine any0 (by kernel_rfl) ?_
            exact hQ _ _ ⟨v', _, rfl, (A6.cellL r6 g6).2, A6.app r6 g6 b7 p7⟩
          · refine wl_callC rfl 111 Tryz.f111 _ [.tmp 5] _ _ rfl rfl Tryz.func111 (by kernel_rfl) rfl (R := fun u w' => u = .string (strOf T) ∧ AS w k v done D w') (KT.out _ (AE.drew)) ?_
            rintro u w5 ⟨rfl, A5⟩
            refine wpList_nil ?_
            refine any2 (f := 3) (i := 0) (j := 2) rfl (by kernel_rfl) rfl rfl ?_ ?_
            · refine wl_elem rfl 43 ag_strs (.tmp 3) rfl (w.heap.size + 1) 0 rfl #[v] v (A5).list rfl ?_; refine wpList_nil ?_
              refine any1 (f := 2) (i := 2) rfl (by kernel_rfl) rfl ?_
              refine wl_build1S rfl (.tmp 19) rfl T rfl ?_; refine wpList_nil ?_
              refine any1 (f := 1) (i := 3) rfl (by kernel_rfl) rfl ?_
              have A6 := A5.under ((Below.refl _ _).alloc (Nat.le_refl _) (.cells #[.string (strOf T)] 9))
              refine wl_appV rfl (.tmp 18) (.tmp 20) 43 9 (.string .empty) 16 rfl Tryz.underlying43 inf_str rfl (by decide) (w.heap.size + 4) (strs done) [.string (strOf T)] v _ rfl rfl (A6).row (lit.out w5) one_T.out len_T.out (A6).size ?_
              intro v' w6 r6 g6 _
              refine wpList_nil ?_
              refine any1 (f := 0) (i := 4) rfl (by kernel_rfl) rfl ?_
              refine wl_set1 rfl 43 sz_strs (.tmp 3) (.tmp 21) rfl (w.heap.size + 1) 0 v' rfl rfl (A6.cellL r6 g6).2 #[v] (A6.cellL r6 g6).1 Nat.zero_lt_one ?_
              intro w7 b7 p7
              refine wpList_nil ?_
              refine any0 (by kernel_rfl) ?_
              exact hQ _ _ ⟨v', _, permB _ _ _ _ _, (A6.cellL r6 g6).2, A6.app r6 g6 b7 p7⟩
            · refine wl_build1S rfl (.tmp 19) rfl T rfl ?_; refine wpList_nil ?_
              refine any1 (f := 2) (i := 0) rfl (by kernel_rfl) rfl ?_
              have A6 := A5.under ((Below.refl _ _).alloc (Nat.le_refl _) (.cells #[.string (strOf T)] 9))
              refine wl_elem rfl 43 ag_strs (.tmp 3) rfl (w.heap.size + 1) 0 rfl #[v] v (A6).list rfl ?_; refine wpList_nil ?_
              refine any1 (f := 1) (i := 3) rfl (by kernel_rfl) rfl ?_
              refine wl_appV rfl (.tmp 18) (.tmp 20) 43 9 (.string .empty) 16 rfl Tryz.underlying43 inf_str rfl (by decide) (w.heap.size + 4) (strs done) [.string (strOf T)] v _ rfl rfl (A6).row (lit.out w5) one_T.out len_T.out (A6).size ?_
              intro v' w6 r6 g6 _
              refine wpList_nil ?_
              refine any1 (f := 0) (i := 4) rfl (by kernel_rfl) rfl ?_
              refine wl_set1 rfl 43 sz_strs (.tmp 3) (.tmp 21) rfl (w.heap.size + 1) 0 v' rfl rfl (A6.cellL r6 g6).2 #[v] (A6.cellL r6 g6).1 Nat.zero_lt_one ?_
              intro w7 b7 p7
              refine wpList_nil ?_
              refine any0 (by kernel_rfl) ?_
              exact hQ _ _ ⟨v', _, permC _ _ _ _ _, (A6.cellL r6 g6).2, A6.app r6 g6 b7 p7⟩
        · rintro a' w5 ⟨v', u, rfl, o5, A5⟩
          simp only [putR, List.foldl_cons, List.foldl_nil, List.map_cons, List.map_nil, Act.put, List.setIfInBounds_toArray, List.set_cons_succ, List.set_cons_zero]
          clear AE lit one_T len_T KT
          go_wp2_with fail
          go_roundg (gk - 1)
          case measure => omega
          case rel => exact ⟨i + 1, done ++ [T], D, v', by omega, by simp, ⟨by rw [List.length_append, KD.out.1]; rfl, KR.out, o5⟩, A5⟩
    case pos =>
      obtain rfl : n = i := by omega
      have hSE := split_end YS.out KD.out.2.1 KD.out.1
      have hOne : Kept (∀ k' ll, splitL (x :: k :: n :: r) = some (k', ll) → k' = k ∧ ll = done) := ⟨fun k' ll e => by
        rw [hSE] at e
        by_cases hc : x = 1 ∧ rest = [] ∧ Fits done
        · rw [if_pos hc] at e; cases e; exact ⟨rfl, rfl⟩
        · rw [if_neg hc] at e; cases e⟩
      have CS := sizeOfD (vrow_vals AE.row) (fun l hl => by have := item_in hl; have h2 := congrArg List.length KD.out.2.1; rw [List.length_append] at h2; unfold maxLen; omega)
      obtain ⟨F, hF⟩ : ∃ F, F = decide (Fits done) := ⟨_, rfl⟩
      rw [← hF] at CS
      have EO2 : Kept (O = (decide (x = 1) && (decide (rest = []) && F))) := ⟨by
        rw [EO.out, hSE, hF]
        by_cases hc : x = 1 ∧ rest = [] ∧ Fits done
        · rw [if_pos hc]; simp [hc]
        · rw [if_neg hc]
          by_cases h1 : x = 1
          · by_cases h2 : rest = []
            · have h3 : ¬ Fits done := fun h => hc ⟨h1, h2, h⟩
              simp [h3]
            · simp [h2]
          · simp [h1]⟩
      clear hSE hF
      go_wp2_with (first | ((with_reducible refine wv_elem (d := 24) ?hd ?hw 43 ag_strs (.tmp 3) ?ho (⟨w.heap.size + 1, 0, none⟩) ?hx (v) ?hc ?_); (case hd => rfl); (case hw => kernel_rfl); (case ho => rfl); (case hx => kernel_rfl); (case hc => exact (cell_row AE.list rfl)); simp only [Act.put, List.setIfInBounds_toArray, List.set_cons_succ, List.set_cons_zero]))
      refine CS.mono ?_
      rintro e w5 ⟨⟨m, rfl, _⟩, hw5⟩
      obtain rfl := hw5.symm
      clear CS
      go_wp2_with fail
      by_cases hx1 : x = 1
      case neg =>
        have X1 : Kept _ := ⟨decide_eq_false hx1⟩
        have EO3 : Kept (O = false) := ⟨by rw [EO2.out, X1.out]; rfl⟩
        refine region_skipM wz 14 [(28, .int .u8 (k : Int)), (29, v), (30, .int .i64 (x : Int)), (31, .bool false), (32, .bool false), (33, undef), (34, undef), (35, undef), (36, .bool false), (37, .bool false), (38, undef), (39, .bool false)] [] rfl (by kernel_rfl) (by kernel_rfl) (by kernel_rfl) (by kernel_rfl) (by kernel_rfl) (by kernel_rfl) (by kernel_rfl) (by kernel_rfl) ?hst (Below.refl _ _) (fun hA => ⟨.inl (.inl (ow_elem hA (wants_none rfl) 28 (.int .u8 (k : Int)) (by kernel_rfl) rfl rfl rfl rfl (by kernel_rfl) 5 ag_u8 (.tmp 2) rfl (⟨w.heap.size, 0, none⟩) (by kernel_rfl) (fun w1 hb => cell_row (AE.kind.under hb) rfl))), .inl (.inl (ow_elem hA (wants_none rfl) 29 (v) (by kernel_rfl) rfl rfl rfl rfl (by kernel_rfl) 43 ag_strs (.tmp 3) rfl (⟨w.heap.size + 1, 0, none⟩) (by kernel_rfl) (fun w1 hb => cell_row (AE.list.under hb) rfl))), .inl (.inl (ow_val hA (wants_none rfl) 30 (.int .i64 (x : Int)) (by kernel_rfl) rfl rfl rfl rfl (by kernel_rfl) (fun w => by kernel_rfl))), .inl (.inl (ow_val hA (wants_none rfl) 31 (.bool false) (by kernel_rfl) rfl rfl rfl rfl (by kernel_rfl) (fun w => run_eqK 1 rfl (by kernel_rfl) X1.out.symm w))), .inl (.inl (ow_val hA (wants_none rfl) 32 (.bool false) (by kernel_rfl) rfl rfl rfl rfl (by kernel_rfl) (fun w => by kernel_rfl))), .inl (skip_at hA 4 true false 33 32 rfl rfl (by kernel_rfl) rfl (by kernel_rfl) rfl rfl rfl (by kernel_rfl)), .inl (skip_at hA 4 true false 34 32 rfl rfl (by kernel_rfl) rfl (by kernel_rfl) rfl rfl rfl (by kernel_rfl)), .inl (skip_at hA 4 true false 35 32 rfl rfl (by kernel_rfl) rfl (by kernel_rfl) rfl rfl rfl (by kernel_rfl)), .inl (.inl (ow_val hA (wants_none rfl) 36 (.bool false) (by kernel_rfl) rfl rfl rfl rfl (by kernel_rfl) (fun w => by kernel_rfl))), .inl (.inl (ow_val hA (wants_none rfl) 37 (.bool false) (by kernel_rfl) rfl rfl rfl rfl (by kernel_rfl) (fun w => by kernel_rfl))), .inl (skip_at hA 9 true false 38 37 rfl rfl (by kernel_rfl) rfl (by kernel_rfl) rfl rfl rfl (by kernel_rfl)), .inl (.inl (ow_val hA (wants_none rfl) 39 (.bool false) (by kernel_rfl) rfl rfl rfl rfl (by kernel_rfl) (fun w => by kernel_rfl))), same_store hA rfl rfl rfl 5 sz_u8 2 28 rfl w.heap.size 0 (.int .u8 (k : Int)) (by kernel_rfl) (by kernel_rfl) (by kernel_rfl) rfl (by kernel_rfl) rfl #[.int .u8 (k : Int)] AE.kind rfl, same_store hA rfl rfl rfl 43 sz_strs 3 29 rfl (w.heap.size + 1) 0 v (by kernel_rfl) (by kernel_rfl) (by kernel_rfl) rfl (by kernel_rfl) ONE.out #[v] AE.list rfl, trivial⟩) ?_
        case hst => intro q hq; cases hq
        intro fv w5 hf hb5
        clear hf
        simp only [putR, List.foldl_cons, List.foldl_nil, List.map_cons, List.map_nil, Act.put, List.setIfInBounds_toArray, List.set_cons_succ, List.set_cons_zero]
        refine wl_set1 rfl 4 sz_bool (.tmp 4) (.tmp 39) rfl (w.heap.size + 2) 0 (.bool false) rfl rfl rfl _ (AE.ok.under hb5) Nat.zero_lt_one ?_
        intro w6 b6 p6
        go_wp2_with fail
        exact door_ret (p6.blk (AE.kind.under hb5) (by omega)) (p6.blk (AE.list.under hb5) (by omega)) b6 rfl rfl rfl (AE.fin hb5 b6 p6 EO3.out hOne.out)
      case pos =>
        have X1 : Kept _ := ⟨decide_eq_true hx1⟩
        by_cases hre : rest = []
        case neg =>
          have BR : Kept (false = decide (rest = [])) := ⟨(decide_eq_false hre).symm⟩
          have EO3 : Kept (O = false) := ⟨by rw [EO2.out, X1.out, ← BR.out]; rfl⟩
          clear hre
          refine region_skipM wz 14 [(28, .int .u8 (k : Int)), (29, v), (30, .int .i64 (x : Int)), (31, .bool true), (32, .bool true), (33, .pointer (some ⟨w.heap.size + 3, 0, none⟩)), (34, .string (strOf rest)), (35, .bool false), (36, .bool false), (37, .bool false), (38, undef), (39, .bool false)] [] rfl (by kernel_rfl) (by kernel_rfl) (by kernel_rfl) (by kernel_rfl) (by kernel_rfl) (by kernel_rfl) (by kernel_rfl) (by kernel_rfl) ?hst (Below.refl _ _) (fun hA => ⟨.inl (.inl (ow_elem hA (wants_none rfl) 28 (.int .u8 (k : Int)) (by kernel_rfl) rfl rfl rfl rfl (by kernel_rfl) 5 ag_u8 (.tmp 2) rfl (⟨w.heap.size, 0, none⟩) (by kernel_rfl) (fun w1 hb => cell_row (AE.kind.under hb) rfl))), .inl (.inl (ow_elem hA (wants_none rfl) 29 (v) (by kernel_rfl) rfl rfl rfl rfl (by kernel_rfl) 43 ag_strs (.tmp 3) rfl (⟨w.heap.size + 1, 0, none⟩) (by kernel_rfl) (fun w1 hb => cell_row (AE.list.under hb) rfl))), .inl (.inl (ow_val hA (wants_none rfl) 30 (.int .i64 (x : Int)) (by kernel_rfl) rfl rfl rfl rfl (by kernel_rfl) (fun w => by kernel_rfl))), .inl (.inl (ow_val hA (wants_none rfl) 31 (.bool true) (by kernel_rfl) rfl rfl rfl rfl (by kernel_rfl) (fun w => run_eqK 1 rfl (by kernel_rfl) X1.out.symm w))), .inl (.inl (ow_val hA (wants_none rfl) 32 (.bool true) (by kernel_rfl) rfl rfl rfl rfl (by kernel_rfl) (fun w => by kernel_rfl))), .inl (.inl (ow_val hA (wants_at hA 4 true 32 rfl rfl (by kernel_rfl) rfl rfl (by kernel_rfl)) 33 (.pointer (some ⟨w.heap.size + 3, 0, none⟩)) (by kernel_rfl) rfl rfl rfl rfl (by kernel_rfl) (fun w => by kernel_rfl))), .inl (.inl (ow_elem hA (wants_at hA 4 true 32 rfl rfl (by kernel_rfl) rfl rfl (by kernel_rfl)) 34 (.string (strOf rest)) (by kernel_rfl) rfl rfl rfl rfl (by kernel_rfl) 9 ag_str (.tmp 33) rfl (⟨w.heap.size + 3, 0, none⟩) (by kernel_rfl) (fun w1 hb => cell_row (AE.wk.under hb) rfl))), .inl (.inl (ow_val hA (wants_at hA 4 true 32 rfl rfl (by kernel_rfl) rfl rfl (by kernel_rfl)) 35 (.bool false) (by kernel_rfl) rfl rfl rfl rfl (by kernel_rfl) (fun w => run_seq (l := rest) (m := []) rfl (by kernel_rfl) rfl YR.out nil_bytes BR.out w))), .inl (.inl (ow_val hA (wants_none rfl) 36 (.bool false) (by kernel_rfl) rfl rfl rfl rfl (by kernel_rfl) (fun w => by kernel_rfl))), .inl (.inl (ow_val hA (wants_none rfl) 37 (.bool false) (by kernel_rfl) rfl rfl rfl rfl (by kernel_rfl) (fun w => by kernel_rfl))), .inl (skip_at hA 9 true false 38 37 rfl rfl (by kernel_rfl) rfl (by kernel_rfl) rfl rfl rfl (by kernel_rfl)), .inl (.inl (ow_val hA (wants_none rfl) 39 (.bool false) (by kernel_rfl) rfl rfl rfl rfl (by kernel_rfl) (fun w => by kernel_rfl))), same_store hA rfl rfl rfl 5 sz_u8 2 28 rfl w.heap.size 0 (.int .u8 (k : Int)) (by kernel_rfl) (by kernel_rfl) (by kernel_rfl) rfl (by kernel_rfl) rfl #[.int .u8 (k : Int)] AE.kind rfl, same_store hA rfl rfl rfl 43 sz_strs 3 29 rfl (w.heap.size + 1) 0 v (by kernel_rfl) (by kernel_rfl) (by kernel_rfl) rfl (by kernel_rfl) ONE.out #[v] AE.list rfl, trivial⟩) ?_
          case hst => intro q hq; cases hq
          intro fv w5 hf hb5
          clear hf
          simp only [putR, List.foldl_cons, List.foldl_nil, List.map_cons, List.map_nil, Act.put, List.setIfInBounds_toArray, List.set_cons_succ, List.set_cons_zero]
          refine wl_set1 rfl 4 sz_bool (.tmp 4) (.tmp 39) rfl (w.heap.size + 2) 0 (.bool false) rfl rfl rfl _ (AE.ok.under hb5) Nat.zero_lt_one ?_
          intro w6 b6 p6
          go_wp2_with fail
          exact door_ret (p6.blk (AE.kind.under hb5) (by omega)) (p6.blk (AE.list.under hb5) (by omega)) b6 rfl rfl rfl (AE.fin hb5 b6 p6 EO3.out hOne.out)
        case pos =>
          have BR : Kept (true = decide (rest = [])) := ⟨(decide_eq_true hre).symm⟩
          have EO3 : Kept (O = F) := ⟨by rw [EO2.out, X1.out, ← BR.out]; rfl⟩
          clear hre
          refine region_skipM wz 14 [(28, .int .u8 (k : Int)), (29, v), (30, .int .i64 (x : Int)), (31, .bool true), (32, .bool true), (33, .pointer (some ⟨w.heap.size + 3, 0, none⟩)), (34, .string (strOf rest)), (35, .bool true), (36, .bool true), (37, .bool true), (38, .bool F), (39, .bool F)] [] rfl (by kernel_rfl) (by kernel_rfl) (by kernel_rfl) (by kernel_rfl) (by kernel_rfl) (by kernel_rfl) (by kernel_rfl) (by kernel_rfl) ?hst (Below.refl _ _) (fun hA => ⟨.inl (.inl (ow_elem hA (wants_none rfl) 28 (.int .u8 (k : Int)) (by kernel_rfl) rfl rfl rfl rfl (by kernel_rfl) 5 ag_u8 (.tmp 2) rfl (⟨w.heap.size, 0, none⟩) (by kernel_rfl) (fun w1 hb => cell_row (AE.kind.under hb) rfl))), .inl (.inl (ow_elem hA (wants_none rfl) 29 (v) (by kernel_rfl) rfl rfl rfl rfl (by kernel_rfl) 43 ag_strs (.tmp 3) rfl (⟨w.heap.size + 1, 0, none⟩) (by kernel_rfl) (fun w1 hb => cell_row (AE.list.under hb) rfl))), .inl (.inl (ow_val hA (wants_none rfl) 30 (.int .i64 (x : Int)) (by kernel_rfl) rfl rfl rfl rfl (by kernel_rfl) (fun w => by kernel_rfl))), .inl (.inl (ow_val hA (wants_none rfl) 31 (.bool true) (by kernel_rfl) rfl rfl rfl rfl (by kernel_rfl) (fun w => run_eqK 1 rfl (by kernel_rfl) X1.out.symm w))), .inl (.inl (ow_val hA (wants_none rfl) 32 (.bool true) (by kernel_rfl) rfl rfl rfl rfl (by kernel_rfl) (fun w => by kernel_rfl))), .inl (.inl (ow_val hA (wants_at hA 4 true 32 rfl rfl (by kernel_rfl) rfl rfl (by kernel_rfl)) 33 (.pointer (some ⟨w.heap.size + 3, 0, none⟩)) (by kernel_rfl) rfl rfl rfl rfl (by kernel_rfl) (fun w => by kernel_rfl))), .inl (.inl (ow_elem hA (wants_at hA 4 true 32 rfl rfl (by kernel_rfl) rfl rfl (by kernel_rfl)) 34 (.string (strOf rest)) (by kernel_rfl) rfl rfl rfl rfl (by kernel_rfl) 9 ag_str (.tmp 33) rfl (⟨w.heap.size + 3, 0, none⟩) (by kernel_rfl) (fun w1 hb => cell_row (AE.wk.under hb) rfl))), .inl (.inl (ow_val hA (wants_at hA 4 true 32 rfl rfl (by kernel_rfl) rfl rfl (by kernel_rfl)) 35 (.bool true) (by kernel_rfl) rfl rfl rfl rfl (by kernel_rfl) (fun w => run_seq (l := rest) (m := []) rfl (by kernel_rfl) rfl YR.out nil_bytes BR.out w))), .inl (.inl (ow_val hA (wants_none rfl) 36 (.bool true) (by kernel_rfl) rfl rfl rfl rfl (by kernel_rfl) (fun w => by kernel_rfl))), .inl (.inl (ow_val hA (wants_none rfl) 37 (.bool true) (by kernel_rfl) rfl rfl rfl rfl (by kernel_rfl) (fun w => by kernel_rfl))), .inl (.inl (ow_val hA (wants_at hA 9 true 37 rfl rfl (by kernel_rfl) rfl rfl (by kernel_rfl)) 38 (.bool F) (by kernel_rfl) rfl rfl rfl rfl (by kernel_rfl) (fun w => by kernel_rfl))), .inl (.inl (ow_val hA (wants_none rfl) 39 (.bool F) (by kernel_rfl) rfl rfl rfl rfl (by kernel_rfl) (fun w => by kernel_rfl))), same_store hA rfl rfl rfl 5 sz_u8 2 28 rfl w.heap.size 0 (.int .u8 (k : Int)) (by kernel_rfl) (by kernel_rfl) (by kernel_rfl) rfl (by kernel_rfl) rfl #[.int .u8 (k : Int)] AE.kind rfl, same_store hA rfl rfl rfl 43 sz_strs 3 29 rfl (w.heap.size + 1) 0 v (by kernel_rfl) (by kernel_rfl) (by kernel_rfl) rfl (by kernel_rfl) ONE.out #[v] AE.list rfl, trivial⟩) ?_
          case hst => intro q hq; cases hq
          intro fv w5 hf hb5
          clear hf
          simp only [putR, List.foldl_cons, List.foldl_nil, List.map_cons, List.map_nil, Act.put, List.setIfInBounds_toArray, List.set_cons_succ, List.set_cons_zero]
          refine wl_set1 rfl 4 sz_bool (.tmp 4) (.tmp 39) rfl (w.heap.size + 2) 0 (.bool F) rfl rfl rfl _ (AE.ok.under hb5) Nat.zero_lt_one ?_
          intro w6 b6 p6
          go_wp2_with fail
          exact door_ret (p6.blk (AE.kind.under hb5) (by omega)) (p6.blk (AE.list.under hb5) (by omega)) b6 rfl rfl rfl (AE.fin hb5 b6 p6 EO3.out hOne.out)
end Go.Proofs.YtjkdonjcngmjeaaGreatDoor.sh
/-
  codec.Split, codec.Take.
-/
namespace Go.Proofs.YtjkdonjcngmjeaaGreatDoor.sh
open Go Go.RowKit
set_option linter.unusedVariables false
set_option linter.unusedSimpArgs false

theorem three_of : ∀ {s : List Nat}, ¬ s.length < 3 → ∃ x k n r, s = x :: k :: n :: r
  | [], h => absurd (by decide) h
  | [_], h => absurd (by simp) h
  | [_, _], h => absurd (by simp) h
  | x :: k :: n :: r, _ => ⟨x, k, n, r, rfl⟩
theorem apartD {s : List Nat} {O : Bool} {w : World} (hs : Bytes s) (hL : s.length ≤ 40000) (hO : O = (splitL s).isSome) :
    Calls Tryz.prog 69 #[.string (strOf s)] w fun e w' => (∃ K V, e = .returned (.tuple #[K, V, .bool O]) ∧ Told w.heap.size s K V w') ∧ Below w.heap.size w w' := by
  by_cases h : s.length < 3
  · have hN := split_short h
    have : O = false := by rw [hO, hN]; rfl
    subst this
    exact (apart_short hs h).mono fun e w' h => h
  · obtain ⟨x, k, n, r, rfl⟩ := three_of h
    · refine (apart_long hs (by simp at hL; omega) hO).mono ?_
      rintro e w' ⟨⟨K, V, rfl, hT⟩, hb⟩
      exact ⟨⟨K, V, rfl, fun k' ll e => ⟨(hT k' ll e).1, (hT k' ll e).2.mono (by omega)⟩⟩, hb⟩
/-- What Split answers: a kind, texts, an error's number. -/
def spK (s : List Nat) : Nat := ((splitL s).map (·.1)).getD 0
def spL (s : List Nat) : List (List Nat) := ((splitL s).map (·.2)).getD []
def spE (s : List Nat) : Nat := if (splitL s).isSome then 0 else 4
theorem split_big {s : List Nat} (hs : Bytes s) (h : 30000 < s.length) : splitL s = none := by
  cases e : splitL s with
  | none => rfl
  | some q =>
    obtain ⟨k, ll⟩ := q
    have := says_len ((splitL_says hs).1 e)
    omega
def SPost (s : List Nat) (w : World) (e : Ending) (w' : World) : Prop := (∃ V, e = .returned (.tuple #[.int .u8 (spK s : Int), V, .int .i64 (spE s : Int)]) ∧ VRow w.heap.size 9 (strs (spL s)) V w') ∧ Below w.heap.size w w'
set_option maxRecDepth 100000 in
set_option maxHeartbeats 1000000 in
theorem SplitD {s : List Nat} {w : World} (hs : Bytes s) (hL : s.length ≤ maxLen) :
    Calls Tryz.prog 40 #[.string (strOf s)] w fun e w' => SPost s w e w' := by
  have none_post : ∀ w', splitL s = none → Below w.heap.size w w' → SPost s w (.returned (.tuple #[.int .u8 0, .slice none 0 0, .int .i64 4])) w' := fun w' h hb => by
    refine ⟨⟨.slice none 0 0, ?_, ?_⟩, hb⟩
    · unfold spK spE; rw [h]; rfl
    · unfold spL; rw [h]; exact vrow_nil _ _ _
  have KP : Kept _ := ⟨none_post⟩
  clear none_post
  obtain ⟨m, hm⟩ : ∃ m, m = s.length := ⟨_, rfl⟩
  have KM : Kept _ := ⟨hm⟩
  by_cases h : 30000 < s.length
  · have hN := split_big hs h
    have h' : (30000 : Int) < (m : Int) := by omega
    clear hm
    go_enter Tryz.func40, Tryz.ntmps40
    go_wp2_with (first | ((with_reducible refine wv_val (d := 9) ?hd ?hw (.int .i64 (m : Int)) ?hr ?_); (case hd => rfl); (case hw => kernel_rfl); (case hr => intro w; exact run_slen rfl (by kernel_rfl) KM.out w); simp only [Act.put, List.setIfInBounds_toArray, List.set_cons_succ, List.set_cons_zero]))
    refine bodyPost_ret (v := .tuple #[.int .u8 0, .slice none 0 0, .int .i64 4]) (by simp [results, Tryz.results40, go_sem]) rfl ?_
    exact KP.out _ hN (Below.refl _ _)
  · have h' : ¬ (30000 : Int) < (m : Int) := by omega
    have CA := apartD (O := (splitL s).isSome) (w := w) hs (by omega) rfl
    obtain ⟨q, hq⟩ : ∃ q, q = splitL s := ⟨_, rfl⟩
    have KQ : Kept _ := ⟨hq⟩
    rw [← hq] at CA
    clear hm hq
    cases q with
    | none =>
      go_enter Tryz.func40, Tryz.ntmps40
      go_wp2_with (first | ((with_reducible refine wv_val (d := 9) ?hd ?hw (.int .i64 (m : Int)) ?hr ?_); (case hd => rfl); (case hw => kernel_rfl); (case hr => intro w; exact run_slen rfl (by kernel_rfl) KM.out w); simp only [Act.put, List.setIfInBounds_toArray, List.set_cons_succ, List.set_cons_zero]))
      refine CA.mono ?_
      rintro e w1 ⟨⟨K, V, rfl, _⟩, hb⟩
      simp only [Option.isSome_none]
      go_wp2_with fail
      refine bodyPost_ret (v := .tuple #[.int .u8 0, .slice none 0 0, .int .i64 4]) (by simp [results, Tryz.results40, go_sem]) rfl ?_
      exact KP.out _ KQ.out.symm hb
    | some q =>
      obtain ⟨k, ll⟩ := q
      go_enter Tryz.func40, Tryz.ntmps40
      go_wp2_with (first | ((with_reducible refine wv_val (d := 9) ?hd ?hw (.int .i64 (m : Int)) ?hr ?_); (case hd => rfl); (case hw => kernel_rfl); (case hr => intro w; exact run_slen rfl (by kernel_rfl) KM.out w); simp only [Act.put, List.setIfInBounds_toArray, List.set_cons_succ, List.set_cons_zero]))
      refine CA.mono ?_
      rintro e w1 ⟨⟨K, V, rfl, hT⟩, hb⟩
      obtain ⟨rfl, hr⟩ := hT k ll KQ.out.symm
      have KR : Kept _ := ⟨hr⟩
      clear hT CA KP hr
      simp only [Option.isSome_some]
      go_wp2_with fail
      refine bodyPost_ret (v := .tuple #[.int .u8 (k : Int), V, .int .i64 0]) (by simp [results, Tryz.results40, go_sem]) rfl ?_
      refine ⟨⟨V, ?_, ?_⟩, hb⟩
      · unfold spK spE; rw [← KQ.out]; rfl
      · unfold spL; rw [← KQ.out]; exact KR.out
theorem run_neU {o : Oper} {a : Act} {x y : Operand} {m n : Nat} {b : Bool} (ho : o.op = .binOp .neq 5 x y 5) (hx : a.eval x = .int .u8 (m : Int)) (hy : a.eval y = .int .u8 (n : Int)) (hb : b = !decide (m = n)) (w : World) : (execOp a.eval o).run Tryz.prog w = .ok (.value (.bool b)) w := by
  unfold execOp
  simp only [ho, hx, hy]
  rw [hb]
  by_cases h : m = n
  · subst h; simp [go_sem]
  · have h2 : ¬ (m : Int) = (n : Int) := by omega
    simp [go_sem, h, h2]
theorem run_neI {o : Oper} {a : Act} {x y : Operand} {m n : Int} {b : Bool} (ho : o.op = .binOp .neq 3 x y 3) (hx : a.eval x = .int .i64 m) (hy : a.eval y = .int .i64 n) (hb : b = !decide (m = n)) (w : World) : (execOp a.eval o).run Tryz.prog w = .ok (.value (.bool b)) w := by
  unfold execOp
  simp only [ho, hx, hy]
  rw [hb]
  by_cases h : m = n
  · subst h; simp [go_sem]
  · have h2 : ¬ (m : Int) = (n : Int) := by omega
    simp [go_sem, h, h2]
end Go.Proofs.YtjkdonjcngmjeaaGreatDoor.sh
