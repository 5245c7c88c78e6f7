/-
  Acts of layer 10 among the arguments; own; names.
-/
import Derived.Test.YtniogaimhkcedaaDoorLE
namespace Go.Proofs.YtniogaimhkcedaaDoor.sh
open Go Go.ChangeShapes Go.WideShapes Go.ChangeAt Go.RowKit
set_option linter.unusedVariables false
set_option linter.unusedSimpArgs false

/-- An act's cells. -/
def actC (x : ActK) : Array Value := #[.int .u8 (x.kind : Int), .int .u8 (x.a : Int), .int .u8 (x.b : Int), .string (strOf x.s), .bool x.both]
structure ActKOk (x : ActK) : Prop where
  kind : x.kind < 256
  a : x.a < 256
  b : x.b < 256
  s : Bytes x.s
  len : x.s.length ≤ reachBytes
/-- Acts that a slice holds. -/
def ActV (v : Value) (w : World) (l : List ActK) : Prop := ∃ p c, v = .slice p l.length c ∧ l.length ≤ c ∧ (l ≠ [] → ∃ A, p = some A ∧ A.block < w.heap.size ∧ ∀ (j : Nat) (x : ActK), l[j]? = some x → ∀ (f : Nat) (u : Value), (actC x)[f]? = some u → w.cell? (A.add (j * 5 + f)) = some u)
theorem ActV.under {v : Value} {w w' : World} {l : List ActK} (h : ActV v w l) (hb : Below w.heap.size w w') : ActV v w' l := by
  obtain ⟨p, c, rfl, hlc, hp⟩ := h
  refine ⟨p, c, rfl, hlc, fun hne => ?_⟩
  obtain ⟨A, rfl, hA, hc⟩ := hp hne
  exact ⟨A, rfl, Nat.lt_of_lt_of_le hA hb.size, fun j x hx f u hu => (hb.cell (by rw [add_block]; exact hA)).trans (hc j x hx f u hu)⟩
theorem actV_form {v : Value} {w : World} {l : List ActK} {n : Nat} (h : ActV v w l) (hn : l.length = n) : ∃ p c, v = .slice p n c ∧ n ≤ c := by
  obtain ⟨p, c, rfl, h2, _⟩ := h
  exact ⟨p, c, by rw [hn], by omega⟩
theorem actV_at {p : Option Addr} {n c : Nat} {w : World} {l : List ActK} (h : ActV (.slice p n c) w l) {i : Nat} {x : ActK} (hx : l[i]? = some x) : ∃ A, p = some A ∧ A.block < w.heap.size ∧ ∀ (f : Nat) (u : Value), (actC x)[f]? = some u → w.cell? ((A.add (i * 5)).add f) = some u := by
  obtain ⟨p', c', e1, _, e3⟩ := h
  cases e1
  obtain ⟨A, e4, e6, e5⟩ := e3 (by intro e; rw [e] at hx; cases hx)
  exact ⟨A, e4, e6, fun f u hu => by rw [add_add]; exact e5 i x hx f u hu⟩
theorem cells_actK : Tryd.prog.cellsOf 56 = 5 := by kernel_rfl
theorem info_actK : (Tryd.prog.info? 56).map (·.size) = some 5 := by kernel_rfl
set_option maxRecDepth 100000 in
theorem open_actK {H : Type} {enc : TypeId × Value → H} {W : World} {base n : Nat} {sp : Nat → Bool} {held : Bool} {cs : List Value} {x : DataW H × List MemPlace}
    (h : DataW.trod enc Tryd.prog W base sp held n 56 cs = some x) : ∃ y : ActK, cs = (actC y).toList ∧ (y.kind < 256 ∧ y.a < 256 ∧ y.b < 256 ∧ Bytes y.s) ∧ y.s.length ∈ x.1.weights Tryd.prog 56 := by
  obtain ⟨xs, m, _, hx, hl, hlen, hff⟩ := DataW.trod_struct Tryd.underlying56 h
  rw [cells_actK] at hl
  have hl5 : cs.length = 5 := hl
  have hx5 : xs.length = 5 := hlen
  obtain ⟨c0, c1, c2, c3, c4, rfl⟩ : ∃ a b c d e, cs = [a, b, c, d, e] := by
    match cs, hl5 with
    | [a, b, c, d, e], _ => exact ⟨a, b, c, d, e, rfl⟩
  obtain ⟨x0, x1, x2, x3, x4, rfl⟩ : ∃ a b c d e, xs = [a, b, c, d, e] := by
    match xs, hx5 with
    | [a, b, c, d, e], _ => exact ⟨a, b, c, d, e, rfl⟩
  have f0 : DataW.trod enc Tryd.prog W base sp held m 5 (([c0, c1, c2, c3, c4].drop 0).take (Tryd.prog.cellsOf 5)) = some x0 := hff 0 _ rfl
  have f1 : DataW.trod enc Tryd.prog W base sp held m 5 (([c0, c1, c2, c3, c4].drop 1).take (Tryd.prog.cellsOf 5)) = some x1 := hff 1 _ rfl
  have f2 : DataW.trod enc Tryd.prog W base sp held m 5 (([c0, c1, c2, c3, c4].drop 2).take (Tryd.prog.cellsOf 5)) = some x2 := hff 2 _ rfl
  have f3 : DataW.trod enc Tryd.prog W base sp held m 9 (([c0, c1, c2, c3, c4].drop 3).take (Tryd.prog.cellsOf 9)) = some x3 := hff 3 _ rfl
  have f4 : DataW.trod enc Tryd.prog W base sp held m 4 (([c0, c1, c2, c3, c4].drop 4).take (Tryd.prog.cellsOf 4)) = some x4 := hff 4 _ rfl
  rw [show Tryd.prog.cellsOf 5 = 1 by kernel_rfl] at f0 f1 f2
  rw [show Tryd.prog.cellsOf 9 = 1 by kernel_rfl] at f3
  rw [show Tryd.prog.cellsOf 4 = 1 by kernel_rfl] at f4
  obtain ⟨a0, e0, _, w0⟩ := DataW.trod_int Tryd.underlying5 f0
  obtain ⟨a1, e1, _, w1⟩ := DataW.trod_int Tryd.underlying5 f1
  obtain ⟨a2, e2, _, w2⟩ := DataW.trod_int Tryd.underlying5 f2
  obtain ⟨a3, e3, d3, w3⟩ := DataW.trod_string Tryd.underlying9 f3
  obtain ⟨a4, e4, _⟩ := DataW.trod_bool Tryd.underlying4 f4
  simp at e0 e1 e2 e3 e4
  obtain ⟨b0, rfl, g0⟩ := nat_of_u8 w0
  obtain ⟨b1, rfl, g1⟩ := nat_of_u8 w1
  obtain ⟨b2, rfl, g2⟩ := nat_of_u8 w2
  subst e0 e1 e2 e3 e4
  refine ⟨⟨b0, b1, b2, strL a3, a4⟩, ?_, ⟨g0, g1, g2, strL_bytes a3⟩, ?_⟩
  · simp [actC, strOf_strL]
  · have h3 : (strL a3).length = a3.data.toList.length := by
      rw [show (strL a3).length = a3.size by rw [← strOf_size, strOf_strL]]
      exact (Array.length_toList).symm
    rw [hx]
    show (strL a3).length ∈ _
    rw [h3, d3]
    simp [DataW.weights, DataW.weightsEach, Tryd.underlying56]
theorem weights_all {H : Type} {P : Program} {e : TypeId} {n : Nat} : ∀ {ds : List (DataW H)} {x : DataW H}, x ∈ ds → n ∈ x.weights P e → n ∈ DataW.weightsAll P e ds
  | [], _, h, _ => by cases h
  | d :: r, x, h, hn => by
    rw [DataW.weightsAll, List.mem_append]
    rcases List.mem_cons.1 h with rfl | h
    · exact .inl hn
    · exact .inr (weights_all h hn)
set_option maxRecDepth 100000 in
theorem open_actsK {H : Type} {enc : TypeId × Value → H} {W : World} {r : Reach} {b0 base : Nat} {sp : Nat → Bool} {held : Bool} {v : Value} {d : DataW H} {p : List MemPlace}
    (hv : Value.okWide Tryd.prog W r b0 22 v) (h : DataW.Trod enc Tryd.prog W base sp held 22 v d p) (hz : ∀ n ∈ d.weights Tryd.prog 22, n ≤ reachBytes) : ∃ l : List ActK, ActV v W l ∧ (∀ x ∈ l, ActKOk x) ∧ l.length * 32 ≤ reachBytes := by
  obtain ⟨a0, len, cap, rfl⟩ := okWide_slice Tryd.underlying22 hv
  obtain ⟨fuel, hf⟩ := h
  rcases Go.Deep.open_slice Tryd.underlying22 hf with ⟨hcs, hx⟩ | ⟨a, len, cap, m, n, D, Pl, hcs, _, hl, hm, hmm, hx, hel⟩
  · simp [Value.cells] at hcs
    obtain ⟨rfl, rfl, rfl⟩ := hcs
    exact ⟨[], ⟨none, 0, rfl, Nat.le_refl _, fun h => absurd rfl h⟩, fun x hx => (by cases hx), Nat.zero_le _⟩
  · simp [Value.cells] at hcs
    obtain ⟨rfl, rfl, rfl⟩ := hcs
    have hlm : len ≤ m := by rw [hmm]; split <;> omega
    rw [cells_actK] at hel
    rw [Prod.mk.injEq] at hx
    rw [hx.1] at hz
    have hb : Tryd.prog.bytesOf 56 = 32 := by kernel_rfl
    have h3 := hz ((((List.range len).map D).length + ((List.range (m - len)).map fun j => D (len + j)).length) * Tryd.prog.bytesOf 56) (by simp [DataW.weights, Tryd.underlying22])
    rw [hb, List.length_map, List.length_map, List.length_range, List.length_range] at h3
    have hel2 : ∀ i, i < len → ∀ n, n ∈ (D i).weights Tryd.prog 56 → n ≤ reachBytes := fun i hi n hn => hz n (by
      rw [DataW.weights, Tryd.underlying22]
      exact List.mem_cons_of_mem _ (List.mem_append_left _ (weights_all (List.mem_map.2 ⟨i, List.mem_range.2 hi, rfl⟩) hn)))
    have key : ∀ i, ∃ y : ActK, i < len → ActKOk y ∧ ∀ (f : Nat) (u : Value), (actC y)[f]? = some u → W.cell? (a.add (i * 5 + f)) = some u := fun i => by
      by_cases hi : i < len
      · obtain ⟨cs', h1, h2⟩ := hel i (by omega)
        obtain ⟨y, e1, e2, e9⟩ := open_actK h2
        obtain ⟨_, hc5, hcell⟩ := World.cells?_some h1
        refine ⟨y, fun _ => ⟨⟨e2.1, e2.2.1, e2.2.2.1, e2.2.2.2, hel2 i hi _ e9⟩, fun f u hu => ?_⟩⟩
        have hf5 : f < 5 := (Array.getElem?_eq_some_iff.1 hu).1
        have := hcell f hf5
        rw [e1, Array.getElem?_toList, hu, add_add] at this
        exact this
      · exact ⟨⟨0, 0, 0, [], false⟩, fun h => absurd h hi⟩
    let g : Nat → ActK := fun i => Classical.choose (key i)
    have hk : ∀ i, i < len → ActKOk (g i) ∧ ∀ (f : Nat) (u : Value), (actC (g i))[f]? = some u → W.cell? (a.add (i * 5 + f)) = some u := fun i => Classical.choose_spec (key i)
    have hget : ∀ (j : Nat) (x : ActK), ((List.range len).map g)[j]? = some x → j < len ∧ x = g j := fun j x hj => by
      rw [List.getElem?_map] at hj
      obtain ⟨y, hy, rfl⟩ := Option.map_eq_some_iff.1 hj
      obtain ⟨h1, h2⟩ := List.getElem?_eq_some_iff.1 hy
      simp at h1 h2
      subst h2
      exact ⟨h1, rfl⟩
    refine ⟨(List.range len).map g, ⟨some a, cap, by simp, by simpa using hl, fun hne => ⟨a, rfl, ?_, fun j x hj f u hu => ?_⟩⟩, fun x hx => ?_, by simp; omega⟩
    · have h0 : 0 < len := by
        rcases Nat.eq_zero_or_pos len with h | h
        · subst h; exact absurd rfl hne
        · exact h
      have := World.block_lt_of_cell? _ _ ((hk 0 h0).2 0 _ rfl)
      rwa [add_block] at this
    · obtain ⟨h1, rfl⟩ := hget j x hj
      exact (hk j h1).2 f u hu
    · obtain ⟨j, hj⟩ := List.getElem?_of_mem hx
      obtain ⟨h1, rfl⟩ := hget j x hj
      exact (hk j h1).1

section
variable {ops : Array Oper} {rest : List Oper} {o : Oper} {a : Act} {w : World} {Q : Exit → Act → World → Prop} {d : Nat}
theorem run_loadActK (w : World) (A : Addr) (x : ActK) (hc : ∀ (f : Nat) (u : Value), (actC x)[f]? = some u → w.cell? (A.add f) = some u) : (loadVar 56 A).run Tryd.prog w = .ok (.agg (actC x)) w := by
  have hl : (loadCells A (actC x).toList.length).run Tryd.prog w = .ok (actC x).toList.toArray w :=
    run_loadCells_list (P := Tryd.prog) w A (actC x).toList (fun j v hv => hc j v (by simpa using hv))
  have h5 : (actC x).toList.length = 5 := rfl
  rw [h5] at hl
  have ha : (isAgg 56).run Tryd.prog w = .ok true w := by kernel_rfl
  have hs : (sizeOf 56).run Tryd.prog w = .ok 5 w := by kernel_rfl
  unfold loadVar
  simp [ha, hs, hl]
/-- An act is read. -/
theorem wv_actK (hd : o.dst = some d) (hw : Region.wanted o (yielded ops a.tmps) = true) (x : Operand) (ho : o.op = .load 56 x) (A : Addr) (hx : a.eval x = .pointer (some A)) (y : ActK) (hc : ∀ (f : Nat) (u : Value), (actC y)[f]? = some u → w.cell? (A.add f) = some u)
    (h : wpList Tryd.prog ops Q rest (a.put o.dst (.agg (actC y))) w) : wpList Tryd.prog ops Q (o :: rest) a w :=
  BigFrame.wpList_want hw fun K hK => by
    have hrun : (execOp a.eval o).run Tryd.prog w = .ok (.value (.agg (actC y))) w := by
      unfold execOp
      simp only [ho, hx, Instr.loadAt, Instr.sureAddr, Sem.run_bind, Sem.run_pure, Result.andThen_ok, run_loadActK w A y hc]
    unfold Oper.wp
    rw [hrun]
    exact hK _ _ h
end
theorem run_idx5 {o : Oper} {a : Act} {x y : Operand} {i l c : Nat} {A : Addr} (ho : o.op = .indexAddr 22 x y) (hx : a.eval x = .slice (some A) l c) (hy : a.eval y = .int .i64 (i : Int)) (hi : i < l) (w : World) : (execOp a.eval o).run Tryd.prog w = .ok (.value (.pointer (some (A.add (i * 5))))) w := by
  have h1 : ((i : Int) < (l : Int)) := by omega
  have hs : ∀ w, (sizeOf 56).run Tryd.prog w = .ok 5 w := fun w => by kernel_rfl
  unfold execOp
  simp only [ho, hx, hy, Instr.indexAt]
  simp [asIntOf, run_underlying Tryd.underlying22, h1, hs, go_sem]
  intro h
  omega
theorem actC_one (x : ActK) : (actC x).all (·.oneCell') = true := by simp [actC, Value.oneCell']

/-- A text that is too long for the acts. -/
def ownL (s : List Nat) : List Nat := s ++ List.replicate 300 0
theorem ownL_len (s : List Nat) : (ownL s).length = s.length + 300 := by unfold ownL; rw [List.length_append, List.length_replicate]
theorem ownL_bytes {s : List Nat} (h : Bytes s) : Bytes (ownL s) := h.append (bytes_zero 300)
set_option maxRecDepth 100000 in
set_option maxHeartbeats 1000000 in
theorem ownD {s : List Nat} {K : ByteArray} {w : World} (hl : s.length ≤ 1000) (hK : K = strOf s) :
    Calls Tryd.prog 22 #[.string K] w fun e w' => e = .returned (.string (strOf (ownL s))) ∧ Below w.heap.size w w' := by
  subst hK
  obtain ⟨Z, hZ⟩ : ∃ Z, Z = List.replicate 300 0 := ⟨_, rfl⟩
  obtain ⟨R, hR⟩ : ∃ R, R = ownL s := ⟨_, rfl⟩
  rw [← hR]
  have hZl : Z.length = 300 := by rw [hZ, List.length_replicate]
  have KR : Kept (R = s ++ Z) := ⟨by rw [hR, hZ]; rfl⟩
  have KZ : Kept _ := ⟨hZ⟩
  have KZl : Kept _ := ⟨hZl⟩
  have Kn : Kept (s.length + Z.length < 4611686018427387904) := ⟨by omega⟩
  clear hZ hR hZl
  go_enter Tryd.func22, Tryd.ntmps22
  go_wp2_with (first | (refine wl_mkZ rfl 300 Z KZ.out rfl (by decide) ?_; simp only [Act.put, List.setIfInBounds_toArray, List.set_cons_succ, List.set_cons_zero]) | ((with_reducible refine wv_str (d := 5) ?hd ?hw (.tmp 4) ?ho (.slice (some ⟨w.heap.size, 0, none⟩) 300 300) ?hx Z ?hl ?_); (case hd => rfl); (case hw => kernel_rfl); (case ho => rfl); (case hx => kernel_rfl); (case hl => exact z_bytes 300 Z KZl.out w); simp only [Act.put, List.setIfInBounds_toArray, List.set_cons_succ, List.set_cons_zero]) | ((with_reducible refine wv_val (d := 6) ?hd ?hw (.string (strOf R)) ?hr ?_); (case hd => rfl); (case hw => kernel_rfl); (case hr => intro w; exact run_scat rfl (by kernel_rfl) (by kernel_rfl) Kn.out KR.out w); simp only [Act.put, List.setIfInBounds_toArray, List.set_cons_succ, List.set_cons_zero]))
  go_ret
  exact ⟨rfl, (Below.refl _ _).alloc (Nat.le_refl _) _⟩

/-- The names that some numbers choose. -/
def givenK (N : Nat) (l : List Nat) : List (List Nat) := if N = 0 then [] else (l.take 30).map fun n => termN (n % N + 1)
theorem givenK_len (N : Nat) (l : List Nat) : (givenK N l).length ≤ 30 := by
  unfold givenK
  split
  · exact Nat.zero_le _
  · rw [List.length_map, List.length_take]; omega
theorem givenK_elder (N : Nat) (l : List Nat) : Elder N (givenK N l) := fun s hs => by
  unfold givenK at hs
  split at hs
  · cases hs
  · next h0 =>
    obtain ⟨n, _, rfl⟩ := List.mem_map.1 hs
    exact ⟨n % N, Nat.mod_lt _ (by omega), rfl⟩
def givT (N : Nat) (l : List Nat) : List (List Nat) := l.map fun n => termN (n % N + 1)
theorem givT_snoc {N n i : Nat} {l : List Nat} (h : l[i]? = some n) : givT N (l.take (i + 1)) = givT N (l.take i) ++ [termN (n % N + 1)] := by
  unfold givT
  rw [List.take_add_one, h, Option.toList_some, List.map_append]
  rfl
theorem givT_len (N : Nat) (l : List Nat) : (givT N l).length = l.length := by simp [givT]
set_option maxRecDepth 100000 in
set_option maxHeartbeats 4000000 in
theorem namesD {tb B : Nat} {ts : List TermL} {M : Nat → Prop} {v : Value} {l : List Nat} {w : World} (hT : Tab tb B ts M w) (hn : ts.length < 1000000) (hv : BytesV v w l) (hy : Bytes l) (hl : l.length ≤ maxLen) :
    Calls Tryd.prog 11 #[.pointer (some ⟨tb, 0, none⟩), v] w fun e w' => (∃ V, e = .returned V ∧ VRow w.heap.size 9 (strs (givenK ts.length l)) V w') ∧ Below w.heap.size w w' := by
  obtain ⟨n, hnl⟩ : ∃ n, n = l.length := ⟨_, rfl⟩
  obtain ⟨N, hN⟩ : ∃ N, N = ts.length := ⟨_, rfl⟩
  obtain ⟨p, c, rfl, _⟩ := ints_form (k := .u8) hv hnl.symm
  have KAl : Kept _ := ⟨AllD hT hn⟩
  have KV : Kept _ := ⟨hv⟩
  have Ky : Kept (Bytes l) := ⟨hy⟩
  have Kn : Kept _ := ⟨hnl⟩
  have KN : Kept _ := ⟨hN⟩
  obtain ⟨Hs, hH⟩ : ∃ H, H = w.heap.size := ⟨_, rfl⟩
  have KH : Kept _ := ⟨hH⟩
  have hn4 : n ≤ maxLen := by rw [hnl]; exact hl
  unfold maxLen at hn4
  have hN6 : N < 1000000 := by rw [hN]; exact hn
  rw [← hH, ← hN]
  clear hT hn hv hy hl hnl hN hH
  go_enter Tryd.func11, Tryd.ntmps11
  go_wp2_with fail
  refine KAl.out.mono ?_
  rintro e w1 ⟨⟨V1, rfl, hV1⟩, q1⟩
  obtain ⟨p1, c1, rfl, _⟩ := vals_form (vrow_vals hV1) (show (strs (namesL ts.length)).length = N by rw [strs_len, namesL_len, KN.out])
  have KV1 : Kept _ := ⟨vrow_vals hV1⟩
  have Kq1 : Kept (Below Hs w w1) := ⟨by rw [KH.out]; exact q1⟩
  clear hV1 q1 KAl
  by_cases hN0 : N = 0
  case pos =>
    have hN0' : ¬ (0 : Int) < (N : Int) := by omega
    have Kr : Kept (VRow Hs 9 (strs (givenK 0 l)) (.slice none 0 0) w1) := ⟨vrow_nil _ _ _⟩
    have KN0' : Kept _ := ⟨hN0⟩
    go_wp2_with fail
    go_loopg [5, 7] 0 (fun g s5 s7 wr => s5 = .slice none 0 0 ∧ s7 = .int .i64 0 ∧ wr = w1)
    case atStart => exact ⟨rfl, rfl, rfl⟩
    case round =>
      obtain ⟨rfl, rfl, rfl⟩ := hrel
      by_cases h0 : 0 < n
      · have h0' : (0 : Int) < (n : Int) := by omega
        go_wp2_with fail
        go_ret
        exact ⟨⟨_, rfl, by first | exact Kr.out | (rw [KN0'.out]; exact Kr.out)⟩, Kq1.out⟩
      · have h0' : ¬ (0 : Int) < (n : Int) := by omega
        go_wp2_with fail
        go_ret
        exact ⟨⟨_, rfl, by first | exact Kr.out | (rw [KN0'.out]; exact Kr.out)⟩, Kq1.out⟩
  case neg =>
    have hN1 : 0 < N := by omega
    have hN0' : (0 : Int) < (N : Int) := by omega
    obtain ⟨K, hK⟩ : ∃ K, K = min n 30 := ⟨_, rfl⟩
    have KK : Kept _ := ⟨hK⟩
    clear hK
    go_wp2_with fail
    go_loopg [5, 7] K (fun g s5 s7 wr => ∃ i : Nat, i + g = K ∧ s7 = .int .i64 (i : Int) ∧ VRow w1.heap.size 9 (strs (givT N (l.take i))) s5 wr ∧ Below w1.heap.size w1 wr)
    case atStart => exact ⟨0, by omega, rfl, vrow_nil _ _ _, Below.refl _ _⟩
    case round =>
      rename World => wz
      obtain ⟨i, hik, rfl, hr, hb1⟩ := hrel
      by_cases hk0 : gk = 0
      · have e : givenK N l = givT N (l.take i) := by
          unfold givenK givT
          rw [if_neg hN0]
          have hi : i = min n 30 := by rw [← KK.out]; omega
          by_cases h30 : 30 ≤ n
          · rw [hi, Nat.min_eq_right h30]
          · rw [hi, Nat.min_eq_left (by omega), List.take_of_length_le (by rw [← Kn.out]; omega), List.take_of_length_le (by rw [← Kn.out]; omega)]
        rw [← e] at hr
        have Hs1 : Hs ≤ w1.heap.size := by rw [KH.out]; exact Kq1.out.size
        have Kr : Kept _ := ⟨hr.mono Hs1⟩
        have hb : Below Hs w wz := Kq1.out.trans (hb1.mono Hs1)
        clear hr e Hs1
        by_cases hin : i < n
        · have hin' : (i : Int) < (n : Int) := by omega
          have h30' : ¬ (i : Int) < 30 := by have := KK.out; omega
          go_wp2_with fail
          go_ret
          exact ⟨⟨_, rfl, Kr.out⟩, hb⟩
        · have hin' : ¬ (i : Int) < (n : Int) := by omega
          go_wp2_with fail
          go_ret
          exact ⟨⟨_, rfl, Kr.out⟩, hb⟩
      · have hin : i < n := by have := KK.out; omega
        have hin' : (i : Int) < (n : Int) := by omega
        have h30' : (i : Int) < 30 := by have := KK.out; omega
        have hi1 : (i : Int) + 1 ≤ 9223372036854775807 := by omega
        obtain ⟨x, hx⟩ : ∃ x, l[i]? = some x := ⟨_, List.getElem?_eq_getElem (by rw [← Kn.out]; exact hin)⟩
        have hqw : Below w.heap.size w wz := by rw [← KH.out]; exact Kq1.out.trans (hb1.mono (by rw [KH.out]; exact Kq1.out.size))
        obtain ⟨A, rfl, hA, hcell⟩ := ints_at (k := .u8) (IntsV.under KV.out hqw) hx
        obtain ⟨j, hj⟩ : ∃ j, j = x % N := ⟨_, rfl⟩
        have hjN : j < N := by rw [hj]; exact Nat.mod_lt _ hN1
        obtain ⟨A2, rfl, hA2, hc2⟩ := vals_at (KV1.out.under hb1) (strs_get (namesL_get (by rw [← KN.out]; exact hjN)))
        have Kst := givT_snoc (N := N) hx
        rw [← hj] at Kst
        obtain ⟨T, hT⟩ : ∃ T, T = termN (j + 1) := ⟨_, rfl⟩
        rw [← hT] at hc2 Kst
        have hx8 : x < 256 := Ky.out i x hx
        have hxI : x < 4611686018427387904 := by omega
        have KC : Kept _ := ⟨hcell⟩
        have KC2 : Kept _ := ⟨hc2⟩
        have KJ : Kept _ := ⟨hj⟩
        have Ks : Kept _ := ⟨Kst⟩
        have b6 := (Below.refl wz.heap.size wz).alloc (Nat.le_refl _) (.cells #[.string (strOf T)] 9)
        have Kr6 : Kept _ := ⟨hr.under b6⟩
        have K1 : Kept _ := ⟨one_new T wz⟩
        have Kb61 : Kept _ := ⟨hb1.trans (b6.mono hb1.size)⟩
        have Kh1 : Kept (w1.heap.size ≤ (wz.alloc (.cells #[.string (strOf T)] 9)).heap.size) := ⟨Nat.le_trans hb1.size b6.size⟩
        have K1c : Kept (∀ x ∈ ([Value.string (strOf T)] : List Value), x.oneCell' = true) := ⟨fun x hx => by simp at hx; subst hx; rfl⟩
        have Kap : Kept ((strs (givT N (l.take i))).length + ([Value.string (strOf T)] : List Value).length ≤ 1099511627776) := ⟨by rw [strs_len, givT_len, List.length_take]; simp; omega⟩
        clear hx hcell hc2 hj hT Kst b6 hqw hr hb1
        go_wp2_with (first | ((with_reducible refine wv_val (d := 29) ?hd ?hw (.pointer (some (A.add i))) ?hr ?_); (case hd => rfl); (case hw => kernel_rfl); (case hr => intro w; exact run_idxS (c := c) rfl (by kernel_rfl) (by kernel_rfl) Tryd.underlying23 hin Tryd.sizeOf5 w); simp only [Act.put, List.setIfInBounds_toArray, List.set_cons_succ, List.set_cons_zero]) | ((with_reducible refine wv_elem (d := 30) ?hd ?hw 5 Tryd.isAgg5 (.tmp 29) ?ho (A.add i) ?hx (.int .u8 (x : Int)) ?hc ?_); (case hd => rfl); (case hw => kernel_rfl); (case ho => rfl); (case hx => kernel_rfl); (case hc => exact KC.out); simp only [Act.put, List.setIfInBounds_toArray, List.set_cons_succ, List.set_cons_zero]) | ((with_reducible refine wv_val (d := 31) ?hd ?hw (.int .i64 (x : Int)) ?hr ?_); (case hd => rfl); (case hw => kernel_rfl); (case hr => intro w; exact run_conv83 rfl (by kernel_rfl) hx8 w); simp only [Act.put, List.setIfInBounds_toArray, List.set_cons_succ, List.set_cons_zero]) | ((with_reducible refine wv_val (d := 34) ?hd ?hw (.int .i64 (j : Int)) ?hr ?_); (case hd => rfl); (case hw => kernel_rfl); (case hr => intro w; exact run_remV rfl (by kernel_rfl) (by kernel_rfl) hN1 KJ.out hxI w); simp only [Act.put, List.setIfInBounds_toArray, List.set_cons_succ, List.set_cons_zero]) | ((with_reducible refine wv_val (d := 35) ?hd ?hw (.pointer (some (A2.add j))) ?hr ?_); (case hd => rfl); (case hw => kernel_rfl); (case hr => intro w; exact run_idxS (c := c1) rfl (by kernel_rfl) (by kernel_rfl) Tryd.underlying29 hjN Tryd.sizeOf9 w); simp only [Act.put, List.setIfInBounds_toArray, List.set_cons_succ, List.set_cons_zero]) | ((with_reducible refine wv_elem (d := 36) ?hd ?hw 9 ag_str (.tmp 35) ?ho (A2.add j) ?hx (.string (strOf T)) ?hc ?_); (case hd => rfl); (case hw => kernel_rfl); (case ho => rfl); (case hx => kernel_rfl); (case hc => exact KC2.out); simp only [Act.put, List.setIfInBounds_toArray, List.set_cons_succ, List.set_cons_zero]) | (refine wl_build1S rfl (.tmp 36) rfl T (by kernel_rfl) ?_; simp only [Act.put, List.setIfInBounds_toArray, List.set_cons_succ, List.set_cons_zero]) | ((refine wl_appV (by kernel_rfl) (.tmp 25) (.tmp 37) 29 9 (.string .empty) 16 rfl Tryd.underlying29 inf_str rfl (by decide) w1.heap.size _ [.string (strOf T)] _ _ (by kernel_rfl) (by kernel_rfl) Kr6.out K1.out K1c.out Kap.out Kh1.out ?_); intro v' w7 hr' hg' hne'; simp only [Act.put, List.setIfInBounds_toArray, List.set_cons_succ, List.set_cons_zero]))
        go_roundg (gk - 1)
        case measure => omega
        case rel =>
          refine ⟨i + 1, by omega, by simp, ?_, ?_⟩
          · rw [Ks.out, strs_append]
            exact hr'
          · exact Kb61.out.trans (grown_mono hg' Kh1.out (fun b hb => (Kr6.out.range b hb).1))
end Go.Proofs.YtniogaimhkcedaaDoor.sh
