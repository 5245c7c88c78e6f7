/-
  Acts among the arguments; heavy; the reference's Name.
-/
import Derived.Test.YtfdldpcfdebinaaDoorDH
namespace Go.Proofs.YtfdldpcfdebinaaDoor.sh
open Go Go.ChangeShapes Go.WideShapes Go.ChangeAt Go.RowKit
set_option linter.unusedVariables false
set_option linter.unusedSimpArgs false

/-- An act's cells. -/
def actA (x : ActL) : Array Value := #[.int .u8 (x.kind : Int), .int .u8 (x.a : Int), .int .u8 (x.b : Int), .int .u64 (x.n : Int), .string (strOf x.s), .bool x.raw]
structure ActOk (x : ActL) : Prop where
  kind : x.kind < 256
  a : x.a < 256
  b : x.b < 256
  n : x.n < 18446744073709551616
  s : Bytes x.s
  len : x.s.length ≤ maxLen
/-- Acts that a slice holds. -/
def ActsV (v : Value) (w : World) (l : List ActL) : Prop := ∃ p c, v = .slice p l.length c ∧ l.length ≤ c ∧ (l ≠ [] → ∃ A, p = some A ∧ A.block < w.heap.size ∧ ∀ (j : Nat) (x : ActL), l[j]? = some x → ∀ (f : Nat) (u : Value), (actA x)[f]? = some u → w.cell? (A.add (j * 6 + f)) = some u)
theorem ActsV.under {v : Value} {w w' : World} {l : List ActL} (h : ActsV v w l) (hb : Below w.heap.size w w') : ActsV v w' l := by
  obtain ⟨p, c, rfl, hlc, hp⟩ := h
  refine ⟨p, c, rfl, hlc, fun hne => ?_⟩
  obtain ⟨A, rfl, hA, hc⟩ := hp hne
  exact ⟨A, rfl, Nat.lt_of_lt_of_le hA hb.size, fun j x hx f u hu => (hb.cell (by rw [add_block]; exact hA)).trans (hc j x hx f u hu)⟩
theorem acts_form {v : Value} {w : World} {l : List ActL} {n : Nat} (h : ActsV v w l) (hn : l.length = n) : ∃ p c, v = .slice p n c ∧ n ≤ c := by
  obtain ⟨p, c, rfl, h2, _⟩ := h
  exact ⟨p, c, by rw [hn], by omega⟩
theorem acts_at {p : Option Addr} {n c : Nat} {w : World} {l : List ActL} (h : ActsV (.slice p n c) w l) {i : Nat} {x : ActL} (hx : l[i]? = some x) : ∃ A, p = some A ∧ A.block < w.heap.size ∧ ∀ (f : Nat) (u : Value), (actA x)[f]? = some u → w.cell? ((A.add (i * 6)).add f) = some u := by
  obtain ⟨p', c', e1, _, e3⟩ := h
  cases e1
  obtain ⟨A, e4, e6, e5⟩ := e3 (by intro e; rw [e] at hx; cases hx)
  exact ⟨A, e4, e6, fun f u hu => by rw [add_add]; exact e5 i x hx f u hu⟩
theorem c_act : Tryd.prog.cellsOf 30 = 6 := by kernel_rfl
theorem info_act : (Tryd.prog.info? 30).map (·.size) = some 6 := by kernel_rfl
set_option maxRecDepth 100000 in
theorem open_act {H : Type} {enc : TypeId × Value → H} {W : World} {base n : Nat} {sp : Nat → Bool} {held : Bool} {cs : List Value} {x : DataW H × List MemPlace}
    (h : DataW.trod enc Tryd.prog W base sp held n 30 cs = some x) : ∃ y : ActL, cs = (actA y).toList ∧ ActOk y := by
  obtain ⟨xs, m, _, hx, hl, hlen, hff⟩ := DataW.trod_struct Tryd.underlying30 h
  rw [c_act] at hl
  have hl6 : cs.length = 6 := hl
  have hx6 : xs.length = 6 := hlen
  obtain ⟨c0, c1, c2, c3, c4, c5, rfl⟩ : ∃ a b c d e f, cs = [a, b, c, d, e, f] := by
    match cs, hl6 with
    | [a, b, c, d, e, f], _ => exact ⟨a, b, c, d, e, f, rfl⟩
  obtain ⟨x0, x1, x2, x3, x4, x5, rfl⟩ : ∃ a b c d e f, xs = [a, b, c, d, e, f] := by
    match xs, hx6 with
    | [a, b, c, d, e, f], _ => exact ⟨a, b, c, d, e, f, rfl⟩
  have f0 : DataW.trod enc Tryd.prog W base sp held m 5 (([c0, c1, c2, c3, c4, c5].drop 0).take (Tryd.prog.cellsOf 5)) = some x0 := hff 0 _ rfl
  have f1 : DataW.trod enc Tryd.prog W base sp held m 5 (([c0, c1, c2, c3, c4, c5].drop 1).take (Tryd.prog.cellsOf 5)) = some x1 := hff 1 _ rfl
  have f2 : DataW.trod enc Tryd.prog W base sp held m 5 (([c0, c1, c2, c3, c4, c5].drop 2).take (Tryd.prog.cellsOf 5)) = some x2 := hff 2 _ rfl
  have f3 : DataW.trod enc Tryd.prog W base sp held m 28 (([c0, c1, c2, c3, c4, c5].drop 3).take (Tryd.prog.cellsOf 28)) = some x3 := hff 3 _ rfl
  have f4 : DataW.trod enc Tryd.prog W base sp held m 9 (([c0, c1, c2, c3, c4, c5].drop 4).take (Tryd.prog.cellsOf 9)) = some x4 := hff 4 _ rfl
  have f5 : DataW.trod enc Tryd.prog W base sp held m 4 (([c0, c1, c2, c3, c4, c5].drop 5).take (Tryd.prog.cellsOf 4)) = some x5 := hff 5 _ rfl
  rw [show Tryd.prog.cellsOf 5 = 1 by kernel_rfl] at f0 f1 f2
  rw [show Tryd.prog.cellsOf 28 = 1 by kernel_rfl] at f3
  rw [show Tryd.prog.cellsOf 9 = 1 by kernel_rfl] at f4
  rw [show Tryd.prog.cellsOf 4 = 1 by kernel_rfl] at f5
  obtain ⟨a0, e0, _, w0⟩ := DataW.trod_int Tryd.underlying5 f0
  obtain ⟨a1, e1, _, w1⟩ := DataW.trod_int Tryd.underlying5 f1
  obtain ⟨a2, e2, _, w2⟩ := DataW.trod_int Tryd.underlying5 f2
  obtain ⟨a3, e3, _, w3⟩ := DataW.trod_int Tryd.underlying28 f3
  obtain ⟨a4, e4, _, w4⟩ := DataW.trod_string Tryd.underlying9 f4
  obtain ⟨a5, e5, _⟩ := DataW.trod_bool Tryd.underlying4 f5
  simp at e0 e1 e2 e3 e4 e5
  obtain ⟨b0, rfl, g0⟩ := nat_of_u8 w0
  obtain ⟨b1, rfl, g1⟩ := nat_of_u8 w1
  obtain ⟨b2, rfl, g2⟩ := nat_of_u8 w2
  obtain ⟨b3, rfl, g3⟩ := nat_of_u64 w3
  subst e0 e1 e2 e3 e4 e5
  refine ⟨⟨b0, b1, b2, b3, strL a4, a5⟩, ?_, ⟨g0, g1, g2, g3, strL_bytes a4, ?_⟩⟩
  · simp [actA, strOf_strL]
  · show (strL a4).length ≤ maxLen
    rw [show (strL a4).length = a4.size by rw [← strOf_size, strOf_strL]]
    exact w4
set_option maxRecDepth 100000 in
theorem open_acts {H : Type} {enc : TypeId × Value → H} {W : World} {r : Reach} {b0 base : Nat} {sp : Nat → Bool} {held : Bool} {v : Value} {d : DataW H} {p : List MemPlace}
    (hv : Value.okWide Tryd.prog W r b0 22 v) (h : DataW.Trod enc Tryd.prog W base sp held 22 v d p) : ∃ l : List ActL, ActsV v W l ∧ (∀ x ∈ l, ActOk x) ∧ l.length ≤ maxLen := by
  obtain ⟨a0, len, cap, rfl⟩ := okWide_slice Tryd.underlying22 hv
  obtain ⟨fuel, hf⟩ := h
  rcases Go.Deep.open_slice Tryd.underlying22 hf with ⟨hcs, hx⟩ | ⟨a, len, cap, m, n, D, Pl, hcs, _, hl, hm, hmm, hx, hel⟩
  · simp [Value.cells] at hcs
    obtain ⟨rfl, rfl, rfl⟩ := hcs
    exact ⟨[], ⟨none, 0, rfl, Nat.le_refl _, fun h => absurd rfl h⟩, fun x hx => (by cases hx), Nat.zero_le _⟩
  · simp [Value.cells] at hcs
    obtain ⟨rfl, rfl, rfl⟩ := hcs
    have hlm : len ≤ m := by rw [hmm]; split <;> omega
    rw [c_act] at hel
    have key : ∀ i, ∃ y : ActL, i < len → ActOk y ∧ ∀ (f : Nat) (u : Value), (actA y)[f]? = some u → W.cell? (a.add (i * 6 + f)) = some u := fun i => by
      by_cases hi : i < len
      · obtain ⟨cs', h1, h2⟩ := hel i (by omega)
        obtain ⟨y, e1, e2⟩ := open_act h2
        obtain ⟨_, hc6, hcell⟩ := World.cells?_some h1
        refine ⟨y, fun _ => ⟨e2, fun f u hu => ?_⟩⟩
        have hf6 : f < 6 := (Array.getElem?_eq_some_iff.1 hu).1
        have := hcell f hf6
        rw [e1, Array.getElem?_toList, hu, add_add] at this
        exact this
      · exact ⟨⟨0, 0, 0, 0, [], false⟩, fun h => absurd h hi⟩
    let g : Nat → ActL := fun i => Classical.choose (key i)
    have hk : ∀ i, i < len → ActOk (g i) ∧ ∀ (f : Nat) (u : Value), (actA (g i))[f]? = some u → W.cell? (a.add (i * 6 + f)) = some u := fun i => Classical.choose_spec (key i)
    have hget : ∀ (j : Nat) (x : ActL), ((List.range len).map g)[j]? = some x → j < len ∧ x = g j := fun j x hj => by
      rw [List.getElem?_map] at hj
      obtain ⟨y, hy, rfl⟩ := Option.map_eq_some_iff.1 hj
      obtain ⟨h1, h2⟩ := List.getElem?_eq_some_iff.1 hy
      simp at h1 h2
      subst h2
      exact ⟨h1, rfl⟩
    refine ⟨(List.range len).map g, ⟨some a, cap, by simp, by simpa using hl, fun hne => ⟨a, rfl, ?_, fun j x hj f u hu => ?_⟩⟩, fun x hx => ?_, by simp; omega⟩
    · have h0 : 0 < len := by
        rcases Nat.eq_zero_or_pos len with h | h
        · subst h; exact absurd rfl hne
        · exact h
      have := World.block_lt_of_cell? _ _ ((hk 0 h0).2 0 _ rfl)
      rwa [add_block] at this
    · obtain ⟨h1, rfl⟩ := hget j x hj
      exact (hk j h1).2 f u hu
    · obtain ⟨j, hj⟩ := List.getElem?_of_mem hx
      obtain ⟨h1, rfl⟩ := hget j x hj
      exact (hk j h1).1

section
variable {ops : Array Oper} {rest : List Oper} {o : Oper} {a : Act} {w : World} {Q : Exit → Act → World → Prop} {d : Nat}
theorem run_loadAct (w : World) (A : Addr) (x : ActL) (hc : ∀ (f : Nat) (u : Value), (actA x)[f]? = some u → w.cell? (A.add f) = some u) : (loadVar 30 A).run Tryd.prog w = .ok (.agg (actA x)) w := by
  have hl : (loadCells A (actA x).toList.length).run Tryd.prog w = .ok (actA x).toList.toArray w :=
    run_loadCells_list (P := Tryd.prog) w A (actA x).toList (fun j v hv => hc j v (by simpa using hv))
  have h6 : (actA x).toList.length = 6 := rfl
  rw [h6] at hl
  have ha : (isAgg 30).run Tryd.prog w = .ok true w := by kernel_rfl
  have hs : (sizeOf 30).run Tryd.prog w = .ok 6 w := by kernel_rfl
  unfold loadVar
  simp [ha, hs, hl]
/-- An act is read. -/
theorem wv_act (hd : o.dst = some d) (hw : Region.wanted o (yielded ops a.tmps) = true) (x : Operand) (ho : o.op = .load 30 x) (A : Addr) (hx : a.eval x = .pointer (some A)) (y : ActL) (hc : ∀ (f : Nat) (u : Value), (actA y)[f]? = some u → w.cell? (A.add f) = some u)
    (h : wpList Tryd.prog ops Q rest (a.put o.dst (.agg (actA y))) w) : wpList Tryd.prog ops Q (o :: rest) a w :=
  BigFrame.wpList_want hw fun K hK => by
    have hrun : (execOp a.eval o).run Tryd.prog w = .ok (.value (.agg (actA y))) w := by
      unfold execOp
      simp only [ho, hx, Instr.loadAt, Instr.sureAddr, Sem.run_bind, Sem.run_pure, Result.andThen_ok, run_loadAct w A y hc]
    unfold Oper.wp
    rw [hrun]
    exact hK _ _ h
end
theorem run_idx6 {o : Oper} {a : Act} {x y : Operand} {i l c : Nat} {A : Addr} (ho : o.op = .indexAddr 22 x y) (hx : a.eval x = .slice (some A) l c) (hy : a.eval y = .int .i64 (i : Int)) (hi : i < l) (w : World) : (execOp a.eval o).run Tryd.prog w = .ok (.value (.pointer (some (A.add (i * 6))))) w := by
  have h1 : ((i : Int) < (l : Int)) := by omega
  have hs : ∀ w, (sizeOf 30).run Tryd.prog w = .ok 6 w := fun w => by kernel_rfl
  unfold execOp
  simp only [ho, hx, hy, Instr.indexAt]
  simp [asIntOf, run_underlying Tryd.underlying22, h1, hs, go_sem]
  intro h
  omega
theorem actA_one (x : ActL) : (actA x).all (·.oneCell') = true := by simp [actA, Value.oneCell']
theorem actA_size (x : ActL) : (actA x).size = 6 := rfl

theorem bigL_cons : ∀ (i n : Nat), bigL n (i + 1) = (n / 256 ^ i) % 256 :: bigL n i
  | 0, n => by simp [bigL]
  | i + 1, n => by
    have h := bigL_cons i (n / 256)
    rw [show bigL n (i + 1 + 1) = bigL (n / 256) (i + 1) ++ [n % 256] from rfl, h, show bigL n (i + 1) = bigL (n / 256) i ++ [n % 256] from rfl, Nat.div_div_eq_div_mul, Nat.mul_comm 256, ← Nat.pow_succ]
    rfl
def TERM24 : List Nat := [116, 101, 114, 109] ++ List.replicate 20 0
theorem termN_24 (n : Nat) : termN n = TERM24 ++ bigL n 8 := rfl
set_option maxRecDepth 100000 in
set_option maxHeartbeats 1000000 in
theorem rNameD {n : Nat} {w : World} (hn : n < 4611686018427387904) :
    Calls Tryd.prog 16 #[.int .i64 (n : Int)] w fun e w' => e = .returned (.string (strOf (termN n))) ∧ Below w.heap.size w w' := by
  obtain ⟨R, hR⟩ : ∃ R, R = termN n := ⟨_, rfl⟩
  rw [← hR]
  have KR : Kept (R = TERM24 ++ bigL n 8) := ⟨hR⟩
  clear hR
  go_enter Tryd.func16, Tryd.ntmps16
  go_wp2_with fail
  go_loopg [0, 3, 4] 8 (fun k s0 s3 s4 wr => ∃ (m i : Nat) (D : List Nat), s0 = .int .i64 (m : Int) ∧ s3 = .string (strOf D) ∧ s4 = .int .i64 (i : Int) ∧ i + k = 8 ∧ m < 4611686018427387904 ∧ Kept (m = n / 256 ^ i ∧ D = bigL n i) ∧ Below w.heap.size w wr)
  case atStart => exact ⟨n, 0, [], rfl, rfl, rfl, rfl, hn, ⟨by simp, rfl⟩, Below.refl _ _⟩
  case round =>
    rename World => wz
    obtain ⟨m, i, D, rfl, rfl, rfl, hik, hm, KD, HB⟩ := hrel
    by_cases hk0 : gk = 0
    · obtain rfl : i = 8 := by omega
      have hD : Kept (TERM24.length + D.length < 4611686018427387904) := ⟨by rw [KD.out.2, bigL_len]; decide⟩
      have KE : Kept (R = TERM24 ++ D) := ⟨by rw [KR.out, KD.out.2]⟩
      go_wp2_with (first | ((with_reducible refine wv_val (d := 19) ?hd ?hw (.string (strOf R)) ?hr ?_); (case hd => rfl); (case hw => kernel_rfl); (case hr => intro w; exact run_scat (l := TERM24) rfl (by kernel_rfl) (by kernel_rfl) hD.out KE.out w); simp only [Act.put, List.setIfInBounds_toArray, List.set_cons_succ, List.set_cons_zero]))
      go_ret
      exact ⟨rfl, HB⟩
    · have hi8 : (i : Int) < 8 := by omega
      obtain ⟨z, hz⟩ : ∃ z, z = m % 256 := ⟨_, rfl⟩
      obtain ⟨m2, hm2⟩ : ∃ m2, m2 = m / 256 := ⟨_, rfl⟩
      have KZ : Kept _ := ⟨hz⟩
      have K2 : Kept _ := ⟨hm2⟩
      have hz8 : z < 256 := by omega
      have hm2' : m2 < 4611686018427387904 := by omega
      have LD : [z].length + D.length < 4611686018427387904 := by rw [KD.out.2, bigL_len]; simp; omega
      have CE : Kept (z :: D = [z] ++ D) := ⟨rfl⟩
      have KD2 : Kept (m2 = n / 256 ^ (i + 1) ∧ z :: D = bigL n (i + 1)) := ⟨by
        obtain ⟨d1, d2⟩ := KD.out
        refine ⟨by rw [hm2, d1, Nat.div_div_eq_div_mul, ← Nat.pow_succ], ?_⟩
        rw [bigL_cons, ← d1, ← hz, d2]⟩
      have hb1 : Kept (z = z % 256) := ⟨by omega⟩
      clear hz hm2 KD
      go_wp2_with (first | ((with_reducible refine wv_val (d := 10) ?hd ?hw (.int .i64 (z : Int)) ?hr ?_); (case hd => rfl); (case hw => kernel_rfl); (case hr => intro w; exact run_rem256 rfl (by kernel_rfl) KZ.out w); simp only [Act.put, List.setIfInBounds_toArray, List.set_cons_succ, List.set_cons_zero]) | ((with_reducible refine wv_val (d := 11) ?hd ?hw (.int .u8 (z : Int)) ?hr ?_); (case hd => rfl); (case hw => kernel_rfl); (case hr => intro w; exact run_conv38 rfl (by kernel_rfl) hb1.out w); simp only [Act.put, List.setIfInBounds_toArray, List.set_cons_succ, List.set_cons_zero]) | ((with_reducible refine wv_valW (d := 13) ?hd ?hw (.string (strOf [z])) ?hr ?_); (case hd => rfl); (case hw => kernel_rfl); (case hr => exact run_str rfl (by kernel_rfl) (one_bytes z wz)); simp only [Act.put, List.setIfInBounds_toArray, List.set_cons_succ, List.set_cons_zero]) | ((with_reducible refine wv_val (d := 15) ?hd ?hw (.string (strOf (z :: D))) ?hr ?_); (case hd => rfl); (case hw => kernel_rfl); (case hr => intro w; exact run_scat rfl (by kernel_rfl) (by kernel_rfl) LD CE.out w); simp only [Act.put, List.setIfInBounds_toArray, List.set_cons_succ, List.set_cons_zero]) | ((with_reducible refine wv_val (d := 17) ?hd ?hw (.int .i64 (m2 : Int)) ?hr ?_); (case hd => rfl); (case hw => kernel_rfl); (case hr => intro w; exact run_quo256 rfl (by kernel_rfl) K2.out hm w); simp only [Act.put, List.setIfInBounds_toArray, List.set_cons_succ, List.set_cons_zero]))
      go_roundg (gk - 1)
      case measure => omega
      case rel => exact ⟨m2, i + 1, z :: D, rfl, rfl, by simp, by omega, hm2', KD2, HB.trans (((Below.refl _ _).alloc (Nat.le_refl _) _).mono HB.size)⟩

theorem run_gtrK {o : Oper} {a : Act} {x : Operand} {m : Int} {b : Bool} (c : Int) (ho : o.op = .binOp .gtr 3 x (.const (.int .i64 c)) 3) (hx : a.eval x = .int .i64 m) (hb : b = decide (c < m)) (w : World) : (execOp a.eval o).run Tryd.prog w = .ok (.value (.bool b)) w := by
  have e3 : a.eval (.const (.int .i64 c)) = .int .i64 c := rfl
  unfold execOp
  simp only [ho, hx, e3]
  rw [hb]
  simp [go_sem]
theorem run_addW {o : Oper} {a : Act} {x y : Operand} {X : Int} {n : Nat} {Z : Int} (ho : o.op = .binOp .add 3 x y 3) (hx : a.eval x = .int .i64 X) (hy : a.eval y = .int .i64 (n : Int)) (hZ : Z = wrap64 (X + (n : Int))) (w : World) : (execOp a.eval o).run Tryd.prog w = .ok (.value (.int .i64 Z)) w := by
  unfold execOp
  simp only [ho, hx, hy]
  rw [hZ]
  simp [go_sem, IntKind.wrap_i64, wrap64]
/-- What heavy answers: a bool; where it is false there are at most 60 acts. -/
def HeavyE (n : Nat) (e : Ending) : Prop := ∃ b : Bool, e = .returned (.bool b) ∧ (b = false → n ≤ 60)
set_option maxRecDepth 100000 in
set_option maxHeartbeats 2000000 in
theorem heavyD {l : List ActL} {v : Value} {w : World} (hv : ActsV v w l) (hN : l.length ≤ maxLen) :
    Calls Tryd.prog 11 #[v] w fun e w' => HeavyE l.length e ∧ Below w.heap.size w w' := by
  obtain ⟨p, c, rfl, hc⟩ := acts_form hv rfl
  obtain ⟨n, hn⟩ : ∃ n, n = l.length := ⟨_, rfl⟩
  rw [← hn] at hv hc hN ⊢
  have HN : Kept _ := ⟨hn⟩
  have HV : Kept _ := ⟨hv⟩
  unfold maxLen at hN
  clear hn hv
  go_enter Tryd.func11, Tryd.ntmps11
  go_wp2_with fail
  go_loopg [3, 8] n (fun k s3 s8 wr => ∃ (i : Nat) (m : Int), i + k = n ∧ s8 = .int .i64 (i : Int) ∧ s3 = .int .i64 m ∧ Below w.heap.size w wr)
  case atStart => exact ⟨0, 0, by omega, rfl, rfl, Below.refl _ _⟩
  case round =>
    rename World => wz
    obtain ⟨i, m, hik, rfl, rfl, hb⟩ := hrel
    by_cases hk0 : gk = 0
    · obtain rfl : n = i := by omega
      by_cases h60 : 60 < n
      · have h60' : (60 : Int) < (n : Int) := by omega
        go_wp2_with fail
        go_ret
        exact ⟨⟨true, rfl, fun h => by cases h⟩, hb⟩
      · have h60' : ¬ (60 : Int) < (n : Int) := by omega
        have KB : Kept (decide ((9000 : Int) < m) = decide ((9000 : Int) < m)) := ⟨rfl⟩
        obtain ⟨F, hF⟩ : ∃ F, F = decide ((9000 : Int) < m) := ⟨_, rfl⟩
        have KF : Kept _ := ⟨hF⟩
        clear hF
        go_wp2_with (first | ((with_reducible refine wv_val (d := 23) ?hd ?hw (.bool F) ?hr ?_); (case hd => rfl); (case hw => kernel_rfl); (case hr => intro w; exact run_gtrK 9000 rfl (by kernel_rfl) KF.out w); simp only [Act.put, List.setIfInBounds_toArray, List.set_cons_succ, List.set_cons_zero]))
        go_ret
        exact ⟨⟨F, rfl, fun _ => by omega⟩, hb⟩
    · have hin : i < n := by omega
      have hin' : (i : Int) < (n : Int) := by omega
      have hi1 : (i : Int) + 1 ≤ 9223372036854775807 := by omega
      obtain ⟨x, hx⟩ : ∃ x, l[i]? = some x := ⟨_, List.getElem?_eq_getElem (by rw [← HN.out]; exact hin)⟩
      obtain ⟨A, rfl, hA, hcell⟩ := acts_at (HV.out.under hb) hx
      have KC : Kept _ := ⟨hcell⟩
      obtain ⟨z, hz⟩ : ∃ z, z = x.s.length := ⟨_, rfl⟩
      have KZ : Kept _ := ⟨hz⟩
      obtain ⟨m2, hm2⟩ : ∃ m2, m2 = wrap64 (m + (z : Int)) := ⟨_, rfl⟩
      have K2 : Kept _ := ⟨hm2⟩
      obtain ⟨g, hg⟩ : ∃ g, g = wz.heap.size := ⟨_, rfl⟩
      have Kg : Kept _ := ⟨hg⟩
      obtain ⟨AA, hAA⟩ : ∃ AA, AA = actA x := ⟨_, rfl⟩
      have KA4 : Kept (AA[4]? = some (.string (strOf x.s))) := ⟨by rw [hAA]; rfl⟩
      have KA1 : Kept (AA.all (·.oneCell') = true) := ⟨by rw [hAA]; exact actA_one x⟩
      have KA6 : Kept (AA.size = 6) := ⟨by rw [hAA]; rfl⟩
      have KAA : Kept _ := ⟨hAA⟩
      clear hx hcell hz hm2 hg hAA
      go_wp2_with (first | ((with_reducible refine wv_val (d := 10) ?hd ?hw (.pointer (some (A.add (i * 6)))) ?hr ?_); (case hd => rfl); (case hw => kernel_rfl); (case hr => intro w; exact run_idx6 rfl (by kernel_rfl) (by kernel_rfl) hin w); simp only [Act.put, List.setIfInBounds_toArray, List.set_cons_succ, List.set_cons_zero]) | (((with_reducible refine wv_act (d := 11) ?hd ?hw (.tmp 10) ?ho (A.add (i * 6)) ?hx (x) ?hc ?_); (case hd => rfl); (case hw => kernel_rfl); (case ho => rfl); (case hx => kernel_rfl); (case hc => exact KC.out); simp only [Act.put, List.setIfInBounds_toArray, List.set_cons_succ, List.set_cons_zero]); rw [← KAA.out]) | ((refine wl_store rfl 30 (.tmp 5) (.tmp 11) rfl wz.heap.size AA (by kernel_rfl) (by kernel_rfl) _ (blk_new wz 30 _) (by rw [KA6.out]; exact info_act) (by rw [KA6.out]; rfl) KA1.out ?_); intro w2 hb2 hp2; simp only [Act.put, List.setIfInBounds_toArray, List.set_cons_succ, List.set_cons_zero]) | ((with_reducible refine wv_elem (d := 14) ?hd ?hw 9 ag_str (.tmp 13) ?ho (⟨wz.heap.size, 4, none⟩) ?hx (.string (strOf x.s)) ?hc ?_); (case hd => rfl); (case hw => kernel_rfl); (case ho => rfl); (case hx => kernel_rfl); (case hc => exact hb2.cell KA4.out); simp only [Act.put, List.setIfInBounds_toArray, List.set_cons_succ, List.set_cons_zero]) | ((with_reducible refine wv_val (d := 15) ?hd ?hw (.int .i64 (z : Int)) ?hr ?_); (case hd => rfl); (case hw => kernel_rfl); (case hr => intro w; exact run_slen rfl (by kernel_rfl) KZ.out w); simp only [Act.put, List.setIfInBounds_toArray, List.set_cons_succ, List.set_cons_zero]) | ((with_reducible refine wv_val (d := 16) ?hd ?hw (.int .i64 m2) ?hr ?_); (case hd => rfl); (case hw => kernel_rfl); (case hr => intro w; exact run_addW rfl (by kernel_rfl) (by kernel_rfl) K2.out w); simp only [Act.put, List.setIfInBounds_toArray, List.set_cons_succ, List.set_cons_zero]))
      go_roundg (gk - 1)
      case measure => omega
      case rel => exact ⟨i + 1, m2, by omega, by simp, rfl, (hb.trans (((Below.refl _ _).alloc (Nat.le_refl _) _).mono hb.size)).trans (hp2.below hb.size)⟩
end Go.Proofs.YtfdldpcfdebinaaDoor.sh
