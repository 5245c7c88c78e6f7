/-
  An argument that is a key, a nonce and a count.
-/
import Derived.Test.YthieljiplhhdeaaXK
import Derived.Test.YthieljiplhhdeaaBaseB
import Derived.Test.YthieljiplhhdeaaBaseB
import Derived.Deep.Strs
namespace Go.Proofs.Ythieljiplhhdeaa.sh
open Go Go.ChangeShapes Go.WideShapes Go.ChangeAt Go.RowKit
set_option linter.unusedVariables false
set_option linter.unusedSimpArgs false

def placeA (k n : List Nat) (c : Nat) : Array Value := ints .u8 k ++ (ints .u8 n ++ #[.int .u32 (c : Int)])
theorem place_size (k n : List Nat) (c : Nat) (hk : k.length = 32) (hn : n.length = 12) : (placeA k n c).size = 45 := by simp [placeA, ints_size, hk, hn]
theorem place_key (k n : List Nat) (c : Nat) : ∀ (j : Nat) (v : Value), (ints .u8 k)[j]? = some v → (placeA k n c)[0 + j]? = some v := part_first _ _
theorem place_non (k n : List Nat) (c : Nat) (hk : k.length = 32) : ∀ (j : Nat) (v : Value), (ints .u8 n)[j]? = some v → (placeA k n c)[32 + j]? = some v := fun j v h => by
  have h2 := part_first (ints .u8 n) #[.int .u32 (c : Int)] j v h
  rw [Nat.zero_add] at h2
  exact part_second (ints .u8 k) _ 32 (by rw [ints_size, hk]) j v h2
theorem place_cnt (k n : List Nat) (c : Nat) (hk : k.length = 32) (hn : n.length = 12) : (placeA k n c)[44]? = some (.int .u32 (c : Int)) := by
  have h2 := part_second (ints .u8 n) #[.int .u32 (c : Int)] 12 (by rw [ints_size, hn]) 0 _ rfl
  exact part_second (ints .u8 k) _ 32 (by rw [ints_size, hk]) 12 _ h2
theorem place_info (k n : List Nat) (c : Nat) (hk : k.length = 32) (hn : n.length = 12) : (Try.prog.info? 26).map (·.size) = some (placeA k n c).size := by rw [place_size k n c hk hn]; kernel_rfl
theorem arr_cells {H : Type} {enc : TypeId × Value → H} {W : World} {base : Nat} {sp : Nat → Bool} {held : Bool} {fuel : Nat} {cs : List Value} {x : DataW H × List MemPlace} {t e : TypeId} {n B : Nat} {kd : IntKind} (ht : Try.prog.underlying t = some (.array n e)) (he : Try.prog.underlying e = some (.int kd)) (ct : Try.prog.cellsOf t = n) (ce : Try.prog.cellsOf e = 1) (hB : ∀ k : Int, (Lit.int kd k).wf = true → 0 ≤ k ∧ k < B)
    (hf : DataW.trod enc Try.prog W base sp held fuel t cs = some x) : ∃ l : List Nat, cs = (ints kd l).toList ∧ l.length = n ∧ ∀ (i x : Nat), l[i]? = some x → x < B := by
  obtain ⟨xs, m, rfl, hx, hlen, hn, hel⟩ := DataW.trod_array ht hf
  rw [ct] at hlen
  have hb : ∀ i, ∃ k : Nat, i < n → cs[i]? = some (.int kd (k : Int)) ∧ k < B := by
    intro i
    by_cases hi : i < n
    · have h1 := hel i hi
      rw [ce, Nat.mul_one] at h1
      have hxi : xs[i]? = some (xs[i]'(by omega)) := List.getElem?_eq_getElem _
      rw [hxi] at h1
      obtain ⟨k, e1, e2, hwf⟩ := DataW.trod_int he h1
      have hi' : i < cs.length := by omega
      have e3 : (cs.drop i).take 1 = [cs[i]] := by
        rw [List.drop_eq_getElem_cons hi']
        rfl
      rw [e3] at e1
      obtain ⟨h2, h3⟩ := hB k hwf
      refine ⟨k.toNat, fun _ => ⟨?_, by omega⟩⟩
      rw [Int.toNat_of_nonneg h2, List.getElem?_eq_getElem hi']
      simpa using e1
    · exact ⟨0, fun h' => absurd h' hi⟩
  let b : Nat → Nat := fun i => Classical.choose (hb i)
  have b1 : ∀ i, i < n → cs[i]? = some (.int kd (b i : Int)) ∧ b i < B := fun i => Classical.choose_spec (hb i)
  refine ⟨(List.range n).map b, ?_, by simp, fun i x hx => ?_⟩
  · apply List.ext_getElem?
    intro j
    by_cases hj : j < n
    · rw [(b1 j hj).1]
      have h9 : (ints kd ((List.range n).map b))[j]? = some (.int kd (b j : Int)) := ints_get (by simp [hj])
      rw [← Array.getElem?_toList] at h9
      exact h9.symm
    · have h9 : (ints kd ((List.range n).map b)).toList.length = n := by simp [ints]
      rw [List.getElem?_eq_none (by omega), List.getElem?_eq_none (by omega)]
  · rw [List.getElem?_map] at hx
    obtain ⟨y, hy, rfl⟩ := Option.map_eq_some_iff.1 hx
    obtain ⟨h1, h2⟩ := List.getElem?_eq_some_iff.1 hy
    simp at h1 h2
    rw [← h2]
    exact (b1 _ h1).2
theorem c_12 : Try.prog.cellsOf 23 = 12 := by kernel_rfl
theorem c_pl : Try.prog.cellsOf 26 = 45 := by kernel_rfl
theorem c_u32 : Try.prog.cellsOf 24 = 1 := by kernel_rfl
theorem open_place {H : Type} {enc : TypeId × Value → H} {W : World} {r : Reach} {b0 base : Nat} {sp : Nat → Bool} {held : Bool} {v : Value} {d : DataW H} {p : List MemPlace}
    (hv : Value.okWide Try.prog W r b0 26 v) (h : DataW.Trod enc Try.prog W base sp held 26 v d p) : ∃ (k n : List Nat) (c : Nat), v = .agg (placeA k n c) ∧ k.length = 32 ∧ Bytes k ∧ n.length = 12 ∧ Bytes n ∧ c < 4294967296 := by
  unfold Value.okWide at hv
  rw [Try.underlying26] at hv
  obtain ⟨cs, rfl, hsz, _⟩ := hv
  rw [c_pl] at hsz
  obtain ⟨fuel, hf⟩ := h
  obtain ⟨y0, y1, y2, n, hx, hl, h0, h1, h2⟩ := Go.Deep.trod_struct3 Try.underlying26 hf
  have h0' : DataW.trod enc Try.prog W base sp held n 22 ((cs.toList.drop 0).take (Try.prog.cellsOf 22)) = some y0 := h0
  have h1' : DataW.trod enc Try.prog W base sp held n 23 ((cs.toList.drop 32).take (Try.prog.cellsOf 23)) = some y1 := h1
  have h2' : DataW.trod enc Try.prog W base sp held n 24 ((cs.toList.drop 44).take (Try.prog.cellsOf 24)) = some y2 := h2
  rw [c_32] at h0'
  rw [c_12] at h1'
  rw [c_u32] at h2'
  obtain ⟨k, ek, lk, bk⟩ := arr_cells (B := 256) Try.underlying22 Try.underlying5 c_32 cu8 (fun k hk => by have := bounds_u8 hk; omega) h0'
  obtain ⟨nn, en, ln, bn⟩ := arr_cells (B := 256) Try.underlying23 Try.underlying5 c_12 cu8 (fun k hk => by have := bounds_u8 hk; omega) h1'
  obtain ⟨c, ec, _, hwf⟩ := DataW.trod_int Try.underlying24 h2'
  have hc := bounds_u32 hwf
  refine ⟨k, nn, c.toNat, ?_, lk, bk, ln, bn, by omega⟩
  congr 1
  apply Array.toList_inj.1
  unfold placeA
  rw [Array.toList_append, Array.toList_append, ← ek, ← en, Int.toNat_of_nonneg hc.1]
  have e1 : cs.toList = cs.toList.take 32 ++ ((cs.toList.drop 32).take 12 ++ (cs.toList.drop 44).take 1) := by
    have e2 : (cs.toList.drop 44).take 1 = cs.toList.drop 44 := List.take_of_length_le (by simp; omega)
    rw [e2, show cs.toList.drop 44 = (cs.toList.drop 32).drop 12 by rw [List.drop_drop], List.take_append_drop, List.take_append_drop]
  rw [ec] at e1
  rw [List.drop_zero]
  exact e1
section
variable {ops : Array Oper} {rest : List Oper} {o : Oper} {a : Act} {w : World} {Q : Exit → Act → World → Prop} {d : Nat}
/-- An array in the midst of a block is read. -/
theorem wv_partA (hd : o.dst = some d) (hw : Region.wanted o (yielded ops a.tmps) = true) (t : TypeId) (x : Operand) (ho : o.op = .load t x) (g off : Nat) (hx : a.eval x = .pointer (some ⟨g, off, none⟩)) {t' : TypeId} (cs es : Array Value) (len : Nat) (e : TypeId) (hu : Try.prog.underlying t = some (.array len e)) (hs : (Try.prog.info? t).map (·.size) = some es.size)
    (hg : Blk w g t' cs) (hp : ∀ j v, es[j]? = some v → cs[off + j]? = some v) (h : wpList Try.prog ops Q rest (a.put o.dst (.agg es)) w) : wpList Try.prog ops Q (o :: rest) a w :=
  BigFrame.wpList_want hw fun K hK => by
    unfold Oper.wp execOp
    simp only [ho, hx, Instr.loadAt, Instr.sureAddr, Sem.run_bind, Sem.run_pure, Result.andThen_ok, run_loadVar_at w g off t' t cs es (0, 0) _ hg hp hu rfl hs]
    exact hK _ _ h
end
section
variable {P : Program} {h : List Oper} {A0 A : Act} {W0 : World} {S : Nat → Option (Value → World → Prop)} {sp O : List Nat} {E : List (Nat × Nat)} {i : Nat} {o : Oper}
theorem ow_partA (hA : Full h A0 A S sp) (hw : Wants h A0 A S O E W0.heap.size i o) (d : Nat) (v : Value) (hdet : detE h sp E i o = true) (hsel : notSel o = true) (hd : o.dst = some d) (hds : sp.contains d = false) (hO : O.contains d = false) (hv : A.tmps[d]? = some v) (ty : TypeId) (x : Operand) (ho : o.op = .load ty x) (g off : Nat) (hx : A.eval x = .pointer (some ⟨g, off, none⟩)) (t : TypeId) (cs es : Array Value) (len : Nat) (e : TypeId) (hu : P.underlying ty = some (.array len e)) (hi : (P.info? ty).map (·.size) = some es.size)
    (hb : ∀ w, Below W0.heap.size W0 w → Blk w g t cs) (hp : ∀ j v, es[j]? = some v → cs[off + j]? = some v) (hvB : v = .agg es) : OwnOk P h A0 W0 (relR A S) O E i o :=
  ow_q hA hdet hsel hw d v hd hds hO hv fun w hw => by
    unfold Oper.quietAt execOp
    simp only [ho, hx, Instr.loadAt, Instr.sureAddr, Sem.run_bind, Sem.run_pure, Result.andThen_ok, run_loadVar_at w g off t ty cs es (0, 0) _ (hb w hw) hp hu rfl hi]
    exact ⟨rfl, hvB.symm⟩
end
end Go.Proofs.Ythieljiplhhdeaa.sh
