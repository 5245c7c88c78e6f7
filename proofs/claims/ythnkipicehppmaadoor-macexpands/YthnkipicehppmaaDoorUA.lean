/-
  Owned slices of ints: kept, read, an element written; sums of ints.
-/
import Derived.Test.YthnkipicehppmaaDoorSU
import Derived.Test.YthnkipicehppmaaDoorSQ
import Derived.Test.YthnkipicehppmaaDoorPart
namespace Go.Proofs.YthnkipicehppmaaDoor.sh
open Go Go.ChangeShapes Go.WideShapes Go.ChangeAt Go.RowKit
set_option linter.unusedVariables false
set_option linter.unusedSimpArgs false

theorem Row.alloc {base : Nat} {e : TypeId} {k : IntKind} {l : List Nat} {v : Value} {w : World} (h : Row base e k l v w) (o : Obj) : Row base e k l v (w.alloc o) := World.ownsRow.alloc h o
theorem grown_under {w w' : World} {row : Option Nat} (h : Below w.heap.size w w') : w.grownBy w' row := ⟨h.os, h.tape, h.output, h.size, fun k hk _ => h.block k hk⟩
theorem ne_none (v : Value) : blkOf v = none ∨ blkOf v ≠ none := by cases blkOf v <;> simp
theorem Row.under {base : Nat} {e : TypeId} {k : IntKind} {l : List Nat} {v : Value} {w w' : World} (h : Row base e k l v w) (hb : Below w.heap.size w w') : Row base e k l v w' := h.keeps (grown_under (row := none) hb) (ne_none v)
theorem ne_of_range {v : Value} {B g : Nat} (h : ∀ b, blkOf v = some b → B ≤ b) (hg : g < B) : blkOf v = none ∨ blkOf v ≠ some g := by
  cases hv : blkOf v with
  | none => exact .inl rfl
  | some b => exact .inr fun e => by cases e; have := h g hv; omega
theorem IntsV.take {k : IntKind} {p : Option Addr} {l c m : Nat} {w : World} {bs : List Nat} (h : IntsV k (.slice p l c) w bs) (hm : m ≤ bs.length) : IntsV k (.slice p m c) w (bs.take m) := by
  obtain ⟨p', c', h1, h2, h3⟩ := h
  cases h1
  refine ⟨p, c, by rw [List.length_take, Nat.min_eq_left hm], by rw [List.length_take]; omega, fun hne => ?_⟩
  obtain ⟨A, rfl, e2, e3⟩ := h3 (by intro e; rw [e] at hne; simp at hne)
  refine ⟨A, rfl, e2, fun j x hx => ?_⟩
  rw [List.getElem?_take] at hx
  split at hx
  · exact e3 j x hx
  · cases hx
theorem run_addV {o : Oper} {a : Act} {x y : Operand} {i j : Nat} (ho : o.op = .binOp .add 3 x y 3) (hx : a.eval x = .int .i64 (i : Int)) (hy : a.eval y = .int .i64 (j : Int)) (hi : i + j < 4611686018427387904) (w : World) : (execOp a.eval o).run Tryd.prog w = .ok (.value (.int .i64 ((i + j : Nat) : Int))) w := by
  unfold execOp
  simp only [ho, hx, hy]
  simp [go_sem, IntKind.wrap_i64, wrap64]
  omega
/-- The rows' lengths keep the form's own reach. -/
theorem bytes_cellsZ {H : Type} {enc : TypeId × Value → H} {W : World} {base : Nat} {sp : Nat → Bool} {held : Bool} {fuel : Nat} {cs : List Value} {x : DataW H × List MemPlace}
    (hf : DataW.trod enc Tryd.prog W base sp held fuel 22 cs = some x) (hz : ∀ n ∈ x.1.weights Tryd.prog 22, n ≤ reachBytes) {v : Value} {bs : List Nat} (hcs : cs = [v]) (hb : BytesV v W bs) : bs.length ≤ reachBytes := by
  obtain ⟨p, c, rfl, hlc, _⟩ := hb
  rcases Go.Deep.open_slice1 Tryd.underlying22 cu8 hf with ⟨h1, _⟩ | ⟨a, len, cap, m, n, V, D, Pl, h1, _, hl, hm, hmm, hx, hel⟩
  · rw [hcs] at h1
    simp at h1
    rw [h1.2.1]
    exact Nat.zero_le _
  · rw [hcs] at h1
    simp at h1
    obtain ⟨_, h2, _⟩ := h1
    have hby : Tryd.prog.bytesOf 5 = 1 := by kernel_rfl
    have := hz ((((List.range len).map D).length + ((List.range (m - len)).map fun j => D (len + j)).length) * Tryd.prog.bytesOf 5) (by rw [hx]; simp [DataW.weights, Tryd.underlying22])
    rw [hby, Nat.mul_one] at this
    simp at this
    omega
theorem weightsAll_mem {H : Type} {P : Program} {e : TypeId} : ∀ {l : List (DataW H)} {d : DataW H}, d ∈ l → ∀ n ∈ d.weights P e, n ∈ DataW.weightsAll P e l
  | x :: r, d, hd, n, hn => by
    simp only [DataW.weightsAll, List.mem_append]
    rcases List.mem_cons.1 hd with rfl | h
    · exact Or.inl hn
    · exact Or.inr (weightsAll_mem h n hn)
theorem row_set {base g n cap : Nat} {e : TypeId} {k : IntKind} {xs : List Nat} {cur : Array Value} {w w' : World} (h : w.ownsRow base e 1 (.slice (some ⟨g, 0, none⟩) n cap) xs.length (ints k xs).toList) (hg : Blk w g e cur) (i y : Nat) (hw : Blk w' g e (cur.setIfInBounds i (.int k (y : Int)))) : Row base e k (xs.set i y) (.slice (some ⟨g, 0, none⟩) n cap) w' := by
  obtain ⟨h1, h2⟩ := h
  rcases h2 with ⟨h3, _⟩ | ⟨g', cap', cur', h3, hb, hg', hc, hm, hs, ht⟩
  · cases h3
  · cases h3
    have : cur' = cur := by
      have hq := hg.symm.trans hg'
      cases hq
      rfl
    subst this
    unfold Row
    refine ⟨by simp [ints], .inr ⟨g, cap, _, by rw [List.length_set], hb, hw, by rw [List.length_set]; exact hc, hm, by rw [Array.size_setIfInBounds]; exact hs, ?_⟩⟩
    rw [List.length_set, Array.toList_setIfInBounds, ← ints_set, Array.toList_setIfInBounds, ← ht, ← List.take_set]
/-- Where an owned slice lies. -/
theorem Row.form {base : Nat} {e : TypeId} {k : IntKind} {l : List Nat} {v : Value} {w : World} (h : Row base e k l v w) (hn : 0 < l.length) : ∃ g cap cur, v = .slice (some ⟨g, 0, none⟩) l.length cap ∧ base ≤ g ∧ Blk w g e cur ∧ l.length ≤ cur.size ∧ ∀ (i x : Nat), l[i]? = some x → cur[i]? = some (.int k (x : Int)) := by
  obtain ⟨h1, h2⟩ := h
  rcases h2 with ⟨_, h0⟩ | ⟨g, cap, cur, rfl, hb, hg, hc, hm, hs, ht⟩
  · omega
  · refine ⟨g, cap, cur, rfl, hb, hg, by omega, fun i x hx => ?_⟩
    have hi : i < l.length := (List.getElem?_eq_some_iff.1 hx).1
    have h3 : (cur.toList.take (l.length * 1))[i]? = (ints k l).toList[i]? := by rw [ht]
    rw [List.getElem?_take_of_lt (by omega), Array.getElem?_toList, Array.getElem?_toList] at h3
    rw [h3]
    exact ints_get hx
theorem run_xor8 {o : Oper} {a : Act} {x : Operand} {m z : Nat} (ho : o.op = .binOp .xor 5 x (.const (.int .u8 255)) 5) (hx : a.eval x = .int .u8 (m : Int)) (hm : m < 256) (hz : z = m ^^^ 255) (w : World) : (execOp a.eval o).run Tryd.prog w = .ok (.value (.int .u8 (z : Int))) w := by
  have h := u8_xor_nat m 255 hm (by decide)
  have e3 : a.eval (.const (.int .u8 255)) = .int .u8 255 := rfl
  unfold execOp
  simp only [ho, hx, e3]
  simp [go_sem, hz]
  exact h
theorem xor8_lt (m : Nat) (h : m < 256) : m ^^^ 255 < 256 := Nat.xor_lt_two_pow (n := 8) h (by decide)
theorem sumL_bytes (bs : List Nat) : Bytes (sumL bs) := fun i x hx => by
  unfold sumL sumD bytesL at hx
  rw [List.getElem?_map] at hx
  obtain ⟨y, _, rfl⟩ := Option.map_eq_some_iff.1 hx
  exact Nat.mod_lt _ (by decide)
/-- A pointer to a block of its own. -/
def PtrAt (t : TypeId) (C : Array Value) : Value → World → Prop := fun v w => ∃ g, v = .pointer (some ⟨g, 0, none⟩) ∧ Blk w g t C
theorem PtrAt.keeps {t : TypeId} {C : Array Value} {v : Value} {w w' : World} {row : Option Nat} (h : PtrAt t C v w) (hg : w.grownBy w' row) (hne : blkOf v = none ∨ blkOf v ≠ row) : PtrAt t C v w' := by
  obtain ⟨g, rfl, h2⟩ := h
  refine ⟨g, rfl, ?_⟩
  rcases hne with hne | hne
  · cases hne
  · exact (hg.block g h2.lt (fun e => hne (by rw [← e]; rfl))).trans h2
theorem RowsAt.trans_under {w1 w w' : World} (h : Below w1.heap.size w1 w) (hb : Below w.heap.size w w') : Below w1.heap.size w1 w' := h.trans (hb.mono h.size)
end Go.Proofs.YthnkipicehppmaaDoor.sh
