/-
  An owned slice's element written; a byte turned; pointers to fresh digests.
-/
import Derived.Test.YtghinfdmkiaaiaaDoorSPa
namespace Go.Proofs.YtghinfdmkiaaiaaDoor.sh
open Go Go.RowKit
set_option linter.unusedVariables false
set_option linter.unusedSimpArgs false

theorem row_set {base g n cap : Nat} {e : TypeId} {k : IntKind} {xs : List Nat} {cur : Array Value} {w w' : World} (h : w.ownsRow base e 1 (.slice (some ⟨g, 0, none⟩) n cap) xs.length (ints k xs).toList) (hg : Blk w g e cur) (i y : Nat) (hw : Blk w' g e (cur.setIfInBounds i (.int k (y : Int)))) : Row base e k (xs.set i y) (.slice (some ⟨g, 0, none⟩) n cap) w' := by
  obtain ⟨h1, h2⟩ := h
  rcases h2 with ⟨h3, _⟩ | ⟨g', cap', cur', h3, hb, hg', hc, hm, hs, ht⟩
  · cases h3
  · cases h3
    have : cur' = cur := by
      have hq := hg.symm.trans hg'
      cases hq
      rfl
    subst this
    unfold Row
    refine ⟨by simp [ints], .inr ⟨g, cap, _, by rw [List.length_set], hb, hw, by rw [List.length_set]; exact hc, hm, by rw [Array.size_setIfInBounds]; exact hs, ?_⟩⟩
    rw [List.length_set, Array.toList_setIfInBounds, ← ints_set, Array.toList_setIfInBounds, ← ht, ← List.take_set]
/-- Where an owned slice lies. -/
theorem Row.form {base : Nat} {e : TypeId} {k : IntKind} {l : List Nat} {v : Value} {w : World} (h : Row base e k l v w) (hn : 0 < l.length) : ∃ g cap cur, v = .slice (some ⟨g, 0, none⟩) l.length cap ∧ base ≤ g ∧ Blk w g e cur ∧ l.length ≤ cur.size ∧ ∀ (i x : Nat), l[i]? = some x → cur[i]? = some (.int k (x : Int)) := by
  obtain ⟨h1, h2⟩ := h
  rcases h2 with ⟨_, h0⟩ | ⟨g, cap, cur, rfl, hb, hg, hc, hm, hs, ht⟩
  · omega
  · refine ⟨g, cap, cur, rfl, hb, hg, by omega, fun i x hx => ?_⟩
    have hi : i < l.length := (List.getElem?_eq_some_iff.1 hx).1
    have h3 : (cur.toList.take (l.length * 1))[i]? = (ints k l).toList[i]? := by rw [ht]
    rw [List.getElem?_take_of_lt (by omega), Array.getElem?_toList, Array.getElem?_toList] at h3
    rw [h3]
    exact ints_get hx
theorem run_xor8 {o : Oper} {a : Act} {x : Operand} {m z : Nat} (ho : o.op = .binOp .xor 5 x (.const (.int .u8 255)) 5) (hx : a.eval x = .int .u8 (m : Int)) (hm : m < 256) (hz : z = m ^^^ 255) (w : World) : (execOp a.eval o).run Tryd.prog w = .ok (.value (.int .u8 (z : Int))) w := by
  have h := u8_xor_nat m 255 hm (by decide)
  have e3 : a.eval (.const (.int .u8 255)) = .int .u8 255 := rfl
  unfold execOp
  simp only [ho, hx, e3]
  simp [go_sem, hz]
  exact h
theorem xor8_lt (m : Nat) (h : m < 256) : m ^^^ 255 < 256 := Nat.xor_lt_two_pow (n := 8) h (by decide)
theorem sumL_bytes (bs : List Nat) : Bytes (sumL bs) := fun i x hx => by
  unfold sumL sumD bytesL at hx
  rw [List.getElem?_map] at hx
  obtain ⟨y, _, rfl⟩ := Option.map_eq_some_iff.1 hx
  exact Nat.mod_lt _ (by decide)
/-- A pointer to a block of its own. -/
def PtrAt (t : TypeId) (C : Array Value) : Value → World → Prop := fun v w => ∃ g, v = .pointer (some ⟨g, 0, none⟩) ∧ Blk w g t C
theorem PtrAt.keeps {t : TypeId} {C : Array Value} {v : Value} {w w' : World} {row : Option Nat} (h : PtrAt t C v w) (hg : w.grownBy w' row) (hne : blkOf v = none ∨ blkOf v ≠ row) : PtrAt t C v w' := by
  obtain ⟨g, rfl, h2⟩ := h
  refine ⟨g, rfl, ?_⟩
  rcases hne with hne | hne
  · cases hne
  · exact (hg.block g h2.lt (fun e => hne (by rw [← e]; rfl))).trans h2
theorem alloc_dig {o : Oper} {a : Act} {w : World} (ho : o.op = .alloc 32) : (execOp a.eval o).run Tryd.prog w = .ok (.value (.pointer (some ⟨w.heap.size, 0, none⟩))) (w.alloc (.cells (dgs []) 32)) := by
  have h1 : ∀ w, (Instr.alloc 32 true (.tuple #[])).run Tryd.prog w = .ok (.pointer (some ⟨w.heap.size, 0, none⟩)) (w.alloc (.cells (dgs []) 32)) := fun w => by
    rw [show dgs [] = digOf initD from rfl, ← init_val]
    kernel_rfl
  unfold execOp
  simp only [ho]
  simp [h1]
theorem RowsAt.trans_under {w1 w w' : World} (h : Below w1.heap.size w1 w) (hb : Below w.heap.size w w') : Below w1.heap.size w1 w' := h.trans (hb.mono h.size)
end Go.Proofs.YtghinfdmkiaaiaaDoor.sh
