/-
  Whole numbers of 32 bytes that are read from a block and written to one; the world behind goes by a name of its own.
-/
import Derived.Test.YtanfjkmkfcekmaaDoorR6
import Derived.Test.YtanfjkmkfcekmaaDoorW13
namespace Go.Proofs.YtanfjkmkfcekmaaDoor
open Go.RowKit
set_option linter.unusedSimpArgs false
set_option linter.unusedVariables false

/-- Block g holds the number n. -/
def At (w : World) (g n : Nat) : Prop := w.heap[g]? = some (.cells (numA n) 22 (0, 0))
/-- Block g has room for a number. -/
def Room (w : World) (g : Nat) : Prop := ∃ cs : Array Value, cs.size = 32 ∧ w.heap[g]? = some (.cells cs 22 (0, 0))
theorem At.room {w : World} {g n : Nat} (h : At w g n) : Room w g := ⟨_, numA_size n, h⟩
theorem At.lt {w : World} {g n : Nat} (h : At w g n) : g < w.heap.size := (Array.getElem?_eq_some_iff.1 h).1
theorem Room.lt {w : World} {g : Nat} (h : Room w g) : g < w.heap.size := by obtain ⟨_, _, h⟩ := h; exact (Array.getElem?_eq_some_iff.1 h).1
theorem At.below {w w' : World} {g n B : Nat} (h : At w g n) (hb : Below B w w') (hB : g < B) : At w' g n := (hb.block _ hB).trans h
theorem Room.below {w w' : World} {g B : Nat} (h : Room w g) (hb : Below B w w') (hB : g < B) : Room w' g := by obtain ⟨cs, h1, h2⟩ := h; exact ⟨cs, h1, (hb.block _ hB).trans h2⟩
theorem At.under {w w' : World} {g n : Nat} (h : At w g n) (hb : Below w.heap.size w w') : At w' g n := h.below hb h.lt
theorem Room.under {w w' : World} {g : Nat} (h : Room w g) (hb : Below w.heap.size w w') : Room w' g := h.below hb h.lt
theorem room_new (w : World) : Room (w.alloc (.cells #[.int .u8 0, .int .u8 0, .int .u8 0, .int .u8 0, .int .u8 0, .int .u8 0, .int .u8 0, .int .u8 0, .int .u8 0, .int .u8 0, .int .u8 0, .int .u8 0, .int .u8 0, .int .u8 0, .int .u8 0, .int .u8 0, .int .u8 0, .int .u8 0, .int .u8 0, .int .u8 0, .int .u8 0, .int .u8 0, .int .u8 0, .int .u8 0, .int .u8 0, .int .u8 0, .int .u8 0, .int .u8 0, .int .u8 0, .int .u8 0, .int .u8 0, .int .u8 0] 22)) w.heap.size := ⟨_, rfl, heap_new _ _⟩
theorem room_top (w : World) (k : Nat) (h : k = w.heap.size) : Room (w.alloc (.cells #[.int .u8 0, .int .u8 0, .int .u8 0, .int .u8 0, .int .u8 0, .int .u8 0, .int .u8 0, .int .u8 0, .int .u8 0, .int .u8 0, .int .u8 0, .int .u8 0, .int .u8 0, .int .u8 0, .int .u8 0, .int .u8 0, .int .u8 0, .int .u8 0, .int .u8 0, .int .u8 0, .int .u8 0, .int .u8 0, .int .u8 0, .int .u8 0, .int .u8 0, .int .u8 0, .int .u8 0, .int .u8 0, .int .u8 0, .int .u8 0, .int .u8 0, .int .u8 0] 22)) k := by subst h; exact room_new w
theorem At.alloc {w : World} {g n : Nat} (h : At w g n) (o : Obj) : At (w.alloc o) g n := (Below.heap_alloc w o g h.lt).trans h
theorem Room.alloc {w : World} {g : Nat} (h : Room w g) (o : Obj) : Room (w.alloc o) g := by obtain ⟨cs, h1, h2⟩ := h; exact ⟨cs, h1, (Below.heap_alloc w o g (Array.getElem?_eq_some_iff.1 h2).1).trans h2⟩
theorem at_new (w : World) (n : Nat) : At (w.alloc (.cells (numA n) 22)) w.heap.size n := heap_new _ _

/-- The world behind a store to block g alone. -/
structure Put (w w' : World) (g : Nat) : Prop where
  grown : w.grownBy w' (some g)
  size : w'.heap.size = w.heap.size
theorem Put.below {w w' : World} {g B : Nat} (h : Put w w' g) (hB : B ≤ g) : Below B w w' := ⟨h.grown.os, h.grown.tape, h.grown.output, by rw [h.size]; exact Nat.le_refl _, fun k hk => by
  by_cases hk2 : k < w.heap.size
  · exact h.grown.block k hk2 (fun e => by cases e; omega)
  · rw [Array.getElem?_eq_none (by rw [h.size]; omega), Array.getElem?_eq_none (by omega)]⟩
theorem Put.at {w w' : World} {g k n : Nat} (h : Put w w' g) (hk : At w k n) (hne : k ≠ g) : At w' k n := (h.grown.block k hk.lt (fun e => by cases e; exact hne rfl)).trans hk
theorem Put.room {w w' : World} {g k : Nat} (h : Put w w' g) (hk : Room w k) (hne : k ≠ g) : Room w' k := by obtain ⟨cs, h1, h2⟩ := hk; exact ⟨cs, h1, (h.grown.block k (Array.getElem?_eq_some_iff.1 h2).1 (fun e => by cases e; exact hne rfl)).trans h2⟩

theorem wpList_get {ops : Array Oper} {rest : List Oper} {o : Oper} {a : Act} {w : World} {Q : Exit → Act → World → Prop} (hgd : o.guard = none) (x : Operand) (ho : o.op = .load 22 x)
    (g n : Nat) (hx : a.eval x = .pointer (some ⟨g, 0, none⟩)) (hg : At w g n) (h : wpList Tryd.prog ops Q rest (a.put o.dst (.agg (numA n))) w) : wpList Tryd.prog ops Q (o :: rest) a w :=
  wpList_load_row hgd 22 x ho g hx 22 (numA n) (0, 0) _ hg Tryd.underlying22 rfl (by rw [numA_size]; kernel_rfl) h

theorem wpList_put {ops : Array Oper} {rest : List Oper} {o : Oper} {a : Act} {w : World} {Q : Exit → Act → World → Prop} (hgd : o.guard = none) (x y : Operand) (ho : o.op = .store 22 x y)
    (g n : Nat) (hx : a.eval x = .pointer (some ⟨g, 0, none⟩)) (hy : a.eval y = .agg (numA n)) (hg : Room w g)
    (h : ∀ w', At w' g n → Put w w' g → wpList Tryd.prog ops Q rest (a.put o.dst undef) w') : wpList Tryd.prog ops Q (o :: rest) a w := by
  obtain ⟨cs, hs, hc⟩ := hg
  refine wpList_store_row hgd 22 x y ho g (numA n) hx hy 22 cs hc (by rw [numA_size]; kernel_rfl) (by rw [numA_size, hs]) (numA_one n) (h _ (setRow_heap _ _ _ _ _ _ hc) ⟨⟨rfl, rfl, rfl, by simp, fun k _ hk => setRow_other _ _ _ _ (fun e => hk (by rw [e]))⟩, by simp⟩)

/-- A result of 32 bytes that lies in a cell. -/
theorem ret_num {f : Func} {p : Tmp} {Q : Ending → World → Prop} (h : f.results = #[.cell p 22]) (tmps : Array Value) (d : List (Value × Array Value)) (w : World) (g n : Nat) (hp : tmps.getD p undef = .pointer (some ⟨g, 0, none⟩)) (hg : At w g n) : (results f tmps).run Tryd.prog w = .ok (.agg (numA n)) w :=
  results_cell_row h tmps w g 22 (numA n) (0, 0) _ hp hg Tryd.underlying22 rfl (by rw [numA_size]; kernel_rfl)
end Go.Proofs.YtanfjkmkfcekmaaDoor
