/-
  Four numbers side by side in a block: a struct of the ladder, and the reference's.
-/
import Derived.Test.YtanfjkmkfcekmaaDoorAny2
namespace Go.Proofs.YtanfjkmkfcekmaaDoor
open Go Go.RowKit
set_option linter.unusedVariables false
set_option linter.unusedSimpArgs false

/-- Block g holds a row of numbers as a value of type t. -/
def AtQ (t : TypeId) (w : World) (g : Nat) (l : List Nat) : Prop := w.heap[g]? = some (.cells (rowA l) t (0, 0))
def RoomQ (t : TypeId) (w : World) (g : Nat) : Prop := ∃ cs : Array Value, cs.size = 128 ∧ w.heap[g]? = some (.cells cs t (0, 0))
theorem AtQ.lt {t : TypeId} {w : World} {g : Nat} {l : List Nat} (h : AtQ t w g l) : g < w.heap.size := (Array.getElem?_eq_some_iff.1 h).1
theorem AtQ.under {t : TypeId} {w w' : World} {g : Nat} {l : List Nat} (h : AtQ t w g l) (hb : Below w.heap.size w w') : AtQ t w' g l := (hb.block _ h.lt).trans h
theorem AtQ.alloc {t : TypeId} {w : World} {g : Nat} {l : List Nat} (h : AtQ t w g l) (o : Obj) : AtQ t (w.alloc o) g l := (Below.heap_alloc w o g h.lt).trans h
theorem RoomQ.lt {t : TypeId} {w : World} {g : Nat} (h : RoomQ t w g) : g < w.heap.size := by obtain ⟨_, _, h⟩ := h; exact (Array.getElem?_eq_some_iff.1 h).1
theorem RoomQ.under {t : TypeId} {w w' : World} {g : Nat} (h : RoomQ t w g) (hb : Below w.heap.size w w') : RoomQ t w' g := by
  have hl := h.lt
  obtain ⟨cs, h1, h2⟩ := h
  exact ⟨cs, h1, (hb.block _ hl).trans h2⟩
theorem RoomQ.alloc {t : TypeId} {w : World} {g : Nat} (h : RoomQ t w g) (o : Obj) : RoomQ t (w.alloc o) g := by
  have hl := h.lt
  obtain ⟨cs, h1, h2⟩ := h
  exact ⟨cs, h1, (Below.heap_alloc w o g hl).trans h2⟩
theorem rowA_size (a b c d : Nat) : (rowA [a, b, c, d]).size = 128 := by
  simp [rowA, Value.cells, numA_size]
theorem rowA_one (a b c d : Nat) : (rowA [a, b, c, d]).all (·.oneCell') = true := by
  rw [Array.all_eq_true_iff_forall_mem]
  intro v hv
  simp only [rowA, List.mem_toArray, List.mem_flatMap, List.mem_map] at hv
  obtain ⟨u, ⟨n, _, rfl⟩, hu⟩ := hv
  exact (Array.all_eq_true_iff_forall_mem.1 (numA_one n)) v (by simpa [Value.cells] using hu)
theorem AtQ.room {t : TypeId} {w : World} {g a b c d : Nat} (h : AtQ t w g [a, b, c, d]) : RoomQ t w g := ⟨_, rowA_size a b c d, h⟩
theorem Put.atQ {t : TypeId} {w w' : World} {g k : Nat} {l : List Nat} (h : Put w w' g) (hk : AtQ t w k l) (hne : k ≠ g) : AtQ t w' k l := (h.grown.block k hk.lt (fun e => by cases e; exact hne rfl)).trans hk
theorem Put.roomQ {t : TypeId} {w w' : World} {g k : Nat} (h : Put w w' g) (hk : RoomQ t w k) (hne : k ≠ g) : RoomQ t w' k := by
  have hl := hk.lt
  obtain ⟨cs, h1, h2⟩ := hk
  exact ⟨cs, h1, (h.grown.block k hl (fun e => by cases e; exact hne rfl)).trans h2⟩
theorem atQ_new (t : TypeId) (w : World) (l : List Nat) : AtQ t (w.alloc (.cells (rowA l) t)) w.heap.size l := heap_new _ _
theorem rowA_part (l : List Nat) {i n : Nat} (hi : l[i]? = some n) : ∀ j v, (numA n)[j]? = some v → (rowA l)[i * 32 + j]? = some v := fun j v hv => rowA_at l hi j v hv

theorem wpList_qget {ops : Array Oper} {rest : List Oper} {o : Oper} {a : Act} {w : World} {Q : Exit → Act → World → Prop} (hgd : o.guard = none) (x : Operand) (ho : o.op = .load 22 x)
    (t : TypeId) (g i : Nat) (l : List Nat) (n : Nat) (hn : l[i]? = some n) (hx : a.eval x = .pointer (some ⟨g, i * 32, none⟩)) (hg : AtQ t w g l) (h : wpList Tryd.prog ops Q rest (a.put o.dst (.agg (numA n))) w) : wpList Tryd.prog ops Q (o :: rest) a w :=
  wpList_load_at hgd 22 x ho g (i * 32) hx t (rowA l) (numA n) (0, 0) _ hg (rowA_part l hn) Tryd.underlying22 rfl (by rw [numA_size]; kernel_rfl) h

theorem wpList_qall {t : TypeId} {fs : Array Field} (hu : Tryd.prog.underlying t = some (.struct fs)) (hi : (Tryd.prog.info? t).map (·.size) = some 128) {ops : Array Oper} {rest : List Oper} {o : Oper} {a : Act} {w : World} {Q : Exit → Act → World → Prop} (hgd : o.guard = none) (x : Operand) (ho : o.op = .load t x)
    (g n0 n1 n2 n3 : Nat) (hx : a.eval x = .pointer (some ⟨g, 0, none⟩)) (hg : AtQ t w g [n0, n1, n2, n3]) (h : wpList Tryd.prog ops Q rest (a.put o.dst (.agg (rowA [n0, n1, n2, n3]))) w) : wpList Tryd.prog ops Q (o :: rest) a w :=
  wpList_load_row hgd t x ho g hx t (rowA [n0, n1, n2, n3]) (0, 0) _ hg hu rfl (by rw [rowA_size]; exact hi) h

theorem wpList_qput {t : TypeId} (hi : (Tryd.prog.info? t).map (·.size) = some 128) {ops : Array Oper} {rest : List Oper} {o : Oper} {a : Act} {w : World} {Q : Exit → Act → World → Prop} (hgd : o.guard = none) (x y : Operand) (ho : o.op = .store t x y)
    (g n0 n1 n2 n3 : Nat) (hx : a.eval x = .pointer (some ⟨g, 0, none⟩)) (hy : a.eval y = .agg (rowA [n0, n1, n2, n3])) (hg : RoomQ t w g)
    (h : ∀ w', AtQ t w' g [n0, n1, n2, n3] → Put w w' g → wpList Tryd.prog ops Q rest (a.put o.dst undef) w') : wpList Tryd.prog ops Q (o :: rest) a w := by
  obtain ⟨cs, hs, hc⟩ := hg
  exact wpList_store_row hgd t x y ho g (rowA [n0, n1, n2, n3]) hx hy t cs hc (by rw [rowA_size]; exact hi) (by rw [rowA_size, hs]) (rowA_one _ _ _ _) (h _ (setRow_heap _ _ _ _ _ _ hc) ⟨⟨rfl, rfl, rfl, by simp, fun k _ hk => setRow_other _ _ _ _ (fun e => hk (by rw [e]))⟩, by simp⟩)

theorem ret_quad {t : TypeId} {fs : Array Field} (hu : Tryd.prog.underlying t = some (.struct fs)) (hi : (Tryd.prog.info? t).map (·.size) = some 128) {f : Func} {p : Tmp} (h : f.results = #[.cell p t]) (tmps : Array Value) (w : World) (g n0 n1 n2 n3 : Nat) (hp : tmps.getD p undef = .pointer (some ⟨g, 0, none⟩)) (hg : AtQ t w g [n0, n1, n2, n3]) : (results f tmps).run Tryd.prog w = .ok (.agg (rowA [n0, n1, n2, n3])) w :=
  results_cell_row h tmps w g t (rowA [n0, n1, n2, n3]) (0, 0) _ hp hg hu rfl (by rw [rowA_size]; exact hi)
theorem iQ1 : (Tryd.prog.info? 55).map (·.size) = some 128 := by kernel_rfl
theorem iQ2 : (Tryd.prog.info? 50).map (·.size) = some 128 := by kernel_rfl
theorem buildQ1 (n0 n1 n2 n3 : Nat) (w : World) : (Instr.build 55 #[(0, .agg (numA n0)), (1, .agg (numA n1)), (2, .agg (numA n2)), (3, .agg (numA n3))]).run Tryd.prog w = .ok (.agg (rowA [n0, n1, n2, n3])) w := by kernel_rfl
theorem buildQ2 (n0 n1 n2 n3 : Nat) (w : World) : (Instr.build 50 #[(0, .agg (numA n0)), (1, .agg (numA n1)), (2, .agg (numA n2)), (3, .agg (numA n3))]).run Tryd.prog w = .ok (.agg (rowA [n0, n1, n2, n3])) w := by kernel_rfl
end Go.Proofs.YtanfjkmkfcekmaaDoor
