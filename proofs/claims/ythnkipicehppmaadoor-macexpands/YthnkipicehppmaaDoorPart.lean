/-
  Numbers that lie side by side in one block: a slice literal of them is made, one of them is read.
-/
import Derived.Test.YthnkipicehppmaaDoorFree
import Derived.Test.YthnkipicehppmaaDoorSetA
import Derived.Test.YthnkipicehppmaaDoorSetA
import Derived.Great.BuildSlice
import Derived.Laws.Rows
import Derived.Deep.LoopGhost
namespace Go.Proofs.YthnkipicehppmaaDoor
open Go Go.RowKit
set_option linter.unusedVariables false
set_option linter.unusedSimpArgs false

section
variable {P : Program}

theorem run_loadVar_at (w : World) (g off : Nat) (t ty : TypeId) (cs es : Array Value) (fr : Nat × Nat) (d : TypeDesc) (hg : w.heap[g]? = some (.cells cs t fr)) (hp : ∀ j v, es[j]? = some v → cs[off + j]? = some v)
    (hu : P.underlying ty = some d) (hd : (match d with | .struct _ | .array _ _ => true | _ => false) = true) (hi : (P.info? ty).map (·.size) = some es.size) :
    (loadVar ty ⟨g, off, none⟩).run P w = .ok (.agg es) w := by
  have hl : (loadCells ⟨g, off, none⟩ es.toList.length).run P w = .ok es.toList.toArray w :=
    run_loadCells_list (P := P) w ⟨g, off, none⟩ es.toList (fun j v hv => by
      have hadd : (⟨g, off, none⟩ : Addr).add j = ⟨g, off + j, none⟩ := by unfold Addr.add; split <;> simp_all
      rw [hadd, cell_of_row w g (off + j) cs t fr hg]
      exact hp j v (by simpa using hv))
  cases hq : P.info? ty with
  | none => simp [hq] at hi
  | some i =>
    have hs : i.size = es.size := by simpa [hq] using hi
    have hagg : (isAgg ty).run P w = .ok true w := by
      unfold isAgg
      rw [Sem.run_bind, run_underlying hu w]
      cases d <;> simp_all
    simp only [Array.length_toList, Array.toArray_toList] at hl
    simp [loadVar, Sem.run_bind, hagg, sizeOf, typeInfo, hq, hs, hl]

theorem wpList_load_at {ops : Array Oper} {rest : List Oper} {o : Oper} {a : Act} {w : World} {Q : Exit → Act → World → Prop} (hgd : o.guard = none) (ty : TypeId) (x : Operand) (ho : o.op = .load ty x)
    (g off : Nat) (hx : a.eval x = .pointer (some ⟨g, off, none⟩)) (t : TypeId) (cs es : Array Value) (fr : Nat × Nat) (d : TypeDesc) (hg : w.heap[g]? = some (.cells cs t fr)) (hp : ∀ j v, es[j]? = some v → cs[off + j]? = some v)
    (hu : P.underlying ty = some d) (hd : (match d with | .struct _ | .array _ _ => true | _ => false) = true) (hi : (P.info? ty).map (·.size) = some es.size)
    (h : wpList P ops Q rest (a.put o.dst (.agg es)) w) : wpList P ops Q (o :: rest) a w :=
  wpList_plain hgd fun _ hK => by
    unfold Oper.wp execOp
    simp only [ho, hx, Instr.loadAt, Instr.sureAddr, Sem.run_bind, Sem.run_pure, Result.andThen_ok, run_loadVar_at w g off t ty cs es fr d hg hp hu hd hi]
    exact hK _ _ h
end

/-- The numbers' bytes, side by side. -/
def rowA (vs : List Nat) : Array Value := ((vs.map fun n => Value.agg (numA n)).flatMap fun v => v.cells.toList).toArray

theorem rowA_at (vs : List Nat) {i n : Nat} (hi : vs[i]? = some n) (j : Nat) (v : Value) (hv : (numA n)[j]? = some v) : (rowA vs)[i * 32 + j]? = some v := by
  have hj : j < 32 := by
    rcases Nat.lt_or_ge j 32 with h | h
    · exact h
    · rw [Array.getElem?_eq_none (by rw [numA_size]; exact h)] at hv; cases hv
  unfold rowA
  rw [List.getElem?_toArray, Great.flat_get (s := 32) (by decide) _ (fun v hv => by obtain ⟨k, _, rfl⟩ := List.mem_map.1 hv; exact numA_size k), show (i * 32 + j) / 32 = i by omega, show (i * 32 + j) % 32 = j by omega, List.getElem?_map, hi]
  exact hv

theorem wpList_buildRow {P : Program} {ops : Array Oper} {rest : List Oper} {o : Oper} {a : Act} {w : World} {Q : Exit → Act → World → Prop} (hg : o.guard = none) (t e : TypeId) (len : Nat) (parts : Array (Nat × Operand)) (ho : o.op = .buildSlice t len parts)
    (vs : List Nat) (hu : P.underlying t = some (.slice e)) (hsz : (P.info? e).map (·.size) = some 32) (hz : ((P.info? e).bind (·.zero)).isSome = true)
    (hlen : len = vs.length) (hpos : 0 < len) (hsmall : len ≤ 2 ^ 18)
    (hparts : (parts.map fun (i, x) => (i, a.eval x)).toList = ((vs.map fun n => Value.agg (numA n)).zipIdx 0).map fun x => (x.2, x.1))
    (h : wpList P ops Q rest (a.put o.dst (.slice (some ⟨w.heap.size, 0, none⟩) len len)) (w.alloc (.cells (rowA vs) e))) : wpList P ops Q (o :: rest) a w := by
  cases hie : P.info? e with
  | none => simp [hie] at hsz
  | some ie =>
    simp only [hie, Option.map_some, Option.some.injEq, Option.bind_some] at hsz hz
    obtain ⟨z, hzz⟩ := Option.isSome_iff_exists.1 hz
    refine wpList_buildSlice hg t e len parts ho _ ie z hu hie hzz (by rw [hsz]; omega) (by rw [hsz]; omega) ?_ h
    rw [hparts, hsz]
    exact Great.fill_whole (by decide) _ _ (fun v hv => by obtain ⟨k, _, rfl⟩ := List.mem_map.1 hv; exact numA_size k) (by simp [hlen])

theorem q_load1 {P : Program} {ops : Array Oper} {C : World → Prop} {Q : Act → Prop} {a : Act} {o : Oper} {rest : List Oper} (hw : Region.wanted o (yielded ops a.tmps) = true) (ty : TypeId) (x : Operand) (g off : Nat) (v : Value) (ho : o.op = .load ty x) (hx : a.eval x = .pointer (some ⟨g, off, none⟩))
    (hC : ∀ w, C w → w.cell? ⟨g, off, none⟩ = some v) (hagg : ∀ w, (isAgg ty).run P w = .ok false w)
    (h : wpQuiet P ops C Q rest (a.put o.dst v)) : wpQuiet P ops C Q (o :: rest) a := by
  refine BigFrame.wpQuiet_want hw fun K hK => ⟨v, fun w hc => ?_, hK _ h⟩
  have hrun : (execOp a.eval o).run P w = .ok (.value v) w := by
    unfold execOp
    simp only [ho, hx, Instr.loadAt, Instr.sureAddr, Sem.run_bind, Sem.run_pure, Result.andThen_ok]
    simp [loadVar, hagg, go_sem, hC w hc]
  unfold Oper.quietAt
  rw [hrun]
  exact ⟨rfl, rfl⟩

theorem cell_numA {w : World} {g n : Nat} {t : TypeId} {fr : Nat × Nat} (hg : w.heap[g]? = some (.cells (numA n) t fr)) (j : Nat) (hj : j < 32) : w.cell? ⟨g, j, none⟩ = some (.int .u8 ((n / 256 ^ j % 256 : Nat) : Int)) := by
  rw [cell_of_row w g j _ t fr hg]
  exact numA_get n j hj

theorem top_small {n : Nat} (h : n < 57896044618658097711785492504343953926634992332820282019728792003956564819949) : n / 256 ^ 31 % 256 ≤ 127 := by
  have : (256 : Nat) ^ 31 = 452312848583266388373324160190187140051835877600158453279131187530910662656 := by decide +kernel
  rw [this]
  omega
end Go.Proofs.YthnkipicehppmaaDoor
