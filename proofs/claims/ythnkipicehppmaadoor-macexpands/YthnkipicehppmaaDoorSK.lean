/-
  Slices of constants, marked by the conversion of a constant text; what is appended to them.
-/
import Derived.Test.YthnkipicehppmaaDoorSI
import Derived.ArgAppend
import Derived.Lib.SlBytesConst
namespace Go.Proofs.YthnkipicehppmaaDoor.sh
open Go Go.RowKit
set_option linter.unusedVariables false
set_option linter.unusedSimpArgs false

/-- A slice of ints with no room, in a block of its own, marked or not. -/
def Const (e : TypeId) (k : IntKind) (l : List Nat) : Value → World → Prop := fun v w => ∃ g fr, v = .slice (some ⟨g, 0, none⟩) l.length l.length ∧ w.heap[g]? = some (.cells (ints k l) e fr)
theorem Const.keeps {e : TypeId} {k : IntKind} {l : List Nat} {v : Value} {w w' : World} {row : Option Nat} (h : Const e k l v w) (hg : w.grownBy w' row) (hne : blkOf v = none ∨ blkOf v ≠ row) : Const e k l v w' := by
  obtain ⟨g, fr, rfl, h2⟩ := h
  refine ⟨g, fr, rfl, ?_⟩
  rcases hne with hne | hne
  · cases hne
  · exact (hg.block g (Array.getElem?_eq_some_iff.1 h2).1 (fun e => hne (by rw [← e]; rfl))).trans h2
theorem Const.ints {e : TypeId} {k : IntKind} {l : List Nat} {v : Value} {w : World} (h : Const e k l v w) : IntsV k v w l := by
  obtain ⟨g, fr, rfl, h2⟩ := h
  exact ⟨_, _, rfl, Nat.le_refl _, fun _ => ⟨_, rfl, (Array.getElem?_eq_some_iff.1 h2).1, fun j x hx => by rw [addr_add, Nat.zero_add]; exact cell_row h2 (ints_get hx)⟩⟩
theorem IntsV.keeps {k : IntKind} {l : List Nat} {v : Value} {w w' : World} {row : Option Nat} (h : IntsV k v w l) (hg : w.grownBy w' row) (hne : blkOf v = none ∨ blkOf v ≠ row) : IntsV k v w' l := by
  obtain ⟨p, c, rfl, h2, h3⟩ := h
  refine ⟨p, c, rfl, h2, fun hn => ?_⟩
  obtain ⟨A, rfl, e2, e3⟩ := h3 hn
  refine ⟨A, rfl, Nat.lt_of_lt_of_le e2 hg.size, fun j x hx => ?_⟩
  rcases hne with hne | hne
  · cases hne
  · exact hg.cell (e3 j x hx) (by rw [add_block]; exact hne)

theorem conv_const {t e : TypeId} {l : List Nat} {v : Value} {w : World} (ht : Tryd.prog.underlying t = some (.slice e)) (he : Tryd.prog.underlying e = some (.int .u8)) (h : Const e .u8 l v w) :
    ∃ w', (convert t t v).run Tryd.prog w = .ok v w' ∧ Const e .u8 l v w' ∧ w.grownBy w' (blkOf v) := by
  obtain ⟨g, fr, rfl, h2⟩ := h
  have hsh : w.shape? g = some (e, (ints .u8 l).size) := by unfold World.shape?; rw [h2]
  refine ⟨w.freeze ⟨g, (ints .u8 l).size, none⟩ 1, ?_, ⟨g, (if fr.1 == fr.2 then ((ints .u8 l).size, (ints .u8 l).size + 1) else (min fr.1 (ints .u8 l).size, max fr.2 ((ints .u8 l).size + 1))), rfl, ?_⟩, ?_⟩
  · simp [convert, run_underlying ht, run_underlying he, markStringish, hsh]
  · unfold World.freeze
    rw [if_neg (by decide)]
    simp [Array.getElem?_modify, h2]
  · unfold World.freeze
    rw [if_neg (by decide)]
    refine ⟨rfl, rfl, rfl, by simp, fun k hk hne => ?_⟩
    simp only [Array.getElem?_modify]
    rw [if_neg (fun e => hne (by rw [← e]; rfl))]
theorem run_conv {o : Oper} {a : Act} {x : Operand} {t : TypeId} {v : Value} {w w' : World} (ho : o.op = .convert t t x) (hx : a.eval x = v) (h : (convert t t v).run Tryd.prog w = .ok v w') : (execOp a.eval o).run Tryd.prog w = .ok (.value v) w' := by
  unfold execOp
  simp only [ho, hx]
  simp [h]
theorem grown_weak {w w' : World} {row : Option Nat} (h : w.grownBy w' none) : w.grownBy w' row := ⟨h.os, h.tape, h.output, h.size, fun k hk _ => h.block k hk (by simp)⟩

/-- What is appended to a slice with no room lies in a block of its own. -/
theorem app_const {t ty e : TypeId} {k : IntKind} {bytes : Nat} (ht : Tryd.prog.underlying t = some (.slice e)) (hi : (Tryd.prog.info? e).map (fun i => (i.zero, i.size, i.bytes)) = some (some (.int k 0), 1, bytes)) {l m : List Nat} {v u : Value} {w : World} (hv : Const e k l v w) (hx : IntsV k u w m) (hn : l.length + m.length ≤ 8796093022208) (hby : bytes ≤ 8) :
    ∃ v' w', (Builtin.append_ #[t, t] ty #[v, u]).run Tryd.prog w = .ok v' w' ∧ IntsV k v' w' (l ++ m) ∧ w.grownBy w' none ∧ (blkOf v' = blkOf v ∨ ∃ b, blkOf v' = some b ∧ w.heap.size ≤ b ∧ b < w'.heap.size) := by
  obtain ⟨i0, hi', hz0, hz1, hz2⟩ := info_parts hi
  have hvi := hv.ints
  obtain ⟨g, fr, rfl, h2⟩ := hv
  obtain ⟨p, c, rfl, h3, h4⟩ := hx
  have hgl : g < w.heap.size := (Array.getElem?_eq_some_iff.1 h2).1
  by_cases hm : m = []
  · subst hm
    refine ⟨.slice (some ⟨g, 0, none⟩) l.length l.length, w, ?_, by rw [List.append_nil]; exact hvi, ⟨rfl, rfl, rfl, Nat.le_refl _, fun _ _ _ => rfl⟩, .inl rfl⟩
    cases p with
    | none => simp [Builtin.append_, run_underlying ht, sizeOf, typeInfo, hi', Builtin.lenOf, Builtin.firstCells, storeCells]
    | some A =>
      have hf := run_firstCells_some (P := Tryd.prog) w i0.size 0 A 0 c [] (by simp) (by simp)
      simp [Builtin.append_, run_underlying ht, sizeOf, typeInfo, hi', Builtin.lenOf, hf, storeCells]
  · have hmp : 0 < m.length := List.length_pos_iff.2 hm
    obtain ⟨A, rfl, e2, e3⟩ := h4 hm
    have hmax : l.length + m.length ≤ maxLen := by unfold maxLen; omega
    have hbb : (l.length + m.length) * bytes ≤ 140737488355328 := Nat.le_trans (Nat.mul_le_mul hn hby) (by decide)
    obtain ⟨v', w', h5, h6, h7⟩ := run_append_arg_grows (P := Tryd.prog) w t ty e i0 (.int k 0) 1 bytes ht hi' hz0 hz1 hz2 rfl (by decide) ⟨g, 0, none⟩ l.length l.length (sh.ints k l).toList (by simp [sh.ints]) (by
      intro j y hj
      rw [Array.getElem?_toList] at hj
      rw [addr_add, Nat.zero_add]
      exact cell_row h2 hj) A m.length c (sh.ints k m).toList (by simp [sh.ints]) (by
      intro j y hj
      rw [Array.getElem?_toList] at hj
      have hjl : j < m.length := by have := (Array.getElem?_eq_some_iff.1 hj).1; rwa [ints_size] at this
      rw [e3 j m[j] (List.getElem?_eq_getElem hjl), ← hj, ints_get (List.getElem?_eq_getElem hjl)]) (by omega) hmax hbb
    have hrow : Row w.heap.size e k (l ++ m) v' w' := by
      unfold Row
      rw [List.length_append, show (sh.ints k (l ++ m)).toList = (sh.ints k l).toList ++ (sh.ints k m).toList from by rw [← ints_append]; simp]
      exact h6
    refine ⟨v', w', h5, row_cells hrow, h7, .inr ?_⟩
    obtain ⟨g', cap, rfl, hb, hlt⟩ := World.ownsRow.form hrow (by simp; omega)
    exact ⟨g', rfl, hb, hlt⟩

section
variable {h : List Oper} {A0 A : Act} {W0 : World} {S : Nat → Option (Value → World → Prop)} {sp O : List Nat} {E : List (Nat × Nat)} {B i : Nat} {o : Oper}
/-- A constant's bytes, marked, are taken over. -/
theorem ow_conv (hw : Wants h A0 A S O E W0.heap.size i o) (d s : Nat) (hd : o.dst = some d) (t e : TypeId) (l : List Nat) (ho : o.op = .convert t t (.tmp s)) (ht : Tryd.prog.underlying t = some (.slice e)) (he : Tryd.prog.underlying e = some (.int .u8)) (hp : S d = some (Const e .u8 l)) (hps : S s = some (Const e .u8 l)) (hws : waitsFor h o s = true) (hE : (E.all fun q => q.2 != s || q.1 == i) = true) (hm : (i, s) ∈ E) : OwnOk Tryd.prog h A0 W0 (relR A S) O E i o :=
  ow_run hw d hd fun a w _ hB hgot => by
    obtain ⟨h1, h2, h3⟩ := gotE_spec hgot _ hws hE hps
    obtain ⟨w', h4, h5, h6⟩ := conv_const ht he h1
    exact ⟨_, w', _, run_conv ho rfl h4, rel_spec _ hp h5, h6, fun b hb => ⟨s, hm, by rw [h2]; exact hb⟩, fun _ b hb => .inr ⟨s, hm, by rw [h2]; exact hb⟩⟩
/-- 'append' onto a constant's bytes, which are taken over. -/
theorem ow_appc (hw : Wants h A0 A S O E W0.heap.size i o) (d s : Nat) (hd : o.dst = some d) (x : Operand) (t e : TypeId) (k : IntKind) (bytes : Nat) (ho : o.op = .call { callee := .builtin .append, args := #[.tmp s, x], argTypes := #[t, t] }) (ht : Tryd.prog.underlying t = some (.slice e)) (hi : (Tryd.prog.info? e).map (fun i => (i.zero, i.size, i.bytes)) = some (some (.int k 0), 1, bytes)) (hby : bytes ≤ 8) (l m : List Nat) (hn : l.length + m.length ≤ 8796093022208) (hp : S d = some (fun v w => IntsV k v w (l ++ m))) (hps : S s = some (Const e k l)) (hws : waitsFor h o s = true) (hE : (E.all fun q => q.2 != s || q.1 == i) = true) (hm : (i, s) ∈ E)
    (hx : ∀ (a : Act) (w : World), Fr h A0 a → Below W0.heap.size W0 w → GotE h E (relR A S) O W0.heap.size i a w o → IntsV k (a.eval x) w m) : OwnOk Tryd.prog h A0 W0 (relR A S) O E i o :=
  ow_run hw d hd fun a w hF hB hgot => by
    obtain ⟨h1, h2, h3⟩ := gotE_spec hgot _ hws hE hps
    obtain ⟨v', w', h4, h5, h6, h7⟩ := app_const (ty := o.type) ht hi h1 (hx a w hF hB hgot) hn hby
    refine ⟨v', w', none, ?_, rel_spec _ hp h5, h6, fun b hb => (by cases hb), fun _ b hb => ?_⟩
    · unfold execOp
      simp only [ho, resolve, invoke, builtin, Sem.run_bind, Sem.run_pure, Result.andThen_ok, List.map_toArray, List.map_cons, List.map_nil, h4]
    · rcases h7 with h7 | ⟨b', h7, h8⟩
      · exact .inr ⟨s, hm, by rw [h2, ← hb, h7]; rfl⟩
      · rw [hb] at h7
        cases h7
        exact .inl h8
end
end Go.Proofs.YthnkipicehppmaaDoor.sh
