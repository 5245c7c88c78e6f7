/-
  Names chosen; an append that keeps what was there.
-/
import Derived.Test.YtniogaimhkcedaaDoorLI
namespace Go.Proofs.YtniogaimhkcedaaDoor.sh
open Go Go.RowKit
set_option linter.unusedVariables false
set_option linter.unusedSimpArgs false

/-- Names of terms. -/
def NameT (l : List (List Nat)) : Prop := ∀ s ∈ l, ∃ j, s = termN j
theorem Elder.names {K : Nat} {l : List (List Nat)} (h : Elder K l) : NameT l := fun s hs => by
  obtain ⟨j, _, e⟩ := h s hs
  exact ⟨_, e⟩
theorem NameT.append {l m : List (List Nat)} (h : NameT l) (h2 : NameT m) : NameT (l ++ m) := fun s hs => by
  rcases List.mem_append.1 hs with hs | hs
  · exact h s hs
  · exact h2 s hs
theorem NameT.cons {s : Nat} {l : List (List Nat)} (h : NameT l) : NameT (termN s :: l) := fun x hx => by
  rcases List.mem_cons.1 hx with rfl | hx
  · exact ⟨s, rfl⟩
  · exact h x hx
theorem nameT_nil : NameT [] := fun s hs => by cases hs
theorem NameT.bytes {l : List (List Nat)} (h : NameT l) : ∀ s ∈ l, Bytes s := fun s hs => by
  obtain ⟨j, rfl⟩ := h s hs
  exact termN_bytes j
theorem NameT.small {l : List (List Nat)} (h : NameT l) : ∀ s ∈ l, Bytes s ∧ s.length ≤ 40000 := fun s hs => by
  obtain ⟨j, rfl⟩ := h s hs
  exact ⟨termN_bytes j, by rw [termN_len]; decide⟩
theorem NameT.weight : ∀ {l : List (List Nat)}, NameT l → weight l = 33 * l.length
  | [], _ => rfl
  | s :: l, h => by
    obtain ⟨j, e⟩ := h s List.mem_cons_self
    rw [weight_cons, NameT.weight (fun x hx => h x (List.mem_cons_of_mem _ hx)), List.length_cons, e, termN_len]
    omega
theorem run_neBB {o : Oper} {a : Act} {x y : Operand} {u : TypeId} {b : Bool} (ho : o.op = .binOp .neq 4 x y u) (hx : a.eval x = .bool b) (hy : a.eval y = .bool b) (w : World) : (execOp a.eval o).run Tryd.prog w = .ok (.value (.bool false)) w := by
  unfold execOp
  simp only [ho, hx, hy]
  cases b <;> kernel_rfl
theorem run_eqTT {o : Oper} {a : Act} {x y : Operand} {u : TypeId} {b : Bool} (ho : o.op = .binOp .eql 4 x y u) (hx : a.eval x = .bool b) (hy : a.eval y = .bool b) (w : World) : (execOp a.eval o).run Tryd.prog w = .ok (.value (.bool true)) w := by
  unfold execOp
  simp only [ho, hx, hy]
  cases b <;> kernel_rfl
/-- 'append' of texts: what the elder slice held it holds. -/
theorem appV_keep {ty : TypeId} {base : Nat} {l m : List Value} {v u : Value} {w : World} (hv : VRow base 9 l v w) (hu : ValsV u w m) (h1 : ∀ x ∈ m, x.oneCell' = true) (hm0 : m ≠ []) (hn : l.length + m.length ≤ 1000000) (hbase : base ≤ w.heap.size) :
    ∃ v' w', (Builtin.append_ #[29, 29] ty #[v, u]).run Tryd.prog w = .ok v' w' ∧ VRow base 9 (l ++ m) v' w' ∧ w.grownBy w' (blkOf v) ∧ VRow base 9 l v w' := by
  obtain ⟨v', w', h4, h5, h6, h7⟩ := appV_run (ty := ty) Tryd.underlying29 (z := .string .empty) (bytes := 16) inf_str rfl hv hu h1 (by omega) (by decide) hbase
  refine ⟨v', w', h4, h5, h6, ?_⟩
  cases hq : Tryd.prog.info? 9 with
  | none => have := inf_str; rw [hq] at this; cases this
  | some i0 =>
  have hi := inf_str
  rw [hq] at hi
  simp only [Option.map_some, Option.some.injEq, Prod.mk.injEq] at hi
  obtain ⟨hz0, hz1, hz2⟩ := hi
  have hlen := hv.1
  rcases hv.2 with ⟨rfl, h0⟩ | ⟨g, cap, cur, rfl, hb, hg, hnc, hcm, hs, htk⟩
  · have : l = [] := List.eq_nil_of_length_eq_zero h0
    subst this
    exact vrow_nil _ _ _
  · have hu' := hu
    obtain ⟨p, c, rfl, h2, h3⟩ := hu'
    obtain ⟨A, rfl, _, hA⟩ := h3 hm0
    by_cases hroom : l.length + m.length ≤ cap
    · have hr := run_append_room_cells (P := Tryd.prog) w 29 ty 9 i0 Tryd.underlying29 hq g 0 l.length cap A m.length c m (by rw [hz1]; omega) hA h1 hroom
        (fun j hj => by
          rw [hz1]
          have : j + l.length < cur.size := by omega
          rw [show 0 + l.length * 1 + j = l.length + j by omega]
          simp [World.cell?, hg]
          omega) (fun j hj => by simp [World.frozen?, hg])
      rw [hr] at h4
      have h8 := Result.ok.inj h4
      obtain ⟨e1, _⟩ := h8
      rcases h5.2 with ⟨e2, _⟩ | ⟨g', cap', cur', e2, hb', hg', hn', hcm', hs', ht'⟩
      · rw [e2] at e1; cases e1
      · rw [e2] at e1
        obtain ⟨a1, _, a3⟩ := Value.slice.inj e1
        cases a1
        cases a3
        refine ⟨hlen, .inr ⟨g, cap, cur', rfl, hb, hg', hnc, hcm, hs', ?_⟩⟩
        have h9 := congrArg (List.take (l.length * 1)) ht'
        rw [List.take_take, List.length_append, Nat.min_eq_left (by omega), Nat.mul_one, List.take_left'  rfl] at h9
        rw [Nat.mul_one]
        exact h9
    · obtain ⟨v2, w2, hr, _, hgr⟩ := run_append_arg_grows (P := Tryd.prog) w 29 ty 9 i0 (.string .empty) 1 16 Tryd.underlying29 hq hz0 hz1 hz2 rfl (by decide) ⟨g, 0, none⟩ l.length cap l (by omega)
        (fun j u hj => vals_cell (vrow_vals hv) hj) A m.length c m (by omega) hA (by omega) (by unfold maxLen; omega) (by omega)
      rw [hr] at h4
      obtain ⟨_, e2⟩ := Result.ok.inj h4
      subst e2
      exact hv.keeps hgr (.inr (by simp [blkOf]))
theorem wl_appK {ops : Array Oper} {rest : List Oper} {o : Oper} {a : Act} {w : World} {Q : Exit → Act → World → Prop} (hw : Region.wanted o (yielded ops a.tmps) = true) (s x : Operand) (ho : o.op = .call { callee := .builtin .append, args := #[s, x], argTypes := #[29, 29] }) (base : Nat) (l m : List (List Nat)) (v u : Value) (hs : a.eval s = v) (hx : a.eval x = u) (hv : VRow base 9 (strs l) v w) (hu : ValsV u w (strs m)) (hm0 : m ≠ []) (hn : l.length + m.length ≤ 1000000) (hbase : base ≤ w.heap.size)
    (hk : ∀ v' w', VRow base 9 (strs (l ++ m)) v' w' → w.grownBy w' (blkOf v) → VRow base 9 (strs l) v w' → wpList Tryd.prog ops Q rest (a.put o.dst v') w') : wpList Tryd.prog ops Q (o :: rest) a w :=
  BigFrame.wpList_want hw fun K hK => by
    obtain ⟨v', w', h4, h5, h6, h7⟩ := appV_keep (ty := o.type) hv hu (strs_one m) (by intro e; exact hm0 (by simpa [strs] using e)) (by rw [strs_len, strs_len]; exact hn) hbase
    rw [← strs_append] at h5
    unfold Oper.wp execOp
    simp only [ho, resolve, invoke, builtin, Sem.run_bind, Sem.run_pure, Result.andThen_ok, List.map_toArray, List.map_cons, List.map_nil, hs, hx, h4]
    exact hK _ _ (hk v' w' h5 h6 h7)
end Go.Proofs.YtniogaimhkcedaaDoor.sh
