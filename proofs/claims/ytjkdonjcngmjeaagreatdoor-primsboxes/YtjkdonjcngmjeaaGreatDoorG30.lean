/-
  General pieces, joined: MB.
-/
import Derived.Test.YtjkdonjcngmjeaaGreatDoorG29
/-
  .. where the object is a table of terms.
-/
namespace Go.Proofs.YtjkdonjcngmjeaaGreatDoor.sh
open Go Go.RowKit
set_option linter.unusedVariables false
set_option linter.unusedSimpArgs false

/-- The table ts at tb, its blocks M; what was there in W, but for M0's blocks, is as it was. -/
def CT (tb B : Nat) (ts : List TermL) (M0 : Nat → Prop) (W : World) : (Nat → Prop) → World → Prop := fun M w => Tab tb B ts M w ∧ Turn M0 W M w
theorem CT.under {tb B : Nat} {ts : List TermL} {W : World} {M0 M : Nat → Prop} {w w' : World} (h : CT tb B ts M0 W M w) (hb : Below w.heap.size w w') : CT tb B ts M0 W M w' := ⟨h.1.under hb, h.2.trans (Turn.of_below hb)⟩
theorem CT.puts {tb B : Nat} {ts us : List TermL} {W : World} {M0 M : Nat → Prop} {w w' : World} (h : CT tb B ts M0 W M w) (hp : Puts tb B ts M w us w') : ∃ M', CT tb B us M0 W M' w' ∧ Turn M w M' w' := by
  obtain ⟨M', h1, h2⟩ := hp
  exact ⟨M', ⟨h1, h.2.trans h2⟩, h2⟩
theorem Turn.cell {M M' : Nat → Prop} {w w' : World} (h : Turn M w M' w') {p : Addr} {v : Value} (hc : w.cell? p = some v) (hl : p.block < w.heap.size) (hM : ¬ M p.block) : w'.cell? p = some v := (World.cell?_of_block (h.1.block _ hl hM)).trans hc
theorem CT.cell {tb B : Nat} {ts : List TermL} {W : World} {M0 M : Nat → Prop} {w w1 : World} (h : CT tb B ts M0 W M w) (hb : Below w.heap.size w w1) {p : Addr} {v : Value} (hc : W.cell? p = some v) (hl : p.block < W.heap.size) (hM : ¬ M0 p.block) : w1.cell? p = some v := (h.2.trans (Turn.of_below (M := M) hb)).cell hc hl hM
/-- A slice of texts that is not the table's. -/
def NewS (ll : List (List Nat)) : (Nat → Prop) → Value → World → Prop := fun M V w => ValsV V w (strs ll) ∧ ∀ b, blkOf V = some b → ¬ M b ∧ b < w.heap.size
theorem NewS.under {ll : List (List Nat)} {M : Nat → Prop} {V : Value} {w w' : World} (h : NewS ll M V w) (hb : Below w.heap.size w w') : NewS ll M V w' := ⟨h.1.under hb, fun b e => ⟨(h.2 b e).1, Nat.lt_of_lt_of_le (h.2 b e).2 hb.size⟩⟩
theorem NewS.turn {ll : List (List Nat)} {M M' : Nat → Prop} {V : Value} {w w' : World} (h : NewS ll M V w) (ht : Turn M w M' w') : NewS ll M' V w' :=
  ⟨ht.vals h.1 fun b e => (h.2 b e).1, fun b e => ⟨ht.not (h.2 b e).1 (h.2 b e).2, Nat.lt_of_lt_of_le (h.2 b e).2 ht.size⟩⟩

/-- Slots that hold such slices. -/
def LN (l : List (Nat × List (List Nat))) : List (Nat × ((Nat → Prop) → Value → World → Prop)) := l.map fun p => (p.1, NewS p.2)
theorem LN_under {l : List (Nat × List (List Nat))} : ∀ q ∈ LN l, ∀ (g : Nat → Prop) (v : Value) (w w' : World), q.2 g v w → Below w.heap.size w w' → q.2 g v w' := fun q hq g v w w' h hb => by
  obtain ⟨p, _, rfl⟩ := List.mem_map.1 hq
  exact NewS.under h hb
theorem LN_turn {l : List (Nat × List (List Nat))} : ∀ q ∈ LN l, ∀ (M M' : Nat → Prop) (w w' : World) (u : Value), Turn M w M' w' → q.2 M u w → q.2 M' u w' := fun q hq M M' w w' u ht h => by
  obtain ⟨p, _, rfl⟩ := List.mem_map.1 hq
  exact NewS.turn h ht

section
variable {h : List Oper} {A0 A : Act} {L : List (Nat × ((Nat → Prop) → Value → World → Prop))} {i : Nat} {o : Oper} {tb B : Nat} {ts us : List TermL} {W : World} {M0 : Nat → Prop}
theorem specOf_atG (M : Nat → Prop) (d : Nat) : ∀ L : List (Nat × ((Nat → Prop) → Value → World → Prop)), specOf (atG L M) d = (L.lookup d).map fun p => p M
  | [] => rfl
  | q :: r => by
    have := specOf_atG M d r
    unfold specOf atG at *
    rw [List.map_cons, List.lookup_cons, List.lookup_cons]
    cases d == q.1 with
    | true => rfl
    | false => exact this
theorem lookup_mem : ∀ (L : List (Nat × ((Nat → Prop) → Value → World → Prop))) (d : Nat) (p : (Nat → Prop) → Value → World → Prop), L.lookup d = some p → ∃ q ∈ L, q.2 = p
  | [], d, p, h => by cases h
  | q :: r, d, p, h => by
    rw [List.lookup_cons] at h
    split at h
    · cases h; exact ⟨q, List.mem_cons_self, rfl⟩
    · obtain ⟨q', h1, h2⟩ := lookup_mem r d p h
      exact ⟨q', List.mem_cons_of_mem _ h1, h2⟩
theorem ph_run {P : Program} {C C2 : (Nat → Prop) → World → Prop} (hA : ∀ M, Full h A0 A (specOf (atG L M)) (L.map (·.1))) (hw : ∀ M, Wants h A0 A (specOf (atG L M)) [] [] 0 i o) (d : Nat) (v : Value) (hd : o.dst = some d) (hds : (L.map (·.1)).contains d = false) (hv : A.tmps[d]? = some v)
    (hL : ∀ q ∈ L, ∀ (M M' : Nat → Prop) (w w' : World) (u : Value), Turn M w M' w' → q.2 M u w → q.2 M' u w')
    (hrun : ∀ (M : Nat → Prop) (a : Act) (w : World), Fr h A0 a → C M w → GotE h [] (relR A (specOf (atG L M))) [] 0 i a w o → ∃ f args, (execOp a.eval o).run P w = .ok (.enter f args) w ∧ Calls P f args w fun e w' => e = .returned v ∧ ∃ M', C2 M' w' ∧ Turn M w M' w') : PhaseOk P h A0 (fun M => relR A (specOf (atG L M))) C C2 i o := by
  refine ⟨d, hd, fun M a w hF hC hgot => ⟨hw M a w hF hgot, ?_⟩⟩
  obtain ⟨f, args, h1, h2⟩ := hrun M a w hF hC hgot
  unfold Oper.wp
  rw [h1]
  simp only [Oper.upon]
  refine h2.mono fun e w' hh => ?_
  obtain ⟨rfl, M', hC2, ht⟩ := hh
  rw [hd]
  refine ⟨v, M', rfl, ?_, hC2, fun d' v' _ hR => ?_⟩
  · unfold relR
    rw [(hA M').spec d (not_mem_of hds)]
    exact hv
  · unfold relR at *
    rw [specOf_atG] at *
    cases hs : L.lookup d' with
    | none => rw [hs] at hR; exact hR
    | some p =>
      rw [hs] at hR
      obtain ⟨q, hq, rfl⟩ := lookup_mem L d' p hs
      exact hL q hq M M' w w' v' ht hR
theorem run_callF {P : Program} {a : Act} (f : Nat) (fn : Func) (c : Code) (xs : List Operand) (tys : Array TypeId) (ho : o.op = .call { callee := .value (.func f), args := xs.toArray, argTypes := tys }) (hf : P.funcs[f]? = some fn) (hname : (fn.name == "runtime.NumGoroutine") = false) (hb : fn.body = some c) (w : World) : (execOp a.eval o).run P w = .ok (.enter f (xs.map a.eval).toArray) w := by
  have h1 : fn.name ≠ "runtime.NumGoroutine" := by simpa using hname
  unfold execOp
  simp only [ho, resolve, List.map_toArray, Act.eval]
  simp [Deferred.ofValue, invoke, callFunc, hf, h1, hb]
/-- A changing call of a function, whose arguments are known. -/
theorem ph_call {P : Program} {C C2 : (Nat → Prop) → World → Prop} (hA : ∀ M, Full h A0 A (specOf (atG L M)) (L.map (·.1))) (hw : ∀ M, Wants h A0 A (specOf (atG L M)) [] [] 0 i o) (d : Nat) (v : Value) (hd : o.dst = some d) (hds : (L.map (·.1)).contains d = false) (hv : A.tmps[d]? = some v)
    (hL : ∀ q ∈ L, ∀ (M M' : Nat → Prop) (w w' : World) (u : Value), Turn M w M' w' → q.2 M u w → q.2 M' u w') (hdet : detE h (L.map (·.1)) [] i o = true)
    (f : Nat) (fn : Func) (c : Code) (xs : List Operand) (tys : Array TypeId) (vs : List Value) (ho : o.op = .call { callee := .value (.func f), args := xs.toArray, argTypes := tys }) (hargs : xs.map A.eval = vs) (hf : P.funcs[f]? = some fn) (hname : (fn.name == "runtime.NumGoroutine") = false) (hb : fn.body = some c)
    (hc : ∀ (M : Nat → Prop) (w : World), C M w → Calls P f vs.toArray w fun e w' => e = .returned v ∧ ∃ M', C2 M' w' ∧ Turn M w M' w') : PhaseOk P h A0 (fun M => relR A (specOf (atG L M))) C C2 i o :=
  ph_run hA hw d v hd hds hv hL fun M a w hF hC hgot => by
    have hev := detE_eval (hA M) hdet hF hgot
    refine ⟨f, vs.toArray, ?_, hc M w hC⟩
    have e1 : xs.map a.eval = vs := by
      rw [← hargs]
      refine List.map_congr_left fun y hy => hev y ?_
      rw [ho]
      simp [Op.operands, Call.operands, hy]
    rw [← e1]
    exact run_callF f fn c xs tys ho hf hname hb w
/-- .. of a method, through an interface. -/
theorem ph_invoke {P : Program} {C C2 : (Nat → Prop) → World → Prop} (hA : ∀ M, Full h A0 A (specOf (atG L M)) (L.map (·.1))) (hw : ∀ M, Wants h A0 A (specOf (atG L M)) [] [] 0 i o) (d : Nat) (v : Value) (hd : o.dst = some d) (hds : (L.map (·.1)).contains d = false) (hv : A.tmps[d]? = some v)
    (hL : ∀ q ∈ L, ∀ (M M' : Nat → Prop) (w w' : World) (u : Value), Turn M w M' w' → q.2 M u w → q.2 M' u w') (hdet : detE h (L.map (·.1)) [] i o = true)
    (recv : Operand) (name : String) (xs : List Operand) (tys : Array TypeId) (t : TypeId) (x : Value) (f : Nat) (rv : Value) (fn : Func) (c : Code) (vs : List Value) (ho : o.op = .call { callee := .invoke recv name, args := xs.toArray, argTypes := tys }) (hr : A.eval recv = .iface t x) (hargs : xs.map A.eval = vs)
    (hmet : ∀ w, (method (P.types.size + Made.depth) t x name).run P w = .ok (f, rv) w) (hf : P.funcs[f]? = some fn) (hname : (fn.name == "runtime.NumGoroutine") = false) (hb : fn.body = some c)
    (hc : ∀ (M : Nat → Prop) (w : World), C M w → Calls P f (rv :: vs).toArray w fun e w' => e = .returned v ∧ ∃ M', C2 M' w' ∧ Turn M w M' w') : PhaseOk P h A0 (fun M => relR A (specOf (atG L M))) C C2 i o :=
  ph_run hA hw d v hd hds hv hL fun M a w hF hC hgot => by
    have hev := detE_eval (hA M) hdet hF hgot
    refine ⟨f, (rv :: vs).toArray, ?_, hc M w hC⟩
    have e1 : xs.map a.eval = vs := by
      rw [← hargs]
      refine List.map_congr_left fun y hy => hev y ?_
      rw [ho]
      simp [Op.operands, Call.operands, hy]
    rw [← e1]
    exact run_invoke recv name xs tys t x f rv fn c ho ((hev recv (by rw [ho]; simp [Op.operands, Call.operands])).trans hr) hmet hf hname hb w
/-- .. Hash, of a slice that the region has built. -/
theorem ph_hash (hA : ∀ M, Full h A0 A (specOf (atG L M)) (L.map (·.1))) (hw : ∀ M, Wants h A0 A (specOf (atG L M)) [] [] 0 i o) (d : Nat) (N : List Nat) (hd : o.dst = some d) (hds : (L.map (·.1)).contains d = false) (hv : A.tmps[d]? = some (.string (strOf N)))
    (hL : ∀ q ∈ L, ∀ (M M' : Nat → Prop) (w w' : World) (u : Value), Turn M w M' w' → q.2 M u w → q.2 M' u w')
    (x s : Nat) (tys : Array TypeId) (c : Code) (hb : Tryz.f22.body = some c) (ho : o.op = .call { callee := .value (.func 22), args := [.tmp x, .tmp s].toArray, argTypes := tys }) (hwx : waitsFor h o x = true) (hsx : (L.map (·.1)).contains x = false) (hx : A.tmps[x]? = some (.pointer (some ⟨tb, 0, none⟩))) (hws : waitsFor h o s = true) (ll : List (List Nat)) (hs : L.lookup s = some (NewS ll))
    (hy : ∀ l ∈ ll, Bytes l) (hl : ∀ l ∈ ll, l.length ≤ maxLen) (hn : ts.length < 1000000) (hp : putL ts (4, ll) = (us, N)) : PhaseOk Tryz.prog h A0 (fun M => relR A (specOf (atG L M))) (CT tb B ts M0 W) (CT tb B us M0 W) i o :=
  ph_run hA hw d _ hd hds hv hL fun M a w hF hC hgot => by
    have e1 := gotE_det (hA M) hgot hwx hsx (by simp) hx
    obtain ⟨hV, _⟩ := gotE_spec hgot (d := s) (NewS ll M) hws (by simp) (by rw [specOf_atG, hs]; rfl)
    refine ⟨22, #[.pointer (some ⟨tb, 0, none⟩), a.eval (.tmp s)], ?_, ?_⟩
    · have := run_callF (P := Tryz.prog) (a := a) _ _ c [.tmp x, .tmp s] tys ho Tryz.func22 (by kernel_rfl) hb w
      rw [List.map_cons, List.map_cons, List.map_nil, e1] at this
      exact this
    · refine (HashE hC.1 hy hV.1 hl hn hp).mono fun e w' hh => ?_
      exact ⟨hh.1, hC.puts hh.2⟩
/-- Three texts, four texts in a slice of their own. -/
theorem ow_new3 {W0 : World} {M : Nat → Prop} (hA : Full h A0 A (specOf (atG L M)) (L.map (·.1))) (hw : Wants h A0 A (specOf (atG L M)) [] [] W0.heap.size i o) (hC : CT tb B ts M0 W M W0) (d : Nat) (x0 x1 x2 : Operand) (s0 s1 s2 : List Nat) (hd : o.dst = some d) (hdet : detE h (L.map (·.1)) [] i o = true) (ho : o.op = .buildSlice 43 3 #[(0, x0), (1, x1), (2, x2)])
    (h0 : A.eval x0 = .string (strOf s0)) (h1 : A.eval x1 = .string (strOf s1)) (h2 : A.eval x2 = .string (strOf s2)) (hp : L.lookup d = some (NewS [s0, s1, s2])) : OwnOk Tryz.prog h A0 W0 (relR A (specOf (atG L M))) [] [] i o :=
  ow_run hw d hd fun a w hF hB hgot => by
    have hev := detE_eval hA hdet hF hgot
    have e0 := (hev x0 (by rw [ho]; simp [Op.operands])).trans h0
    have e1 := (hev x1 (by rw [ho]; simp [Op.operands])).trans h1
    have e2 := (hev x2 (by rw [ho]; simp [Op.operands])).trans h2
    refine ⟨_, _, none, ?_, rel_spec _ (show specOf (atG L M) d = some (NewS [s0, s1, s2] M) from by rw [specOf_atG, hp]; rfl) ⟨new3 s0 s1 s2 w, fun b hb => ?_⟩, grown_none ((Below.refl _ _).alloc (Nat.le_refl _) _), fun b hb => (by cases hb), fun h3 => by cases h3⟩
    · unfold execOp
      simp only [ho]
      simp [e0, e1, e2, run_bs3]
    · cases hb
      exact ⟨fun hM => by have := (hC.1.range hM).2; have := hB.size; simp only at *; omega, by simp⟩
theorem ow_new4 {W0 : World} {M : Nat → Prop} (hA : Full h A0 A (specOf (atG L M)) (L.map (·.1))) (hw : Wants h A0 A (specOf (atG L M)) [] [] W0.heap.size i o) (hC : CT tb B ts M0 W M W0) (d : Nat) (x0 x1 x2 x3 : Operand) (s0 s1 s2 s3 : List Nat) (hd : o.dst = some d) (hdet : detE h (L.map (·.1)) [] i o = true) (ho : o.op = .buildSlice 43 4 #[(0, x0), (1, x1), (2, x2), (3, x3)])
    (h0 : A.eval x0 = .string (strOf s0)) (h1 : A.eval x1 = .string (strOf s1)) (h2 : A.eval x2 = .string (strOf s2)) (h3 : A.eval x3 = .string (strOf s3)) (hp : L.lookup d = some (NewS [s0, s1, s2, s3])) : OwnOk Tryz.prog h A0 W0 (relR A (specOf (atG L M))) [] [] i o :=
  ow_run hw d hd fun a w hF hB hgot => by
    have hev := detE_eval hA hdet hF hgot
    have e0 := (hev x0 (by rw [ho]; simp [Op.operands])).trans h0
    have e1 := (hev x1 (by rw [ho]; simp [Op.operands])).trans h1
    have e2 := (hev x2 (by rw [ho]; simp [Op.operands])).trans h2
    have e3 := (hev x3 (by rw [ho]; simp [Op.operands])).trans h3
    refine ⟨_, _, none, ?_, rel_spec _ (show specOf (atG L M) d = some (NewS [s0, s1, s2, s3] M) from by rw [specOf_atG, hp]; rfl) ⟨new4 s0 s1 s2 s3 w, fun b hb => ?_⟩, grown_none ((Below.refl _ _).alloc (Nat.le_refl _) _), fun b hb => (by cases hb), fun h3 => by cases h3⟩
    · unfold execOp
      simp only [ho]
      simp [e0, e1, e2, e3, run_bs4]
    · cases hb
      exact ⟨fun hM => by have := (hC.1.range hM).2; have := hB.size; simp only at *; omega, by simp⟩
end
end Go.Proofs.YtjkdonjcngmjeaaGreatDoor.sh
