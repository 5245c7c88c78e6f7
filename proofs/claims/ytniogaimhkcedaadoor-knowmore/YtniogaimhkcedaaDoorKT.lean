/-
  Sets of package know: New, made, Has, Terms.
-/
import Derived.Test.YtniogaimhkcedaaDoorKS
namespace Go.Proofs.YtniogaimhkcedaaDoor.sh
open Go Go.RowKit Go.Maps
set_option linter.unusedVariables false
set_option linter.unusedSimpArgs false

theorem BuiltB.learn {N k : Nat} {R : RL} {s : RS} {l : List Nat} (h : BuiltB N k R s) (hl : ∀ x ∈ l, x < N) : BuiltB N k R (learnR s l) ∧ ∀ H, Sat (learnR s l) R H ↔ Sat s R H ∧ ∀ y ∈ l, H y :=
  ⟨⟨(h.built.learn hl).1, h.rl, by rw [(learnR_same s l).2.2.1]; exact h.wl, h.len⟩, (h.built.learn hl).2⟩
theorem learnB {rb B N k : Nat} {Φ : (Nat → Prop) → Prop} {M : Nat → Prop} {V : Value} {l : List Nat} {w : World} (hR : RuB rb B N k Φ M w) (hV : GivV M w V l) (hN : N ≤ 1000000) (hl : ∀ x ∈ l, x < N) (hll : l.length ≤ 1000000) :
    Calls Tryd.prog 30 #[.pointer (some ⟨rb, 0, none⟩), V] w fun e w2 => e = .returned (.tuple #[]) ∧ ∃ M', RuB rb B N k (fun H => Φ H ∧ ∀ y ∈ l, H y) M' w2 ∧ Turn M w M' w2 := by
  obtain ⟨s, R, r1, r2, r3⟩ := hR
  have hkn := r2.built.rel.kn
  have hfr : s.fr.length ≤ 1000000 := by
    have := nodup_len N s.fr (by have := r2.built.had.nod; simpa using this) r2.built.rel.fr
    omega
  obtain ⟨b1, b2⟩ := r2.learn hl
  refine (learnD r1 hV (by rw [hkn]; exact hl) (by omega) hfr hll).mono ?_
  rintro e w2 ⟨rfl, M', h3, h4⟩
  exact ⟨rfl, M', ⟨_, R, h3, b1, fun H => by rw [b2 H, r3 H]⟩, h4⟩
/-- Behind follow: what is known is the least that Φ asks. -/
theorem followB {rb B N k : Nat} {Φ : (Nat → Prop) → Prop} {M : Nat → Prop} {w : World} (hR : RuB rb B N k Φ M w) (hN : N ≤ 1000000) :
    Calls Tryd.prog 32 #[.pointer (some ⟨rb, 0, none⟩)] w fun e w2 => e = .returned (.tuple #[]) ∧ ∃ s' M', RuV rb B s' M' w2 ∧ Turn M w M' w2 ∧ (∀ y, hadP s'.kn y ↔ ∀ H, Φ H → H y) ∧ s'.kn.length = N := by
  obtain ⟨s, R, r1, r2, r3⟩ := hR
  refine (followD r1 r2.built hN r2.len).mono ?_
  rintro e w2 ⟨rfl, s', M', h1, h2, h3, h4⟩
  refine ⟨rfl, s', M', h1, h2, fun y => ?_, h4⟩
  rw [h3 y]
  exact ⟨fun h H hH => h H ((r3 H).2 hH), fun h H hH => h H ((r3 H).1 hH)⟩
/-- A set: names, their places, what is known. -/
def SetK (sb N : Nat) (b : List Bool) (w : World) : Prop := ∃ vn pb vk, Blk w sb 72 #[vn, .map (some pb), vk] ∧ ValsV vn w (strs (namesL N)) ∧ MapI (plcR N) pb N w ∧ ValsV vk w (b.map Value.bool) ∧ b.length = N
theorem SetK.under {sb N : Nat} {b : List Bool} {w w' : World} (h : SetK sb N b w) (hb : Below w.heap.size w w') : SetK sb N b w' := by
  obtain ⟨vn, pb, vk, h1, h2, h3, h4, h5⟩ := h
  exact ⟨vn, pb, vk, h1.under hb, h2.under hb, h3.under hb, h4.under hb, h5⟩
/-- A set all of whose blocks were made at a time, and later. -/
def SetA (B sb N : Nat) (b : List Bool) (w : World) : Prop := ∃ vn pb vk, Blk w sb 72 #[vn, .map (some pb), vk] ∧ ValsV vn w (strs (namesL N)) ∧ MapI (plcR N) pb N w ∧ ValsV vk w (b.map Value.bool) ∧ b.length = N ∧ B ≤ sb ∧ B ≤ pb ∧ (∀ k, blkOf vn = some k → B ≤ k) ∧ ∀ k, blkOf vk = some k → B ≤ k
theorem SetA.set {B sb N : Nat} {b : List Bool} {w : World} (h : SetA B sb N b w) : SetK sb N b w := by
  obtain ⟨vn, pb, vk, h1, h2, h3, h4, h5, _⟩ := h
  exact ⟨vn, pb, vk, h1, h2, h3, h4, h5⟩
theorem ValsV.grown {v : Value} {w w' : World} {vs : List Value} {row : Option Nat} (h : ValsV v w vs) (hg : w.grownBy w' row) (hne : ∀ b, blkOf v = some b → row ≠ some b) : ValsV v w' vs := by
  obtain ⟨p, c, rfl, hlc, hp⟩ := h
  refine ⟨p, c, rfl, hlc, fun hne2 => ?_⟩
  obtain ⟨A, rfl, hA, hc⟩ := hp hne2
  exact ⟨A, rfl, Nat.lt_of_lt_of_le hA hg.size, fun j x hx => (World.cell?_of_block (by rw [add_block]; exact hg.block _ hA (Ne.symm (hne _ rfl)))).trans (hc j x hx)⟩
theorem SetA.grown {B sb N : Nat} {b : List Bool} {w w' : World} {row : Option Nat} (h : SetA B sb N b w) (hg : w.grownBy w' row) (hr : ∀ k, row = some k → k < B) : SetA B sb N b w' := by
  obtain ⟨vn, pb, vk, h1, h2, h3, h4, h5, h6, h7, h8, h9⟩ := h
  have ne : ∀ k, B ≤ k → row ≠ some k := fun k hk e => by have := hr k e; omega
  exact ⟨vn, pb, vk, (hg.block sb h1.lt (Ne.symm (ne _ h6))).trans h1, h2.grown hg (fun k hk => ne k (h8 k hk)), World.ownsMap.kept h3 hg (Ne.symm (ne _ h7)), h4.grown hg (fun k hk => ne k (h9 k hk)), h5, h6, h7, h8, h9⟩
theorem SetA.under {B sb N : Nat} {b : List Bool} {w w' : World} (h : SetA B sb N b w) (hb : Below w.heap.size w w') : SetA B sb N b w' := h.grown (grown_none hb) (fun k e => by cases e)
theorem run_buildS {o : Oper} {a : Act} {x y z : Operand} {p q : Option Addr} {n c m d : Nat} {pb : Option Nat} (ho : o.op = .build 72 #[(0, x), (1, y), (2, z)]) (hx : a.eval x = .slice p n c) (hy : a.eval y = .map pb) (hz : a.eval z = .slice q m d) (w : World) : (execOp a.eval o).run Tryd.prog w = .ok (.value (.agg #[.slice p n c, .map pb, .slice q m d])) w := by
  have hb : (Instr.build 72 #[(0, .slice p n c), (1, .map pb), (2, .slice q m d)]).run Tryd.prog w = .ok (.agg #[.slice p n c, .map pb, .slice q m d]) w := by kernel_rfl
  unfold execOp
  simp only [ho]
  simp [hx, hy, hz, hb]
theorem closedK_at {ts : List TermL} {H : Nat → Prop} (h : ClosedK ts H) (i : Nat) : ClosedAt ts H i := ⟨fun t ht hm => h.made i t ht hm, fun k n a x ht hi hk j hj => h.told i k n a x ht hi hk j hj⟩
/-- The least of what is asked is what is known. -/
theorem kn_of {ts : List TermL} {told : List (List Nat)} {ns : List Nat} (h : ∀ n, n ∈ ns ↔ TodoL ts told n) (y : Nat) : (∀ H : Nat → Prop, ((∀ j, j < ts.length → ClosedAt ts H j) ∧ ∀ y ∈ ns, H y) → H y) ↔ KN ts told y :=
  ⟨fun h1 P h2 h3 => h1 P ⟨fun j _ => closedK_at h3 j, fun y hy => by
      obtain ⟨s, hs, hl⟩ := (h y).1 hy
      exact h2 s hs y hl⟩, fun h1 H h2 => h1 H (fun s hs j hj => h2.2 j ((h j).2 ⟨s, hs, hj⟩)) (closed_all h2.1)⟩
set_option maxRecDepth 100000 in
set_option maxHeartbeats 8000000 in
theorem NewA {tb Bt : Nat} {ts : List TermL} {Mt : Nat → Prop} {V : Value} {told : List (List Nat)} {b : List Bool} {w : World} (hT : Tab tb Bt ts Mt w) (hK : TermsB ts) (hN : ts.length ≤ 200000) (hV : ValsV V w (strs told)) (hy : ∀ l ∈ told, Bytes l) (hw : weight told ≤ 1000000) (hb : IsK ts told b) :
    Calls Tryd.prog 12 #[.pointer (some ⟨tb, 0, none⟩), V] w fun e w' => (∃ sb, e = .returned (.pointer (some ⟨sb, 0, none⟩)) ∧ SetA w.heap.size sb ts.length b w') ∧ Below w.heap.size w w' := by
  have hts : ts.length < 1000000 := by omega
  obtain ⟨N, hNn⟩ : ∃ N, N = ts.length := ⟨_, rfl⟩
  obtain ⟨nt, hnt⟩ : ∃ n, n = told.length := ⟨_, rfl⟩
  obtain ⟨p0, c0, rfl, _⟩ := vals_form hV (show (strs told).length = nt by rw [strs_len, hnt])
  have KAl : Kept _ := ⟨AllD hT hts⟩
  have KT : Kept _ := ⟨hT⟩
  have KK : Kept _ := ⟨hK⟩
  have KN : Kept _ := ⟨hN⟩
  have KV : Kept _ := ⟨hV⟩
  have Ky : Kept (∀ l ∈ told, Bytes l) := ⟨hy⟩
  have Kw : Kept _ := ⟨hw⟩
  have Kb : Kept _ := ⟨hb⟩
  have Kts : Kept _ := ⟨hts⟩
  have KNn : Kept _ := ⟨hNn⟩
  clear hT hK hN hV hy hw hb hts hNn hnt
  go_enter Tryd.func12, Tryd.ntmps12
  go_wp2_with fail
  refine KAl.out.mono ?_
  rintro e w1 ⟨⟨V1, rfl, hV1⟩, q1⟩
  obtain ⟨p1, c1, rfl, _⟩ := vals_form (vrow_vals hV1) (show (strs (namesL ts.length)).length = N by rw [strs_len, namesL_len, KNn.out])
  have KV1 : Kept _ := ⟨vrow_vals hV1⟩
  have K1r : Kept (∀ k, blkOf (Value.slice p1 N c1) = some k → w.heap.size ≤ k) := ⟨fun k hk => (hV1.range k hk).1⟩
  have KPl : Kept _ := ⟨placesOfD KV1.out Kts.out⟩
  have Kq1 : Kept _ := ⟨q1⟩
  clear hV1 q1 KAl
  go_wp2_with fail
  refine KPl.out.mono ?_
  rintro e w2 ⟨⟨mb, rfl, hmb, hM⟩, q2⟩
  have KV2 : Kept _ := ⟨KV1.out.under q2⟩
  have Kq2 : Kept _ := ⟨Kq1.out.trans (q2.mono Kq1.out.size)⟩
  have KM2 : Kept _ := ⟨hM⟩
  have Kmb : Kept (w.heap.size ≤ mb) := ⟨Nat.le_trans Kq1.out.size hmb⟩
  have KRu : Kept _ := ⟨rulesOfD (KT.out.under Kq2.out) KV2.out hM KK.out KN.out⟩
  clear hmb hM q2 KPl
  go_wp2_with fail
  refine KRu.out.mono ?_
  rintro e w3 ⟨⟨rb, M3, rfl, hR3⟩, q3⟩
  have Kq3 : Kept _ := ⟨Kq2.out.trans (q3.mono Kq2.out.size)⟩
  have KW : Kept _ := ⟨withinD Kts.out Kw.out Ky.out (KV.out.under Kq3.out) (KM2.out.under q3)⟩
  have KR3 : Kept _ := ⟨hR3⟩
  have Kb3 : Kept _ := ⟨q3⟩
  clear hR3 q3 KRu
  go_wp2_with fail
  refine KW.out.mono ?_
  rintro e w4 ⟨⟨V4, ns, rfl, hr, hm, hl⟩, q4⟩
  obtain ⟨m4, hm4⟩ : ∃ m, m = ns.length := ⟨_, rfl⟩
  obtain ⟨p4, c4, rfl, _⟩ := ints_form (row_cells hr) hm4.symm
  have KL : Kept _ := ⟨learnB (KR3.out.under q4) (KR3.out.giv (row_cells hr) (fun b hb => hr.range b hb)) (by have := KN.out; omega) (todo_lt hm) (Nat.le_trans hl Kw.out)⟩
  have Kmm : Kept _ := ⟨hm⟩
  have Kb4 : Kept _ := ⟨Kb3.out.trans (q4.mono Kb3.out.size)⟩
  have K3r : Kept (∀ b, M3 b → w2.heap.size ≤ b) := ⟨fun b hb => (KR3.out.range hb).1⟩
  clear hr hm hl hm4 q4 KW
  go_wp2_with fail
  refine KL.out.mono ?_
  rintro e w5 ⟨rfl, M5, hR5, ht5⟩
  have KFo : Kept _ := ⟨followB hR5 (by have := KN.out; omega)⟩
  have Kt5 : Kept _ := ⟨ht5⟩
  clear hR5 ht5 KL
  go_wp2_with fail
  refine KFo.out.mono ?_
  rintro e w6 ⟨rfl, s', M6, hR6, ht6, hk6, hl6⟩
  have hb6 := Kb4.out.trans ((Kt5.out.trans ht6).below K3r.out Kb4.out.size)
  have hbb : s'.kn = b := IsK.one (ts := ts) (told := told) ⟨hl6, fun y => by rw [hk6 y]; exact kn_of Kmm.out y⟩ Kb.out
  obtain ⟨va, vw, vk, vf, gvs, wvs, hO, _⟩ := hR6
  have hvk := vrow_vals hO.known
  rw [hbb] at hvk
  obtain ⟨pk, ck, rfl, _⟩ := vals_form hvk (show (b.map Value.bool).length = N by rw [List.length_map, KNn.out]; exact Kb.out.1)
  have c2 : Kept (w6.cell? ⟨rb, 2, none⟩ = some (.slice pk N ck)) := ⟨hO.obj.cell rfl⟩
  have Kvk : Kept _ := ⟨hvk⟩
  have Kvr : Kept (∀ k, blkOf (Value.slice pk N ck) = some k → w.heap.size ≤ k) := ⟨fun k hk => Nat.le_trans Kq2.out.size (hO.known.range k hk).1⟩
  have KV6 : Kept _ := ⟨KV2.out.under hb6⟩
  have KM6 : Kept _ := ⟨KM2.out.under hb6⟩
  have Kq6 : Kept _ := ⟨Kq2.out.trans (hb6.mono Kq2.out.size)⟩
  have fin : ∀ w7, w7 = w6.alloc (.cells #[.slice p1 N c1, .map (some mb), .slice pk N ck] 72) → SetA w.heap.size w6.heap.size ts.length b w7 ∧ Below w.heap.size w w7 := fun w7 h => by
    subst h
    have b7 := (Below.refl w6.heap.size w6).alloc (Nat.le_refl _) (.cells #[.slice p1 N c1, .map (some mb), .slice pk N ck] 72)
    exact ⟨⟨_, mb, _, blk_new _ _ _, KV6.out.under b7, KM6.out.under b7, Kvk.out.under b7, Kb.out.1, Kq6.out.size, Kmb.out, K1r.out, Kvr.out⟩, Kq6.out.trans (b7.mono Kq6.out.size)⟩
  have KF : Kept _ := ⟨fin⟩
  clear hO hvk hbb hb6 hk6 hl6 ht6 fin KFo
  go_wp2_with (first | ((with_reducible refine wv_elem (d := 30) ?hd ?hw 33 Tryd.isAgg33 (.tmp 29) ?ho (⟨rb, 2, none⟩) ?hx (.slice pk N ck) ?hc ?_); (case hd => rfl); (case hw => kernel_rfl); (case ho => rfl); (case hx => kernel_rfl); (case hc => exact c2.out); simp only [Act.put, List.setIfInBounds_toArray, List.set_cons_succ, List.set_cons_zero]) | ((with_reducible refine wv_val (d := 31) ?hd ?hw (.agg #[.slice p1 N c1, .map (some mb), .slice pk N ck]) ?hr ?_); (case hd => rfl); (case hw => kernel_rfl); (case hr => intro w; exact run_buildS rfl (by kernel_rfl) (by kernel_rfl) (by kernel_rfl) w); simp only [Act.put, List.setIfInBounds_toArray, List.set_cons_succ, List.set_cons_zero]))
  go_ret
  obtain ⟨h1, h2⟩ := KF.out _ rfl
  exact ⟨⟨_, rfl, h1⟩, h2⟩
theorem NewK {tb Bt : Nat} {ts : List TermL} {Mt : Nat → Prop} {V : Value} {told : List (List Nat)} {b : List Bool} {w : World} (hT : Tab tb Bt ts Mt w) (hK : TermsB ts) (hN : ts.length ≤ 200000) (hV : ValsV V w (strs told)) (hy : ∀ l ∈ told, Bytes l) (hw : weight told ≤ 1000000) (hb : IsK ts told b) :
    Calls Tryd.prog 12 #[.pointer (some ⟨tb, 0, none⟩), V] w fun e w' => (∃ sb, e = .returned (.pointer (some ⟨sb, 0, none⟩)) ∧ SetK sb ts.length b w') ∧ Below w.heap.size w w' :=
  (NewA hT hK hN hV hy hw hb).mono fun e w' h => by
    obtain ⟨⟨sb, h1, h2⟩, h3⟩ := h
    exact ⟨⟨sb, h1, h2.set⟩, h3⟩
theorem run_mneqP {o : Oper} {a : Act} {x : Operand} {u : TypeId} {p : Option Nat} {b : Bool} (ho : o.op = .binOp .neq 60 x (.const (.map none)) u) (hx : a.eval x = .map p) (hb : b = p.isSome) (w : World) : (execOp a.eval o).run Tryd.prog w = .ok (.value (.bool b)) w := by
  have e3 : a.eval (.const (.map none)) = .map none := rfl
  unfold execOp
  simp only [ho, hx, e3]
  rw [hb]
  have h := run_neq_map_nil w 60 _ _ p Tryd.underlying60
  simp [go_sem, h]
  try (cases p <;> rfl)
set_option maxRecDepth 100000 in
set_option maxHeartbeats 1000000 in
theorem madeSetD {sb N : Nat} {b : List Bool} {w : World} (h : SetK sb N b w) :
    Calls Tryd.prog 38 #[.pointer (some ⟨sb, 0, none⟩)] w fun e w' => e = .returned (.bool true) ∧ w' = w := by
  obtain ⟨vn, pb, vk, h1, _⟩ := h
  have c1 : Kept (w.cell? ⟨sb, 1, none⟩ = some (.map (some pb))) := ⟨h1.cell rfl⟩
  clear h1
  go_enter Tryd.func38, Tryd.ntmps38
  go_wp2_with (first | ((with_reducible refine wv_elem (d := 9) ?hd ?hw 60 Tryd.isAgg60 (.tmp 8) ?ho (⟨sb, 1, none⟩) ?hx (.map (some pb)) ?hc ?_); (case hd => rfl); (case hw => kernel_rfl); (case ho => rfl); (case hx => kernel_rfl); (case hc => exact c1.out); simp only [Act.put, List.setIfInBounds_toArray, List.set_cons_succ, List.set_cons_zero]) | ((with_reducible refine wv_val (d := 10) ?hd ?hw (.bool true) ?hr ?_); (case hd => rfl); (case hw => kernel_rfl); (case hr => intro w; exact run_mneqP (p := some pb) rfl (by kernel_rfl) rfl w); simp only [Act.put, List.setIfInBounds_toArray, List.set_cons_succ, List.set_cons_zero]))
  go_ret
  exact ⟨rfl, rfl⟩
set_option maxRecDepth 100000 in
set_option maxHeartbeats 4000000 in
theorem HasD {sb : Nat} {ts : List TermL} {b : List Bool} {s : List Nat} {f : Bool} {w : World} (hS : SetK sb ts.length b w) (hts : ts.length < 1000000) (hs : Bytes s) (hl : s.length ≤ 40000) (hf : f = true ↔ KnownS ts (hadP b) s) :
    Calls Tryd.prog 15 #[.pointer (some ⟨sb, 0, none⟩), .string (strOf s)] w fun e w' => e = .returned (.bool f) ∧ Below w.heap.size w w' := by
  have CM := madeSetD hS
  obtain ⟨vn, pb, vk, h1, h2, h3, h4, h5⟩ := hS
  obtain ⟨N, hN⟩ : ∃ N, N = ts.length := ⟨_, rfl⟩
  obtain ⟨pk, ck, rfl, _⟩ := vals_form h4 (show (b.map Value.bool).length = N by rw [List.length_map, h5, hN])
  have c1 : Kept (w.cell? ⟨sb, 1, none⟩ = some (.map (some pb))) := ⟨h1.cell rfl⟩
  have c2 : Kept (w.cell? ⟨sb, 2, none⟩ = some (.slice pk N ck)) := ⟨h1.cell rfl⟩
  have Kc2 : Kept (∀ w', Below w.heap.size w w' → w'.cell? ⟨sb, 2, none⟩ = some (.slice pk N ck)) := ⟨fun w' hb => (h1.under hb).cell rfl⟩
  have b1 := (Below.refl w.heap.size w).alloc (Nat.le_refl _) (.cells #[.string (strOf s)] 9)
  have KW : Kept _ := ⟨withinD hts (ll := [s]) (weight_one hl) (fun l hl => by rw [List.mem_singleton] at hl; subst hl; exact hs) (new1 s w) (h3.under b1)⟩
  have KM : Kept _ := ⟨CM⟩
  have Kb1 : Kept _ := ⟨b1⟩
  have Kv : Kept _ := ⟨h4⟩
  have Kf : Kept (f = true ↔ KnownS ts (hadP b) s) := ⟨hf⟩
  have KbN : Kept (b.length = N) := ⟨by rw [h5, hN]⟩
  have KN : Kept _ := ⟨hN⟩
  have Kl : Kept _ := ⟨hl⟩
  clear CM h1 h2 h3 h4 h5 hf hs hl hts hN b1
  go_enter Tryd.func15, Tryd.ntmps15
  go_wp2_with fail
  refine KM.out.mono ?_
  rintro e w1 ⟨rfl, hw⟩
  obtain rfl := hw.symm
  go_wp2_with (first | ((with_reducible refine wv_elem (d := 13) ?hd ?hw 60 Tryd.isAgg60 (.tmp 12) ?ho (⟨sb, 1, none⟩) ?hx (.map (some pb)) ?hc ?_); (case hd => rfl); (case hw => kernel_rfl); (case ho => rfl); (case hx => kernel_rfl); (case hc => exact c1.out); simp only [Act.put, List.setIfInBounds_toArray, List.set_cons_succ, List.set_cons_zero]) | (refine wl_bs1 (by kernel_rfl) (.tmp 14) rfl (s) (by kernel_rfl) ?_; simp only [Act.put, List.setIfInBounds_toArray, List.set_cons_succ, List.set_cons_zero]))
  refine KW.out.mono ?_
  rintro e w2 ⟨⟨V2, ns, rfl, hr, hm, hl⟩, q2⟩
  obtain ⟨n, hn⟩ : ∃ n, n = ns.length := ⟨_, rfl⟩
  obtain ⟨p2, c2', rfl, _⟩ := ints_form (row_cells hr) hn.symm
  have hn6 : n ≤ 1000000 := by have := Kl.out; rw [weight_cons, weight_nil] at hl; omega
  have Kr : Kept _ := ⟨row_cells hr⟩
  have Kmm : Kept _ := ⟨hm⟩
  have Kn : Kept _ := ⟨hn⟩
  have Kq2 : Kept _ := ⟨Kb1.out.trans (q2.mono Kb1.out.size)⟩
  have Kff : Kept (f = true ↔ ∀ x ∈ ns, hadP b x) := ⟨by rw [Kf.out, with_known hm]; simp⟩
  clear hr hm hl hn q2 KW KM
  go_wp2_with fail
  go_loopg [18] n (fun g s18 wr => ∃ i : Nat, i + g = n ∧ s18 = .int .i64 (i : Int) ∧ Below w2.heap.size w2 wr ∧ Kept (∀ (j x : Nat), j < i → ns[j]? = some x → hadP b x))
  case atStart => exact ⟨0, by omega, rfl, Below.refl _ _, ⟨fun j x h => by omega⟩⟩
  case round =>
    rename World => wz
    obtain ⟨i, hik, rfl, hb, KJ⟩ := hrel
    by_cases hk0 : gk = 0
    · obtain rfl : n = i := by omega
      have KE : Kept (f = true) := ⟨Kff.out.2 fun x hx => by
        obtain ⟨j, hj⟩ := List.mem_iff_getElem?.1 hx
        exact KJ.out j x (by rw [Kn.out]; exact (List.getElem?_eq_some_iff.1 hj).1) hj⟩
      go_wp2_with fail
      go_ret
      exact ⟨by rw [KE.out]; rfl, Kq2.out.trans (hb.mono Kq2.out.size)⟩
    · have hin : i < n := by omega
      have hin' : (i : Int) < (n : Int) := by omega
      have hi1 : (i : Int) + 1 ≤ 9223372036854775807 := by omega
      obtain ⟨x, hx⟩ : ∃ x, ns[i]? = some x := ⟨_, List.getElem?_eq_getElem (by rw [← Kn.out]; exact hin)⟩
      obtain ⟨A, rfl, hA, hcell⟩ := ints_at (Kr.out.under hb) hx
      have hxN : x < N := by rw [KN.out]; exact todo_lt Kmm.out x (List.mem_of_getElem? hx)
      obtain ⟨bx, hbx⟩ : ∃ bx, b[x]? = some bx := ⟨_, List.getElem?_eq_getElem (by rw [KbN.out]; exact hxN)⟩
      have hqw := Kq2.out.trans (hb.mono Kq2.out.size)
      obtain ⟨A2, rfl, hA2, hc2⟩ := vals_at (Kv.out.under hqw) (show (b.map Value.bool)[x]? = some (.bool bx) by rw [List.getElem?_map, hbx]; rfl)
      have KC : Kept _ := ⟨hcell⟩
      have KC2 : Kept _ := ⟨hc2⟩
      have c2z : Kept _ := ⟨Kc2.out wz hqw⟩
      have Kx : Kept _ := ⟨hx⟩
      have Kbx : Kept _ := ⟨hbx⟩
      have Kqw : Kept _ := ⟨hqw⟩
      clear hx hcell hc2 hbx hqw
      cases bx with
      | true =>
        go_wp2_with (first | ((with_reducible refine wv_val (d := 20) ?hd ?hw (.pointer (some (A.add i))) ?hr ?_); (case hd => rfl); (case hw => kernel_rfl); (case hr => intro w; exact run_idxS (c := c2') rfl (by kernel_rfl) (by kernel_rfl) Tryd.underlying65 hin Tryd.sizeOf3 w); simp only [Act.put, List.setIfInBounds_toArray, List.set_cons_succ, List.set_cons_zero]) | ((with_reducible refine wv_elem (d := 21) ?hd ?hw 3 ag_int (.tmp 20) ?ho (A.add i) ?hx (.int .i64 (x : Int)) ?hc ?_); (case hd => rfl); (case hw => kernel_rfl); (case ho => rfl); (case hx => kernel_rfl); (case hc => exact KC.out); simp only [Act.put, List.setIfInBounds_toArray, List.set_cons_succ, List.set_cons_zero]) | ((with_reducible refine wv_elem (d := 25) ?hd ?hw 33 Tryd.isAgg33 (.tmp 24) ?ho (⟨sb, 2, none⟩) ?hx (.slice (some A2) N ck) ?hc ?_); (case hd => rfl); (case hw => kernel_rfl); (case ho => rfl); (case hx => kernel_rfl); (case hc => exact c2z.out); simp only [Act.put, List.setIfInBounds_toArray, List.set_cons_succ, List.set_cons_zero]) | ((with_reducible refine wv_val (d := 27) ?hd ?hw (.pointer (some (A2.add x))) ?hr ?_); (case hd => rfl); (case hw => kernel_rfl); (case hr => intro w; exact run_idxS (c := ck) rfl (by kernel_rfl) (by kernel_rfl) Tryd.underlying33 hxN Tryd.sizeOf4 w); simp only [Act.put, List.setIfInBounds_toArray, List.set_cons_succ, List.set_cons_zero]) | ((with_reducible refine wv_elem (d := 28) ?hd ?hw 4 Tryd.isAgg4 (.tmp 27) ?ho (A2.add x) ?hx (.bool true) ?hc ?_); (case hd => rfl); (case hw => kernel_rfl); (case ho => rfl); (case hx => kernel_rfl); (case hc => exact KC2.out); simp only [Act.put, List.setIfInBounds_toArray, List.set_cons_succ, List.set_cons_zero]))
        go_roundg (gk - 1)
        case measure => omega
        case rel =>
          refine ⟨i + 1, by omega, by simp, hb, ⟨fun j y h hj => ?_⟩⟩
          by_cases e : j = i
          · subst e
            rw [Kx.out] at hj
            cases hj
            exact Kbx.out
          · exact KJ.out j y (by omega) hj
      | false =>
        have KE : Kept (f = false) := ⟨by
          cases hff : f with
          | false => rfl
          | true =>
            have h1 := Kff.out.1 hff x (List.mem_of_getElem? Kx.out)
            unfold hadP at h1
            rw [Kbx.out] at h1
            cases h1⟩
        go_wp2_with (first | ((with_reducible refine wv_val (d := 20) ?hd ?hw (.pointer (some (A.add i))) ?hr ?_); (case hd => rfl); (case hw => kernel_rfl); (case hr => intro w; exact run_idxS (c := c2') rfl (by kernel_rfl) (by kernel_rfl) Tryd.underlying65 hin Tryd.sizeOf3 w); simp only [Act.put, List.setIfInBounds_toArray, List.set_cons_succ, List.set_cons_zero]) | ((with_reducible refine wv_elem (d := 21) ?hd ?hw 3 ag_int (.tmp 20) ?ho (A.add i) ?hx (.int .i64 (x : Int)) ?hc ?_); (case hd => rfl); (case hw => kernel_rfl); (case ho => rfl); (case hx => kernel_rfl); (case hc => exact KC.out); simp only [Act.put, List.setIfInBounds_toArray, List.set_cons_succ, List.set_cons_zero]) | ((with_reducible refine wv_elem (d := 25) ?hd ?hw 33 Tryd.isAgg33 (.tmp 24) ?ho (⟨sb, 2, none⟩) ?hx (.slice (some A2) N ck) ?hc ?_); (case hd => rfl); (case hw => kernel_rfl); (case ho => rfl); (case hx => kernel_rfl); (case hc => exact c2z.out); simp only [Act.put, List.setIfInBounds_toArray, List.set_cons_succ, List.set_cons_zero]) | ((with_reducible refine wv_val (d := 27) ?hd ?hw (.pointer (some (A2.add x))) ?hr ?_); (case hd => rfl); (case hw => kernel_rfl); (case hr => intro w; exact run_idxS (c := ck) rfl (by kernel_rfl) (by kernel_rfl) Tryd.underlying33 hxN Tryd.sizeOf4 w); simp only [Act.put, List.setIfInBounds_toArray, List.set_cons_succ, List.set_cons_zero]) | ((with_reducible refine wv_elem (d := 28) ?hd ?hw 4 Tryd.isAgg4 (.tmp 27) ?ho (A2.add x) ?hx (.bool false) ?hc ?_); (case hd => rfl); (case hw => kernel_rfl); (case ho => rfl); (case hx => kernel_rfl); (case hc => exact KC2.out); simp only [Act.put, List.setIfInBounds_toArray, List.set_cons_succ, List.set_cons_zero]))
        go_ret
        exact ⟨by rw [KE.out]; rfl, Kqw.out⟩
theorem names_take {b : List Bool} {i : Nat} {x : Bool} (h : b[i]? = some x) : namesB (b.take (i + 1)) = namesB (b.take i) ++ (if x = true then [termN (i + 1)] else []) := by
  have hi := (List.getElem?_eq_some_iff.1 h).1
  rw [List.take_add_one, h, Option.toList_some, names_snoc, List.length_take, Nat.min_eq_left (by omega)]
theorem names_le (b : List Bool) : (namesB b).length ≤ b.length := by rw [names_len]; exact cnt_le b
set_option maxRecDepth 100000 in
set_option maxHeartbeats 4000000 in
theorem TermsD {sb N : Nat} {b : List Bool} {w : World} (hS : SetK sb N b w) (hN : N < 1000000) :
    Calls Tryd.prog 16 #[.pointer (some ⟨sb, 0, none⟩)] w fun e w' => (∃ V, e = .returned V ∧ VRow w.heap.size 9 (strs (namesB b)) V w') ∧ Below w.heap.size w w' := by
  have CM := madeSetD hS
  obtain ⟨vn, pb, vk, h1, h2, h3, h4, h5⟩ := hS
  obtain ⟨pn, cn, rfl, _⟩ := vals_form h2 (show (strs (namesL N)).length = N by rw [strs_len, namesL_len])
  obtain ⟨pk, ck, rfl, _⟩ := vals_form h4 (show (b.map Value.bool).length = N by rw [List.length_map, h5])
  have c0 : Kept (w.cell? ⟨sb, 0, none⟩ = some (.slice pn N cn)) := ⟨h1.cell rfl⟩
  have Kc2 : Kept (∀ w', Below w.heap.size w w' → w'.cell? ⟨sb, 2, none⟩ = some (.slice pk N ck)) := ⟨fun w' hb => (h1.under hb).cell rfl⟩
  have KM : Kept _ := ⟨CM⟩
  have Kn : Kept _ := ⟨h2⟩
  have Kv : Kept _ := ⟨h4⟩
  have KbN : Kept _ := ⟨h5⟩
  obtain ⟨Hs, hH⟩ : ∃ H, H = w.heap.size := ⟨_, rfl⟩
  have KH : Kept _ := ⟨hH⟩
  rw [← hH]
  clear CM h1 h2 h3 h4 h5 hH
  go_enter Tryd.func16, Tryd.ntmps16
  go_wp2_with fail
  refine KM.out.mono ?_
  rintro e w1 ⟨rfl, hw⟩
  obtain rfl := hw.symm
  go_wp2_with (first | ((with_reducible refine wv_elem (d := 12) ?hd ?hw 29 ag_strs (.tmp 11) ?ho (⟨sb, 0, none⟩) ?hx (.slice pn N cn) ?hc ?_); (case hd => rfl); (case hw => kernel_rfl); (case ho => rfl); (case hx => kernel_rfl); (case hc => exact c0.out); simp only [Act.put, List.setIfInBounds_toArray, List.set_cons_succ, List.set_cons_zero]))
  go_loopg [3, 14] N (fun g s3 s14 wr => ∃ i : Nat, i + g = N ∧ s14 = .int .i64 (i : Int) ∧ VRow Hs 9 (strs (namesB (b.take i))) s3 wr ∧ Below Hs w wr)
  case atStart => exact ⟨0, by omega, rfl, vrow_nil _ _ _, by rw [KH.out]; exact Below.refl _ _⟩
  case round =>
    rename World => wz
    obtain ⟨i, hik, rfl, hr, hb⟩ := hrel
    by_cases hk0 : gk = 0
    · obtain rfl : N = i := by omega
      have et : b.take N = b := List.take_of_length_le (by rw [KbN.out]; exact Nat.le_refl _)
      rw [et] at hr
      have KR : Kept _ := ⟨hr⟩
      clear hr et
      go_wp2_with fail
      go_ret
      exact ⟨⟨_, rfl, KR.out⟩, hb⟩
    · have hin : i < N := by omega
      have hin' : (i : Int) < (N : Int) := by omega
      have hi1 : (i : Int) + 1 ≤ 9223372036854775807 := by omega
      have hqw : Below w.heap.size w wz := by rw [← KH.out]; exact hb
      obtain ⟨A, rfl, hA, hcell⟩ := vals_at (Kn.out.under hqw) (strs_get (namesL_get hin))
      obtain ⟨bx, hbx⟩ : ∃ bx, b[i]? = some bx := ⟨_, List.getElem?_eq_getElem (by rw [KbN.out]; exact hin)⟩
      obtain ⟨A2, rfl, hA2, hc2⟩ := vals_at (Kv.out.under hqw) (show (b.map Value.bool)[i]? = some (.bool bx) by rw [List.getElem?_map, hbx]; rfl)
      have Kst := names_take hbx
      obtain ⟨T, hT⟩ : ∃ T, T = termN (i + 1) := ⟨_, rfl⟩
      rw [← hT] at hcell Kst
      have KC : Kept _ := ⟨hcell⟩
      have KC2 : Kept _ := ⟨hc2⟩
      have c2z : Kept _ := ⟨Kc2.out wz hqw⟩
      have Kqw : Kept _ := ⟨hqw⟩
      have Kr : Kept _ := ⟨hr⟩
      have hTl : T.length ≤ 281474976710656 := by rw [hT, termN_len]; decide
      have KCl : Kept _ := ⟨fun w1 : World => Clone_any T w1 hTl⟩
      have KHz : Kept (Hs ≤ wz.heap.size) := ⟨by have := hqw.size; rw [KH.out]; exact this⟩
      have Kb : Kept _ := ⟨hb⟩
      have Knl : Kept ((strs (namesB (b.take i))).length ≤ 1000000) := ⟨by rw [strs_len]; have := names_le (b.take i); rw [List.length_take] at this; omega⟩
      clear hcell hc2 hbx hqw hr hT hTl hb
      cases bx with
      | false =>
        have Ks : Kept (namesB (b.take (i + 1)) = namesB (b.take i)) := ⟨by rw [Kst]; simp⟩
        clear Kst
        go_wp2_with (first | ((with_reducible refine wv_val (d := 17) ?hd ?hw (.pointer (some (A.add i))) ?hr ?_); (case hd => rfl); (case hw => kernel_rfl); (case hr => intro w; exact run_idxS (c := cn) rfl (by kernel_rfl) (by kernel_rfl) Tryd.underlying29 hin Tryd.sizeOf9 w); simp only [Act.put, List.setIfInBounds_toArray, List.set_cons_succ, List.set_cons_zero]) | ((with_reducible refine wv_elem (d := 18) ?hd ?hw 9 ag_str (.tmp 17) ?ho (A.add i) ?hx (.string (strOf T)) ?hc ?_); (case hd => rfl); (case hw => kernel_rfl); (case ho => rfl); (case hx => kernel_rfl); (case hc => exact KC.out); simp only [Act.put, List.setIfInBounds_toArray, List.set_cons_succ, List.set_cons_zero]) | ((with_reducible refine wv_elem (d := 22) ?hd ?hw 33 Tryd.isAgg33 (.tmp 21) ?ho (⟨sb, 2, none⟩) ?hx (.slice (some A2) N ck) ?hc ?_); (case hd => rfl); (case hw => kernel_rfl); (case ho => rfl); (case hx => kernel_rfl); (case hc => exact c2z.out); simp only [Act.put, List.setIfInBounds_toArray, List.set_cons_succ, List.set_cons_zero]) | ((with_reducible refine wv_val (d := 24) ?hd ?hw (.pointer (some (A2.add i))) ?hr ?_); (case hd => rfl); (case hw => kernel_rfl); (case hr => intro w; exact run_idxS (c := ck) rfl (by kernel_rfl) (by kernel_rfl) Tryd.underlying33 hin Tryd.sizeOf4 w); simp only [Act.put, List.setIfInBounds_toArray, List.set_cons_succ, List.set_cons_zero]) | ((with_reducible refine wv_elem (d := 25) ?hd ?hw 4 Tryd.isAgg4 (.tmp 24) ?ho (A2.add i) ?hx (.bool false) ?hc ?_); (case hd => rfl); (case hw => kernel_rfl); (case ho => rfl); (case hx => kernel_rfl); (case hc => exact KC2.out); simp only [Act.put, List.setIfInBounds_toArray, List.set_cons_succ, List.set_cons_zero]))
        go_roundg (gk - 1)
        case measure => omega
        case rel => exact ⟨i + 1, by omega, by simp, by rw [Ks.out]; exact Kr.out, Kb.out⟩
      | true =>
        have Ks : Kept (namesB (b.take (i + 1)) = namesB (b.take i) ++ [T]) := ⟨by rw [Kst]; simp⟩
        have K1c : Kept (∀ x ∈ ([Value.string (strOf T)] : List Value), x.oneCell' = true) := ⟨fun x hx => by simp at hx; subst hx; rfl⟩
        have Kap : Kept ((strs (namesB (b.take i))).length + ([Value.string (strOf T)] : List Value).length ≤ 1099511627776) := ⟨by have := Knl.out; simp; omega⟩
        clear Kst
        go_wp2_with (first | ((with_reducible refine wv_val (d := 17) ?hd ?hw (.pointer (some (A.add i))) ?hr ?_); (case hd => rfl); (case hw => kernel_rfl); (case hr => intro w; exact run_idxS (c := cn) rfl (by kernel_rfl) (by kernel_rfl) Tryd.underlying29 hin Tryd.sizeOf9 w); simp only [Act.put, List.setIfInBounds_toArray, List.set_cons_succ, List.set_cons_zero]) | ((with_reducible refine wv_elem (d := 18) ?hd ?hw 9 ag_str (.tmp 17) ?ho (A.add i) ?hx (.string (strOf T)) ?hc ?_); (case hd => rfl); (case hw => kernel_rfl); (case ho => rfl); (case hx => kernel_rfl); (case hc => exact KC.out); simp only [Act.put, List.setIfInBounds_toArray, List.set_cons_succ, List.set_cons_zero]) | ((with_reducible refine wv_elem (d := 22) ?hd ?hw 33 Tryd.isAgg33 (.tmp 21) ?ho (⟨sb, 2, none⟩) ?hx (.slice (some A2) N ck) ?hc ?_); (case hd => rfl); (case hw => kernel_rfl); (case ho => rfl); (case hx => kernel_rfl); (case hc => exact c2z.out); simp only [Act.put, List.setIfInBounds_toArray, List.set_cons_succ, List.set_cons_zero]) | ((with_reducible refine wv_val (d := 24) ?hd ?hw (.pointer (some (A2.add i))) ?hr ?_); (case hd => rfl); (case hw => kernel_rfl); (case hr => intro w; exact run_idxS (c := ck) rfl (by kernel_rfl) (by kernel_rfl) Tryd.underlying33 hin Tryd.sizeOf4 w); simp only [Act.put, List.setIfInBounds_toArray, List.set_cons_succ, List.set_cons_zero]) | ((with_reducible refine wv_elem (d := 25) ?hd ?hw 4 Tryd.isAgg4 (.tmp 24) ?ho (A2.add i) ?hx (.bool true) ?hc ?_); (case hd => rfl); (case hw => kernel_rfl); (case ho => rfl); (case hx => kernel_rfl); (case hc => exact KC2.out); simp only [Act.put, List.setIfInBounds_toArray, List.set_cons_succ, List.set_cons_zero]))
        refine (KCl.out wz).mono ?_
        rintro e w5 ⟨rfl, q5⟩
        have b6 := (Below.refl w5.heap.size w5).alloc (Nat.le_refl _) (.cells #[.string (strOf T)] 9)
        have Kr6 : Kept _ := ⟨(Kr.out.under q5).under b6⟩
        have K1 : Kept _ := ⟨one_new T w5⟩
        have KH6 : Kept (Hs ≤ (w5.alloc (.cells #[.string (strOf T)] 9)).heap.size) := ⟨by have := KHz.out; have := q5.size; have := b6.size; omega⟩
        have Kb6 : Kept _ := ⟨(Kb.out.trans (q5.mono KHz.out)).trans (b6.mono (Nat.le_trans KHz.out q5.size))⟩
        clear b6 q5
        go_wp2_with (first | (refine wl_build1S rfl (.tmp 28) rfl T (by kernel_rfl) ?_; simp only [Act.put, List.setIfInBounds_toArray, List.set_cons_succ, List.set_cons_zero]) | ((refine wl_appV (by kernel_rfl) (.tmp 26) (.tmp 29) 29 9 (.string .empty) 16 rfl Tryd.underlying29 inf_str rfl (by decide) Hs _ [.string (strOf T)] _ _ (by kernel_rfl) (by kernel_rfl) Kr6.out K1.out K1c.out Kap.out KH6.out ?_); intro v' w7 hr' hg' hne'; simp only [Act.put, List.setIfInBounds_toArray, List.set_cons_succ, List.set_cons_zero]))
        go_roundg (gk - 1)
        case measure => omega
        case rel =>
          refine ⟨i + 1, by omega, by simp, ?_, Kb6.out.trans (grown_mono hg' KH6.out (fun b hb => (Kr6.out.range b hb).1))⟩
          rw [Ks.out, strs_append]
          exact hr'
end Go.Proofs.YtniogaimhkcedaaDoor.sh
