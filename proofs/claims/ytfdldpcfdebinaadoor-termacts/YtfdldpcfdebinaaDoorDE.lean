/-
  What a table of terms is in memory: a struct, a map, a slice; what calls leave of it; (*Table).made.
-/
import Derived.Test.YtfdldpcfdebinaaDoorDD
import Derived.Maps.OwnSet
import Derived.WalkSpells
namespace Go.Proofs.YtfdldpcfdebinaaDoor.sh
open Go Go.RowKit Go.Maps
set_option linter.unusedVariables false
set_option linter.unusedSimpArgs false

/-- A term that a table may have. -/
def GoodT (t : TermL) : Prop := t.1 < 256 ∧ (∀ p ∈ t.2, Bytes p) ∧ Fits t.2
def keyL (t : TermL) : List Nat := joinL t.1 t.2
def litL (l : List Nat) : Lit := .string (l.map fun n => UInt8.ofNat n)
theorem keyL_bytes {t : TermL} (h : GoodT t) : Bytes (keyL t) := joinL_bytes h.1 h.2.1 h.2.2
theorem keyL_inj {t u : TermL} (h : GoodT t) (h2 : GoodT u) (e : litL (keyL t) = litL (keyL u)) : t = u := by
  unfold litL at e
  have := map_inj8 (keyL_bytes h) (keyL_bytes h2) (by simpa using e)
  obtain ⟨e1, e2⟩ := join_one this
  exact Prod.ext e1 e2
theorem good_of {t : TermL} (h : Formed t) (hF : Fits t.2) : GoodT t := by
  refine ⟨?_, h.1, hF⟩
  rcases h.2 with ⟨e, _⟩ | ⟨e, _⟩ | ⟨e, _⟩ | e | e <;> omega
theorem good_mem {ts : List TermL} (h : Terms ts) {t : TermL} (ht : t ∈ ts) : GoodT t := good_of (h.2 t ht) (h.1.2 t ht)
/-- The numbers of terms as a map: the last one first. -/
def numR : List TermL → DataW Unit
  | [] => .map []
  | t :: r => (numR r).put (litL (keyL t)) (.lit (.int .u64 ((r.length + 1 : Nat) : Int)))
def numD (ts : List TermL) : DataW Unit := numR ts.reverse
theorem numD_nil : numD [] = .map [] := rfl
theorem numD_snoc (ts : List TermL) (t : TermL) : numD (ts ++ [t]) = (numD ts).put (litL (keyL t)) (.lit (.int .u64 ((ts.length + 1 : Nat) : Int))) := by
  unfold numD
  rw [List.reverse_append]
  show (numR ts.reverse).put _ (.lit (.int .u64 ((ts.reverse.length + 1 : Nat) : Int))) = _
  rw [List.length_reverse]
theorem numR_isMap : ∀ r : List TermL, IsMap (numR r)
  | [] => isMap_empty
  | t :: r => (numR_isMap r).put _ _
theorem isKey_lit (l : List Nat) : WideAt.IsKeyLit (litL l) := trivial
theorem numR_has : ∀ (r : List TermL), (∀ t ∈ r, GoodT t) → ∀ u, GoodT u → Maps.has (numR r) (litL (keyL u)) = decide (u ∈ r)
  | [], _, u, _ => rfl
  | t :: r, h, u, hu => by
    have hr := numR_has r (fun x hx => h x (List.mem_cons_of_mem _ hx)) u hu
    show Maps.has ((numR r).put (litL (keyL t)) _) _ = _
    by_cases e : u = t
    · subst e
      rw [has_put_same (numR_isMap r) (isKey_lit _), decide_eq_true List.mem_cons_self]
    · rw [has_put_other (fun e2 => e (keyL_inj hu (h t List.mem_cons_self) e2)), hr]
      exact decide_eq_decide.2 ⟨fun h => List.mem_cons_of_mem _ h, fun h => by
        rcases List.mem_cons.1 h with h | h
        · exact absurd h e
        · exact h⟩
theorem numR_at : ∀ (r : List TermL), (∀ t ∈ r, GoodT t) → r.Nodup → ∀ u ∈ r, ∀ z, (numR r).atKey (litL (keyL u)) z = .lit (.int .u64 ((r.reverse.idxOf u + 1 : Nat) : Int))
  | [], _, _, u, hu, _ => by cases hu
  | t :: r, h, hn, u, hu, z => by
    rw [List.nodup_cons] at hn
    show DataW.atKey ((numR r).put (litL (keyL t)) _) _ z = _
    by_cases e : u = t
    · subst e
      rw [atKey_put_same (numR_isMap r) (isKey_lit _), List.reverse_cons, List.idxOf_append, if_neg (by simpa using hn.1), List.length_reverse]
      simp
    · have hu2 : u ∈ r := by
        rcases List.mem_cons.1 hu with h | h
        · exact absurd h e
        · exact h
      have hr := numR_at r (fun x hx => h x (List.mem_cons_of_mem _ hx)) hn.2 u hu2 z
      rw [atKey_put_other (fun e2 => e (keyL_inj (h u hu) (h t List.mem_cons_self) e2)), hr, List.reverse_cons, List.idxOf_append, if_pos (by simpa using hu2)]
theorem numD_has {ts : List TermL} (h : Terms ts) {u : TermL} (hu : GoodT u) : Maps.has (numD ts) (litL (keyL u)) = decide (u ∈ ts) := by
  unfold numD
  rw [numR_has _ (fun t ht => good_mem h (by simpa using ht)) u hu]
  exact decide_eq_decide.2 (by simp)
theorem numD_at {ts : List TermL} (h : Terms ts) {u : TermL} (hu : u ∈ ts) (z : DataW Unit) : (numD ts).atKey (litL (keyL u)) z = .lit (.int .u64 ((ts.idxOf u + 1 : Nat) : Int)) := by
  unfold numD
  rw [numR_at _ (fun t ht => good_mem h (by simpa using ht)) ((List.reverse_perm ts).symm.nodup h.1.1) u (by simpa using hu) z, List.reverse_reverse]

/-- Blocks below w's size, but for M, are what they were. -/
structure Out (M : Nat → Prop) (w w' : World) : Prop where
  os : w'.os = w.os
  tape : w'.tape = w.tape
  output : w'.output = w.output
  size : w.heap.size ≤ w'.heap.size
  block : ∀ k, k < w.heap.size → ¬ M k → w'.heap[k]? = w.heap[k]?
/-- .. and M' has no block that was there and not M's. -/
def Turn (M : Nat → Prop) (w : World) (M' : Nat → Prop) (w' : World) : Prop := Out M w w' ∧ ∀ b, M' b → M b ∨ w.heap.size ≤ b
theorem Turn.of_below {M : Nat → Prop} {w w' : World} (h : Below w.heap.size w w') : Turn M w M w' := ⟨⟨h.os, h.tape, h.output, h.size, fun k hk _ => h.block k hk⟩, fun b hb => .inl hb⟩
theorem Turn.refl (M : Nat → Prop) (w : World) : Turn M w M w := Turn.of_below (Below.refl _ _)
theorem Turn.trans {M M1 M2 : Nat → Prop} {w w1 w2 : World} (h : Turn M w M1 w1) (h2 : Turn M1 w1 M2 w2) : Turn M w M2 w2 :=
  ⟨⟨h2.1.os.trans h.1.os, h2.1.tape.trans h.1.tape, h2.1.output.trans h.1.output, Nat.le_trans h.1.size h2.1.size, fun k hk hM => (h2.1.block k (Nat.lt_of_lt_of_le hk h.1.size) (fun hk1 => by
      rcases h.2 k hk1 with h | h
      · exact hM h
      · omega)).trans (h.1.block k hk hM)⟩, fun b hb => by
    rcases h2.2 b hb with h3 | h3
    · exact h.2 b h3
    · exact .inr (Nat.le_trans h.1.size h3)⟩
theorem Turn.size {M M' : Nat → Prop} {w w' : World} (h : Turn M w M' w') : w.heap.size ≤ w'.heap.size := h.1.size
theorem Turn.not {M M' : Nat → Prop} {w w' : World} (h : Turn M w M' w') {b : Nat} (hb : ¬ M b) (hl : b < w.heap.size) : ¬ M' b := fun h2 => by
  rcases h.2 b h2 with h3 | h3
  · exact hb h3
  · omega
theorem Turn.blk {M M' : Nat → Prop} {w w' : World} (h : Turn M w M' w') {g : Nat} {t : TypeId} {A : Array Value} (hb : Blk w g t A) (hM : ¬ M g) : Blk w' g t A := (h.1.block g hb.lt hM).trans hb
theorem Turn.vrow {M M' : Nat → Prop} {w w' : World} (h : Turn M w M' w') {base : Nat} {e : TypeId} {vs : List Value} {v : Value} (hr : VRow base e vs v w) (hM : ∀ b, blkOf v = some b → ¬ M b) : VRow base e vs v w' := by
  obtain ⟨h1, h2⟩ := hr
  refine ⟨h1, ?_⟩
  rcases h2 with h3 | ⟨g, cap, cur, rfl, hb, hg, r⟩
  · exact .inl h3
  · exact .inr ⟨g, cap, cur, rfl, hb, (h.1.block g (Array.getElem?_eq_some_iff.1 hg).1 (hM g rfl)).trans hg, r⟩
theorem Turn.vals {M M' : Nat → Prop} {w w' : World} (h : Turn M w M' w') {vs : List Value} {v : Value} (hr : ValsV v w vs) (hM : ∀ b, blkOf v = some b → ¬ M b) : ValsV v w' vs := by
  obtain ⟨p, c, rfl, hlc, hp⟩ := hr
  refine ⟨p, c, rfl, hlc, fun hne => ?_⟩
  obtain ⟨A, rfl, hA, hc⟩ := hp hne
  exact ⟨A, rfl, Nat.lt_of_lt_of_le hA h.size, fun j x hx => (World.cell?_of_block (by rw [add_block]; exact h.1.block _ hA (hM _ rfl))).trans (hc j x hx)⟩

/-- The struct, the map and the slice of a table. -/
def TabAt (tb B mb : Nat) (v : Value) (ts : List TermL) (M : Nat → Prop) (w : World) : Prop :=
  Blk w tb 53 #[.map (some mb), v] ∧ (B ≤ tb ∧ B ≤ mb ∧ tb ≠ mb) ∧ w.ownsMap Tryd.prog 9 (plainElem (H := Unit) Tryd.prog 28) mb ts.length (numD ts) ∧ VRow B 9 (strs (ts.map keyL)) v w ∧ (blkOf v ≠ some tb ∧ blkOf v ≠ some mb) ∧ ∀ b, M b ↔ (b = tb ∨ b = mb ∨ blkOf v = some b)
/-- A table that has these terms; M: its blocks, all from B on. -/
structure Tab (tb B : Nat) (ts : List TermL) (M : Nat → Prop) (w : World) : Prop where
  at' : ∃ mb v, TabAt tb B mb v ts M w
  terms : Terms ts
theorem Tab.range {tb B : Nat} {ts : List TermL} {M : Nat → Prop} {w : World} (h : Tab tb B ts M w) {b : Nat} (hb : M b) : B ≤ b ∧ b < w.heap.size := by
  obtain ⟨mb, v, h1, h2, h3, h4, h5, h6⟩ := h.at'
  rcases (h6 b).1 hb with rfl | rfl | hb
  · exact ⟨h2.1, h1.lt⟩
  · exact ⟨h2.2.1, h3.lt⟩
  · exact h4.range b hb
theorem TabAt.under {tb B mb : Nat} {v : Value} {ts : List TermL} {M : Nat → Prop} {w w' : World} (h : TabAt tb B mb v ts M w) (hb : Below w.heap.size w w') : TabAt tb B mb v ts M w' := by
  obtain ⟨h1, h2, h3, h4, h5, h6⟩ := h
  exact ⟨h1.under hb, h2, h3.kept (row := none) (grown_none hb) (by simp), h4.under hb, h5, h6⟩
theorem Tab.under {tb B : Nat} {ts : List TermL} {M : Nat → Prop} {w w' : World} (h : Tab tb B ts M w) (hb : Below w.heap.size w w') : Tab tb B ts M w' := by
  obtain ⟨mb, v, h1⟩ := h.at'
  exact ⟨⟨mb, v, h1.under hb⟩, h.terms⟩
theorem Tab.below {tb B : Nat} {ts : List TermL} {M M' : Nat → Prop} {w w' : World} (h : Tab tb B ts M w) (ht : Turn M w M' w') : Below B w w' :=
  ⟨ht.1.os, ht.1.tape, ht.1.output, ht.1.size, fun k hk => by
    obtain ⟨mb, v, h1, h2, _⟩ := h.at'
    have hlt := h1.lt
    exact ht.1.block k (by have := h2.1; omega) (fun hM => by have := (h.range hM).1; omega)⟩
theorem Tab.ptr {tb B : Nat} {ts : List TermL} {M : Nat → Prop} {w : World} (h : Tab tb B ts M w) : tb < w.heap.size := by
  obtain ⟨mb, v, h1, _⟩ := h.at'
  exact h1.lt

section
variable {ops : Array Oper} {rest : List Oper} {o : Oper} {a : Act} {w : World} {Q : Exit → Act → World → Prop}
theorem law_str : Keyed Tryd.prog 9 := string_keyed Tryd.underlying9
theorem zero_u64 (w : World) : (zeroValue 28).run Tryd.prog w = .ok (.int .u64 0) w := by kernel_rfl
theorem key_lit {l : List Nat} (hl : l.length ≤ maxLen) : keyOf Tryd.prog 9 (.string (strOf l)) = some (litL l) := by
  have h := WideMaps.keyOf_string_mk (P := Tryd.prog) (k := 9) Tryd.underlying9 (s := strOf l) (by rw [strOf_size]; exact hl)
  rw [sa_data] at h
  exact h
/-- 'n, had := m[s]'. -/
theorem wl_lookT (hg : o.guard = none) (m x : Operand) (ho : o.op = Op.lookup 51 m x true) (mb n : Nat) (D : DataW Unit) (hm : a.eval m = .map (some mb)) (hown : w.ownsMap Tryd.prog 9 (plainElem (H := Unit) Tryd.prog 28) mb n D)
    (J : List Nat) (hx : a.eval x = .string (strOf J)) (hJ : J.length ≤ maxLen) (c : Nat) (b : Bool) (hb : Maps.has D (litL J) = b) (hc : D.atKey (litL J) (.lit (.int .u64 0)) = .lit (.int .u64 (c : Int)))
    (h : wpList Tryd.prog ops Q rest (a.put o.dst (.tuple #[.int .u64 (c : Int), .bool b])) w) : wpList Tryd.prog ops Q (o :: rest) a w :=
  wpList_lookup_own_ok_int w hg m x 51 ho 9 28 .u64 law_str Tryd.underlying51 Tryd.underlying28 (zero_u64 w) mb n D hm hown _ _ hx (key_lit hJ) fun c' hat _ => by
    rw [hc] at hat
    simp only [DataW.lit.injEq, Lit.int.injEq, true_and] at hat
    subst hat
    rw [hb]
    exact h
/-- 'm[s] = n'. -/
theorem wl_updT (hg : o.guard = none) (m x y : Operand) (ho : o.op = Op.mapUpdate 51 m x y) (mb n : Nat) (D : DataW Unit) (hm : a.eval m = .map (some mb)) (hown : w.ownsMap Tryd.prog 9 (plainElem (H := Unit) Tryd.prog 28) mb n D) (hn : n < 1000001)
    (J : List Nat) (hx : a.eval x = .string (strOf J)) (hJ : J.length ≤ maxLen) (c : Nat) (hy : a.eval y = .int .u64 (c : Int)) (hc : c < 1000001)
    (h : ∀ w', w'.ownsMap Tryd.prog 9 (plainElem (H := Unit) Tryd.prog 28) mb (n + 1) (D.put (litL J) (.lit (.int .u64 (c : Int)))) → w.grownBy w' (some mb) → w.heap.size = w'.heap.size → wpList Tryd.prog ops Q rest (a.put o.dst undef) w') : wpList Tryd.prog ops Q (o :: rest) a w :=
  wpList_mapUpdate_in w hg m x y 51 ho 9 28 law_str Tryd.underlying51 (plainElem Tryd.prog 28) mb n D hm hown (by unfold maxLen; omega) _ _ _ hx hy (key_lit hJ) _ [] (plainElem_int Tryd.underlying28 (by simp [Lit.wf, IntKind.min, IntKind.max, IntKind.signed, IntKind.bits]; omega)) fun w' h1 h2 => h w' h1 h2.grown (by
    obtain ⟨es, ck, es', ck', _, rfl⟩ := h2
    simp [ChangeMaps.setBlock])
end
theorem run_c3U {o : Oper} {a : Act} {x : Operand} {n : Nat} (ho : o.op = .convert 3 28 x) (hx : a.eval x = .int .i64 (n : Int)) (hn : n < 4611686018427387904) (w : World) : (execOp a.eval o).run Tryd.prog w = .ok (.value (.int .u64 (n : Int))) w := by
  unfold execOp
  simp only [ho, hx]
  simp [go_sem, IntKind.wrap_u64]
  omega
theorem run_mneq {o : Oper} {a : Act} {x : Operand} {u : TypeId} {p : Option Nat} {b : Bool} (ho : o.op = .binOp .neq 51 x (.const (.map none)) u) (hx : a.eval x = .map p) (hb : b = p.isSome) (w : World) : (execOp a.eval o).run Tryd.prog w = .ok (.value (.bool b)) w := by
  have e3 : a.eval (.const (.map none)) = .map none := rfl
  unfold execOp
  simp only [ho, hx, e3]
  rw [hb]
  have h := run_neq_map_nil w 51 _ _ p Tryd.underlying51
  simp [go_sem, h]
  try (cases p <;> rfl)
theorem ag_map : ∀ w, (isAgg 51).run Tryd.prog w = .ok false w := Tryd.isAgg51

set_option maxRecDepth 100000 in
set_option maxHeartbeats 1000000 in
theorem madeD {tb mb : Nat} {v : Value} {w : World} (h : Blk w tb 53 #[.map (some mb), v]) :
    Calls Tryd.prog 29 #[.pointer (some ⟨tb, 0, none⟩)] w fun e w' => e = .returned (.bool true) ∧ w' = w := by
  have c0 : Kept (w.cell? ⟨tb, 0, none⟩ = some (.map (some mb))) := ⟨h.cell rfl⟩
  clear h
  go_enter Tryd.func29, Tryd.ntmps29
  go_wp2_with (first | ((with_reducible refine wv_elem (d := 9) ?hd ?hw 51 ag_map (.tmp 8) ?ho (⟨tb, 0, none⟩) ?hx (.map (some mb)) ?hc ?_); (case hd => rfl); (case hw => kernel_rfl); (case ho => rfl); (case hx => kernel_rfl); (case hc => exact c0.out); simp only [Act.put, List.setIfInBounds_toArray, List.set_cons_succ, List.set_cons_zero]) | ((with_reducible refine wv_val (d := 10) ?hd ?hw (.bool true) ?hr ?_); (case hd => rfl); (case hw => kernel_rfl); (case hr => intro w; exact run_mneq (p := some mb) rfl (by kernel_rfl) rfl w); simp only [Act.put, List.setIfInBounds_toArray, List.set_cons_succ, List.set_cons_zero]))
  go_ret
  exact ⟨rfl, rfl⟩
/-- A table that no call made. -/
def Nobody (p : Option Addr) (w : World) : Prop := p = none ∨ ∃ b, p = some ⟨b, 0, none⟩ ∧ Blk w b 53 #[.map none, .slice none 0 0]
theorem Nobody.under {p : Option Addr} {w w' : World} (h : Nobody p w) (hb : Below w.heap.size w w') : Nobody p w' := by
  rcases h with h | ⟨b, h1, h2⟩
  · exact .inl h
  · exact .inr ⟨b, h1, h2.under hb⟩
set_option maxRecDepth 100000 in
set_option maxHeartbeats 1000000 in
theorem madeN {p : Option Addr} {w : World} (h : Nobody p w) :
    Calls Tryd.prog 29 #[.pointer p] w fun e w' => e = .returned (.bool false) ∧ w' = w := by
  rcases h with rfl | ⟨b, rfl, h⟩
  · go_enter Tryd.func29, Tryd.ntmps29
    go_wp2_with fail
    go_ret
    exact ⟨rfl, rfl⟩
  · have c0 : Kept (w.cell? ⟨b, 0, none⟩ = some (.map none)) := ⟨h.cell rfl⟩
    clear h
    go_enter Tryd.func29, Tryd.ntmps29
    go_wp2_with (first | ((with_reducible refine wv_elem (d := 9) ?hd ?hw 51 ag_map (.tmp 8) ?ho (⟨b, 0, none⟩) ?hx (.map none) ?hc ?_); (case hd => rfl); (case hw => kernel_rfl); (case ho => rfl); (case hx => kernel_rfl); (case hc => exact c0.out); simp only [Act.put, List.setIfInBounds_toArray, List.set_cons_succ, List.set_cons_zero]) | ((with_reducible refine wv_val (d := 10) ?hd ?hw (.bool false) ?hr ?_); (case hd => rfl); (case hw => kernel_rfl); (case hr => intro w; exact run_mneq (p := none) rfl (by kernel_rfl) rfl w); simp only [Act.put, List.setIfInBounds_toArray, List.set_cons_succ, List.set_cons_zero]))
    go_ret
    exact ⟨rfl, rfl⟩
set_option maxRecDepth 100000 in
set_option maxHeartbeats 1000000 in
theorem NewD {w : World} :
    Calls Tryd.prog 10 #[] w fun e w' => (∃ tb M, e = .returned (.pointer (some ⟨tb, 0, none⟩)) ∧ Tab tb w.heap.size [] M w') ∧ Below w.heap.size w w' := by
  have hmm := @run_makeMap Tryd.prog
  have fin : ∀ w2, w2 = (w.alloc (.map #[] 0)).alloc (.cells #[.map (some w.heap.size), .slice none 0 0] 53) → (∃ tb M, Ending.returned (.pointer (some ⟨w.heap.size + 1, 0, none⟩)) = .returned (.pointer (some ⟨tb, 0, none⟩)) ∧ Tab tb w.heap.size [] M w2) ∧ Below w.heap.size w w2 := fun w2 h => by
    subst h
    have hs : (w.alloc (.map #[] 0)).heap.size = w.heap.size + 1 := by simp
    refine ⟨⟨w.heap.size + 1, fun b => b = w.heap.size + 1 ∨ b = w.heap.size, rfl, ⟨⟨w.heap.size, .slice none 0 0, ?_, ⟨by omega, by omega, by omega⟩, ?_, vrow_nil _ _ _, ⟨by simp [blkOf], by simp [blkOf]⟩, fun b => by simp [blkOf]⟩, terms_nil⟩⟩, ?_⟩
    · rw [← hs]; exact blk_new _ _ _
    · exact (World.ownsMap_made w _ _ _).alloc _
    · exact ((Below.refl _ _).alloc (Nat.le_refl _) _).alloc (by rw [hs]; omega) _
  have KF : Kept _ := ⟨fin⟩
  clear fin
  go_enter Tryd.func10, Tryd.ntmps10
  go_wp2_with fail
  go_ret
  exact KF.out _ rfl
end Go.Proofs.YtfdldpcfdebinaaDoor.sh
