/-
  General pieces, joined: DD DE DF DG DH DI DJ DK DL XV DM DN.
-/
import Derived.Test.YtjkdonjcngmjeaaGreatDoorG15
import Derived.Maps.OwnSet
import Derived.WalkSpells
/-
  Names of terms: strings.TrimLeft at a byte 0, term.nameOf, term.numberOf.
-/
namespace Go.Proofs.YtjkdonjcngmjeaaGreatDoor.sh
open Go Go.RowKit
set_option linter.unusedVariables false
set_option linter.unusedSimpArgs false

theorem map_inj8 {l m : List Nat} (hl : Bytes l) (hm : Bytes m) (h : (l.map fun n => UInt8.ofNat n) = m.map fun n => UInt8.ofNat n) : l = m := strOf_same hl hm (by rw [← strOf_mk l, ← strOf_mk m, h])
theorem bigL_num : ∀ (k n : Nat), n < 256 ^ k → bigL n k = List.replicate (k - (numT n k).length) 0 ++ numT n k
  | 0, n, h => by simp at h; subst h; rfl
  | k + 1, n, h => by
    have hd : n / 256 < 256 ^ k := by rw [Nat.pow_succ] at h; omega
    have ih := bigL_num k (n / 256) hd
    unfold bigL numT
    by_cases h0 : n = 0
    · subst h0
      rw [if_pos rfl]
      rw [show 0 / 256 = 0 from rfl, numT_zero] at ih
      rw [show 0 / 256 = 0 from rfl, ih]
      simp [List.replicate_succ']
    · rw [if_neg h0, ih, List.length_append, List.length_singleton, List.append_assoc, show k + 1 - ((numT (n / 256) k).length + 1) = k - (numT (n / 256) k).length by omega]
theorem termN_drop (n : Nat) (h : n < 18446744073709551616) : (termN n).drop 4 = List.replicate (28 - (numL n).length) 0 ++ numL n := by
  have h1 := bigL_num 8 n h
  have h2 := numL_len n
  unfold termN
  rw [List.append_assoc, List.drop_append_of_le_length (by decide), show ([116, 101, 114, 109] : List Nat).drop 4 = [] from rfl, List.nil_append, h1]
  show List.replicate 20 0 ++ (List.replicate (8 - (numL n).length) 0 ++ numL n) = _
  rw [← List.append_assoc, List.replicate_append_replicate, show 20 + (8 - (numL n).length) = 28 - (numL n).length by omega]
theorem rep_map : ∀ c : Nat, Lib.repeatL ([0].map fun n : Nat => UInt8.ofNat n) c = (List.replicate c 0).map fun n : Nat => UInt8.ofNat n
  | 0 => rfl
  | c + 1 => by
    unfold Lib.repeatL
    rw [rep_map c, List.replicate_succ]
    rfl
theorem RepD {c : Nat} {w : World} (hc : c ≤ 28) :
    Calls Tryz.prog 102 #[.string ⟨#[0]⟩, .int .i64 (c : Int)] w fun e w' => e = .returned (.string (strOf (List.replicate c 0))) ∧ Below w.heap.size w w' := by
  have h := sRep (l := [0]) (c := c) w (by simp; omega) (by omega)
  rw [rep_map, strOf_mk] at h
  exact h
set_option maxRecDepth 100000 in
set_option maxHeartbeats 1000000 in
theorem nameOfD {n : Nat} {w : World} (hn : n < 18446744073709551616) :
    Calls Tryz.prog 65 #[.int .u64 (n : Int)] w fun e w' => e = .returned (.string (strOf (termN n))) ∧ Below w.heap.size w w' := by
  have CN := NumD (w := w) hn
  have hz8 := numL_len n
  have hD := termN_drop n hn
  have hH : (termN n).take 4 = [116, 101, 114, 109] := by unfold termN; rfl
  obtain ⟨D, hDe⟩ : ∃ D, D = numL n := ⟨_, rfl⟩
  rw [← hDe] at CN hz8 hD
  obtain ⟨z, hz⟩ : ∃ z, z = D.length := ⟨_, rfl⟩
  rw [← hz] at hz8 hD
  obtain ⟨c, hc⟩ : ∃ c, c = 28 - z := ⟨_, rfl⟩
  rw [← hc] at hD
  have hc28 : c ≤ 28 := by omega
  have CR := fun w1 : World => RepD (w := w1) hc28
  obtain ⟨R, hR⟩ : ∃ R, R = List.replicate c 0 := ⟨_, rfl⟩
  rw [← hR] at CR hD
  obtain ⟨T, hT⟩ : ∃ T, T = termN n := ⟨_, rfl⟩
  rw [← hT] at hD hH ⊢
  obtain ⟨P, hP⟩ : ∃ P, P = [116, 101, 114, 109] ++ R := ⟨_, rfl⟩
  have KT : Kept (T = P ++ D) := ⟨by rw [hP, List.append_assoc, ← hD, ← hH, List.take_append_drop]⟩
  have KP : Kept _ := ⟨hP⟩
  have KZ : Kept _ := ⟨hz⟩
  have KC : Kept _ := ⟨hc⟩
  have KCN : Kept _ := ⟨CN⟩
  have KCR : Kept _ := ⟨CR⟩
  have B1 : Kept (([116, 101, 114, 109] : List Nat).length + R.length < 4611686018427387904) := ⟨by rw [hR, List.length_replicate]; simp; omega⟩
  have B2 : Kept (P.length + D.length < 4611686018427387904) := ⟨by rw [hP, hR, List.length_append, List.length_replicate, ← hz]; simp; omega⟩
  clear hD hH hDe hz hc hR hT hP CN CR
  go_enter Tryz.func65, Tryz.ntmps65
  go_wp2_with fail
  refine KCN.out.mono ?_
  rintro e w1 ⟨rfl, q1⟩
  go_wp2_with (first | ((with_reducible refine wv_val (d := 7) ?hd ?hw (.int .i64 (z : Int)) ?hr ?_); (case hd => rfl); (case hw => kernel_rfl); (case hr => intro w; exact run_slen rfl (by kernel_rfl) KZ.out w); simp only [Act.put, List.setIfInBounds_toArray, List.set_cons_succ, List.set_cons_zero]) | ((with_reducible refine wv_val (d := 8) ?hd ?hw (.int .i64 (c : Int)) ?hr ?_); (case hd => rfl); (case hw => kernel_rfl); (case hr => intro w; exact run_subC 28 rfl (by kernel_rfl) KC.out (by omega) (by decide) w); simp only [Act.put, List.setIfInBounds_toArray, List.set_cons_succ, List.set_cons_zero]))
  refine (KCR.out w1).mono ?_
  rintro e w2 ⟨rfl, q2⟩
  go_wp2_with (first | ((with_reducible refine wv_val (d := 10) ?hd ?hw (.string (strOf P)) ?hr ?_); (case hd => rfl); (case hw => kernel_rfl); (case hr => intro w; exact run_scat (l := [116, 101, 114, 109]) rfl (by kernel_rfl) (by kernel_rfl) B1.out KP.out w); simp only [Act.put, List.setIfInBounds_toArray, List.set_cons_succ, List.set_cons_zero]) | ((with_reducible refine wv_val (d := 12) ?hd ?hw (.string (strOf T)) ?hr ?_); (case hd => rfl); (case hw => kernel_rfl); (case hr => intro w; exact run_scat rfl (by kernel_rfl) (by kernel_rfl) B2.out KT.out w); simp only [Act.put, List.setIfInBounds_toArray, List.set_cons_succ, List.set_cons_zero]))
  go_ret
  exact ⟨rfl, q1.trans (q2.mono q1.size)⟩

end Go.Proofs.YtjkdonjcngmjeaaGreatDoor.sh
/-
  What a table of terms is in memory: a struct, a map, a slice; what calls leave of it; (*Table).made.
-/
namespace Go.Proofs.YtjkdonjcngmjeaaGreatDoor.sh
open Go Go.RowKit Go.Maps
set_option linter.unusedVariables false
set_option linter.unusedSimpArgs false

/-- A term that a table may have. -/
def GoodT (t : TermL) : Prop := t.1 < 256 ∧ (∀ p ∈ t.2, Bytes p) ∧ Fits t.2
def keyL (t : TermL) : List Nat := joinL t.1 t.2
def litL (l : List Nat) : Lit := .string (l.map fun n => UInt8.ofNat n)
theorem keyL_bytes {t : TermL} (h : GoodT t) : Bytes (keyL t) := joinL_bytes h.1 h.2.1 h.2.2
theorem keyL_inj {t u : TermL} (h : GoodT t) (h2 : GoodT u) (e : litL (keyL t) = litL (keyL u)) : t = u := by
  unfold litL at e
  have := map_inj8 (keyL_bytes h) (keyL_bytes h2) (by simpa using e)
  obtain ⟨e1, e2⟩ := join_one this
  exact Prod.ext e1 e2
theorem good_of {t : TermL} (h : Formed t) (hF : Fits t.2) : GoodT t := by
  refine ⟨?_, h.1, hF⟩
  rcases h.2 with ⟨e, _⟩ | ⟨e, _⟩ | ⟨e, _⟩ | e | e <;> omega
theorem good_mem {ts : List TermL} (h : Terms ts) {t : TermL} (ht : t ∈ ts) : GoodT t := good_of (h.2 t ht) (h.1.2 t ht)
/-- The numbers of terms as a map: the last one first. -/
def numR : List TermL → DataW Unit
  | [] => .map []
  | t :: r => (numR r).put (litL (keyL t)) (.lit (.int .u64 ((r.length + 1 : Nat) : Int)))
def numD (ts : List TermL) : DataW Unit := numR ts.reverse
theorem numD_snoc (ts : List TermL) (t : TermL) : numD (ts ++ [t]) = (numD ts).put (litL (keyL t)) (.lit (.int .u64 ((ts.length + 1 : Nat) : Int))) := by
  unfold numD
  rw [List.reverse_append]
  show (numR ts.reverse).put _ (.lit (.int .u64 ((ts.reverse.length + 1 : Nat) : Int))) = _
  rw [List.length_reverse]
theorem numR_isMap : ∀ r : List TermL, IsMap (numR r)
  | [] => isMap_empty
  | t :: r => (numR_isMap r).put _ _
theorem isKey_lit (l : List Nat) : WideAt.IsKeyLit (litL l) := trivial
theorem numR_has : ∀ (r : List TermL), (∀ t ∈ r, GoodT t) → ∀ u, GoodT u → Maps.has (numR r) (litL (keyL u)) = decide (u ∈ r)
  | [], _, u, _ => rfl
  | t :: r, h, u, hu => by
    have hr := numR_has r (fun x hx => h x (List.mem_cons_of_mem _ hx)) u hu
    show Maps.has ((numR r).put (litL (keyL t)) _) _ = _
    by_cases e : u = t
    · subst e
      rw [has_put_same (numR_isMap r) (isKey_lit _), decide_eq_true List.mem_cons_self]
    · rw [has_put_other (fun e2 => e (keyL_inj hu (h t List.mem_cons_self) e2)), hr]
      exact decide_eq_decide.2 ⟨fun h => List.mem_cons_of_mem _ h, fun h => by
        rcases List.mem_cons.1 h with h | h
        · exact absurd h e
        · exact h⟩
theorem numR_at : ∀ (r : List TermL), (∀ t ∈ r, GoodT t) → r.Nodup → ∀ u ∈ r, ∀ z, (numR r).atKey (litL (keyL u)) z = .lit (.int .u64 ((r.reverse.idxOf u + 1 : Nat) : Int))
  | [], _, _, u, hu, _ => by cases hu
  | t :: r, h, hn, u, hu, z => by
    rw [List.nodup_cons] at hn
    show DataW.atKey ((numR r).put (litL (keyL t)) _) _ z = _
    by_cases e : u = t
    · subst e
      rw [atKey_put_same (numR_isMap r) (isKey_lit _), List.reverse_cons, List.idxOf_append, if_neg (by simpa using hn.1), List.length_reverse]
      simp
    · have hu2 : u ∈ r := by
        rcases List.mem_cons.1 hu with h | h
        · exact absurd h e
        · exact h
      have hr := numR_at r (fun x hx => h x (List.mem_cons_of_mem _ hx)) hn.2 u hu2 z
      rw [atKey_put_other (fun e2 => e (keyL_inj (h u hu) (h t List.mem_cons_self) e2)), hr, List.reverse_cons, List.idxOf_append, if_pos (by simpa using hu2)]
theorem numD_has {ts : List TermL} (h : Terms ts) {u : TermL} (hu : GoodT u) : Maps.has (numD ts) (litL (keyL u)) = decide (u ∈ ts) := by
  unfold numD
  rw [numR_has _ (fun t ht => good_mem h (by simpa using ht)) u hu]
  exact decide_eq_decide.2 (by simp)
theorem numD_at {ts : List TermL} (h : Terms ts) {u : TermL} (hu : u ∈ ts) (z : DataW Unit) : (numD ts).atKey (litL (keyL u)) z = .lit (.int .u64 ((ts.idxOf u + 1 : Nat) : Int)) := by
  unfold numD
  rw [numR_at _ (fun t ht => good_mem h (by simpa using ht)) ((List.reverse_perm ts).symm.nodup h.1.1) u (by simpa using hu) z, List.reverse_reverse]

/-- Blocks below w's size, but for M, are what they were. -/
structure Out (M : Nat → Prop) (w w' : World) : Prop where
  os : w'.os = w.os
  tape : w'.tape = w.tape
  output : w'.output = w.output
  size : w.heap.size ≤ w'.heap.size
  block : ∀ k, k < w.heap.size → ¬ M k → w'.heap[k]? = w.heap[k]?
/-- .. and M' has no block that was there and not M's. -/
def Turn (M : Nat → Prop) (w : World) (M' : Nat → Prop) (w' : World) : Prop := Out M w w' ∧ ∀ b, M' b → M b ∨ w.heap.size ≤ b
theorem Turn.of_below {M : Nat → Prop} {w w' : World} (h : Below w.heap.size w w') : Turn M w M w' := ⟨⟨h.os, h.tape, h.output, h.size, fun k hk _ => h.block k hk⟩, fun b hb => .inl hb⟩
theorem Turn.refl (M : Nat → Prop) (w : World) : Turn M w M w := Turn.of_below (Below.refl _ _)
theorem Turn.trans {M M1 M2 : Nat → Prop} {w w1 w2 : World} (h : Turn M w M1 w1) (h2 : Turn M1 w1 M2 w2) : Turn M w M2 w2 :=
  ⟨⟨h2.1.os.trans h.1.os, h2.1.tape.trans h.1.tape, h2.1.output.trans h.1.output, Nat.le_trans h.1.size h2.1.size, fun k hk hM => (h2.1.block k (Nat.lt_of_lt_of_le hk h.1.size) (fun hk1 => by
      rcases h.2 k hk1 with h | h
      · exact hM h
      · omega)).trans (h.1.block k hk hM)⟩, fun b hb => by
    rcases h2.2 b hb with h3 | h3
    · exact h.2 b h3
    · exact .inr (Nat.le_trans h.1.size h3)⟩
theorem Turn.size {M M' : Nat → Prop} {w w' : World} (h : Turn M w M' w') : w.heap.size ≤ w'.heap.size := h.1.size
theorem Turn.not {M M' : Nat → Prop} {w w' : World} (h : Turn M w M' w') {b : Nat} (hb : ¬ M b) (hl : b < w.heap.size) : ¬ M' b := fun h2 => by
  rcases h.2 b h2 with h3 | h3
  · exact hb h3
  · omega
theorem Turn.blk {M M' : Nat → Prop} {w w' : World} (h : Turn M w M' w') {g : Nat} {t : TypeId} {A : Array Value} (hb : Blk w g t A) (hM : ¬ M g) : Blk w' g t A := (h.1.block g hb.lt hM).trans hb
theorem Turn.vals {M M' : Nat → Prop} {w w' : World} (h : Turn M w M' w') {vs : List Value} {v : Value} (hr : ValsV v w vs) (hM : ∀ b, blkOf v = some b → ¬ M b) : ValsV v w' vs := by
  obtain ⟨p, c, rfl, hlc, hp⟩ := hr
  refine ⟨p, c, rfl, hlc, fun hne => ?_⟩
  obtain ⟨A, rfl, hA, hc⟩ := hp hne
  exact ⟨A, rfl, Nat.lt_of_lt_of_le hA h.size, fun j x hx => (World.cell?_of_block (by rw [add_block]; exact h.1.block _ hA (hM _ rfl))).trans (hc j x hx)⟩

/-- The struct, the map and the slice of a table. -/
def TabAt (tb B mb : Nat) (v : Value) (ts : List TermL) (M : Nat → Prop) (w : World) : Prop :=
  Blk w tb 88 #[.map (some mb), v] ∧ (B ≤ tb ∧ B ≤ mb ∧ tb ≠ mb) ∧ w.ownsMap Tryz.prog 9 (plainElem (H := Unit) Tryz.prog 22) mb ts.length (numD ts) ∧ VRow B 9 (strs (ts.map keyL)) v w ∧ (blkOf v ≠ some tb ∧ blkOf v ≠ some mb) ∧ ∀ b, M b ↔ (b = tb ∨ b = mb ∨ blkOf v = some b)
/-- A table that has these terms; M: its blocks, all from B on. -/
structure Tab (tb B : Nat) (ts : List TermL) (M : Nat → Prop) (w : World) : Prop where
  at' : ∃ mb v, TabAt tb B mb v ts M w
  terms : Terms ts
theorem Tab.range {tb B : Nat} {ts : List TermL} {M : Nat → Prop} {w : World} (h : Tab tb B ts M w) {b : Nat} (hb : M b) : B ≤ b ∧ b < w.heap.size := by
  obtain ⟨mb, v, h1, h2, h3, h4, h5, h6⟩ := h.at'
  rcases (h6 b).1 hb with rfl | rfl | hb
  · exact ⟨h2.1, h1.lt⟩
  · exact ⟨h2.2.1, h3.lt⟩
  · exact h4.range b hb
theorem TabAt.under {tb B mb : Nat} {v : Value} {ts : List TermL} {M : Nat → Prop} {w w' : World} (h : TabAt tb B mb v ts M w) (hb : Below w.heap.size w w') : TabAt tb B mb v ts M w' := by
  obtain ⟨h1, h2, h3, h4, h5, h6⟩ := h
  exact ⟨h1.under hb, h2, h3.kept (row := none) (grown_none hb) (by simp), h4.under hb, h5, h6⟩
theorem Tab.under {tb B : Nat} {ts : List TermL} {M : Nat → Prop} {w w' : World} (h : Tab tb B ts M w) (hb : Below w.heap.size w w') : Tab tb B ts M w' := by
  obtain ⟨mb, v, h1⟩ := h.at'
  exact ⟨⟨mb, v, h1.under hb⟩, h.terms⟩
theorem Tab.below {tb B : Nat} {ts : List TermL} {M M' : Nat → Prop} {w w' : World} (h : Tab tb B ts M w) (ht : Turn M w M' w') : Below B w w' :=
  ⟨ht.1.os, ht.1.tape, ht.1.output, ht.1.size, fun k hk => by
    obtain ⟨mb, v, h1, h2, _⟩ := h.at'
    have hlt := h1.lt
    exact ht.1.block k (by have := h2.1; omega) (fun hM => by have := (h.range hM).1; omega)⟩
theorem Tab.ptr {tb B : Nat} {ts : List TermL} {M : Nat → Prop} {w : World} (h : Tab tb B ts M w) : tb < w.heap.size := by
  obtain ⟨mb, v, h1, _⟩ := h.at'
  exact h1.lt

section
variable {ops : Array Oper} {rest : List Oper} {o : Oper} {a : Act} {w : World} {Q : Exit → Act → World → Prop}
theorem law_str : Keyed Tryz.prog 9 := string_keyed Tryz.underlying9
theorem zero_u64 (w : World) : (zeroValue 22).run Tryz.prog w = .ok (.int .u64 0) w := by kernel_rfl
theorem key_lit {l : List Nat} (hl : l.length ≤ maxLen) : keyOf Tryz.prog 9 (.string (strOf l)) = some (litL l) := by
  have h := WideMaps.keyOf_string_mk (P := Tryz.prog) (k := 9) Tryz.underlying9 (s := strOf l) (by rw [strOf_size]; exact hl)
  rw [sa_data] at h
  exact h
/-- 'n, had := m[s]'. -/
theorem wl_lookT (hg : o.guard = none) (m x : Operand) (ho : o.op = Op.lookup 86 m x true) (mb n : Nat) (D : DataW Unit) (hm : a.eval m = .map (some mb)) (hown : w.ownsMap Tryz.prog 9 (plainElem (H := Unit) Tryz.prog 22) mb n D)
    (J : List Nat) (hx : a.eval x = .string (strOf J)) (hJ : J.length ≤ maxLen) (c : Nat) (b : Bool) (hb : Maps.has D (litL J) = b) (hc : D.atKey (litL J) (.lit (.int .u64 0)) = .lit (.int .u64 (c : Int)))
    (h : wpList Tryz.prog ops Q rest (a.put o.dst (.tuple #[.int .u64 (c : Int), .bool b])) w) : wpList Tryz.prog ops Q (o :: rest) a w :=
  wpList_lookup_own_ok_int w hg m x 86 ho 9 22 .u64 law_str Tryz.underlying86 Tryz.underlying22 (zero_u64 w) mb n D hm hown _ _ hx (key_lit hJ) fun c' hat _ => by
    rw [hc] at hat
    simp only [DataW.lit.injEq, Lit.int.injEq, true_and] at hat
    subst hat
    rw [hb]
    exact h
/-- 'm[s] = n'. -/
theorem wl_updT (hg : o.guard = none) (m x y : Operand) (ho : o.op = Op.mapUpdate 86 m x y) (mb n : Nat) (D : DataW Unit) (hm : a.eval m = .map (some mb)) (hown : w.ownsMap Tryz.prog 9 (plainElem (H := Unit) Tryz.prog 22) mb n D) (hn : n < 1000001)
    (J : List Nat) (hx : a.eval x = .string (strOf J)) (hJ : J.length ≤ maxLen) (c : Nat) (hy : a.eval y = .int .u64 (c : Int)) (hc : c < 1000001)
    (h : ∀ w', w'.ownsMap Tryz.prog 9 (plainElem (H := Unit) Tryz.prog 22) mb (n + 1) (D.put (litL J) (.lit (.int .u64 (c : Int)))) → w.grownBy w' (some mb) → w.heap.size = w'.heap.size → wpList Tryz.prog ops Q rest (a.put o.dst undef) w') : wpList Tryz.prog ops Q (o :: rest) a w :=
  wpList_mapUpdate_in w hg m x y 86 ho 9 22 law_str Tryz.underlying86 (plainElem Tryz.prog 22) mb n D hm hown (by unfold maxLen; omega) _ _ _ hx hy (key_lit hJ) _ [] (plainElem_int Tryz.underlying22 (by simp [Lit.wf, IntKind.min, IntKind.max, IntKind.signed, IntKind.bits]; omega)) fun w' h1 h2 => h w' h1 h2.grown (by
    obtain ⟨es, ck, es', ck', _, rfl⟩ := h2
    simp [ChangeMaps.setBlock])
end
theorem run_c3U {o : Oper} {a : Act} {x : Operand} {n : Nat} (ho : o.op = .convert 3 22 x) (hx : a.eval x = .int .i64 (n : Int)) (hn : n < 4611686018427387904) (w : World) : (execOp a.eval o).run Tryz.prog w = .ok (.value (.int .u64 (n : Int))) w := by
  unfold execOp
  simp only [ho, hx]
  simp [go_sem, IntKind.wrap_u64]
  omega
theorem run_mneq {o : Oper} {a : Act} {x : Operand} {u : TypeId} {p : Option Nat} {b : Bool} (ho : o.op = .binOp .neq 86 x (.const (.map none)) u) (hx : a.eval x = .map p) (hb : b = p.isSome) (w : World) : (execOp a.eval o).run Tryz.prog w = .ok (.value (.bool b)) w := by
  have e3 : a.eval (.const (.map none)) = .map none := rfl
  unfold execOp
  simp only [ho, hx, e3]
  rw [hb]
  have h := run_neq_map_nil w 86 _ _ p Tryz.underlying86
  simp [go_sem, h]
  try (cases p <;> rfl)
theorem ag_map : ∀ w, (isAgg 86).run Tryz.prog w = .ok false w := Tryz.isAgg86

set_option maxRecDepth 100000 in
set_option maxHeartbeats 1000000 in
theorem madeD {tb mb : Nat} {v : Value} {w : World} (h : Blk w tb 88 #[.map (some mb), v]) :
    Calls Tryz.prog 39 #[.pointer (some ⟨tb, 0, none⟩)] w fun e w' => e = .returned (.bool true) ∧ w' = w := by
  have c0 : Kept (w.cell? ⟨tb, 0, none⟩ = some (.map (some mb))) := ⟨h.cell rfl⟩
  clear h
  go_enter Tryz.func39, Tryz.ntmps39
  go_wp2_with (first | ((with_reducible refine wv_elem (d := 9) ?hd ?hw 86 ag_map (.tmp 8) ?ho (⟨tb, 0, none⟩) ?hx (.map (some mb)) ?hc ?_); (case hd => rfl); (case hw => kernel_rfl); (case ho => rfl); (case hx => kernel_rfl); (case hc => exact c0.out); simp only [Act.put, List.setIfInBounds_toArray, List.set_cons_succ, List.set_cons_zero]) | ((with_reducible refine wv_val (d := 10) ?hd ?hw (.bool true) ?hr ?_); (case hd => rfl); (case hw => kernel_rfl); (case hr => intro w; exact run_mneq (p := some mb) rfl (by kernel_rfl) rfl w); simp only [Act.put, List.setIfInBounds_toArray, List.set_cons_succ, List.set_cons_zero]))
  go_ret
  exact ⟨rfl, rfl⟩
/-- A table that no call made. -/
def Nobody (p : Option Addr) (w : World) : Prop := p = none ∨ ∃ b, p = some ⟨b, 0, none⟩ ∧ Blk w b 88 #[.map none, .slice none 0 0]
theorem Nobody.under {p : Option Addr} {w w' : World} (h : Nobody p w) (hb : Below w.heap.size w w') : Nobody p w' := by
  rcases h with h | ⟨b, h1, h2⟩
  · exact .inl h
  · exact .inr ⟨b, h1, h2.under hb⟩
set_option maxRecDepth 100000 in
set_option maxHeartbeats 1000000 in
theorem NewD {w : World} :
    Calls Tryz.prog 18 #[] w fun e w' => (∃ tb M, e = .returned (.pointer (some ⟨tb, 0, none⟩)) ∧ Tab tb w.heap.size [] M w') ∧ Below w.heap.size w w' := by
  have hmm := @run_makeMap Tryz.prog
  have fin : ∀ w2, w2 = (w.alloc (.map #[] 0)).alloc (.cells #[.map (some w.heap.size), .slice none 0 0] 88) → (∃ tb M, Ending.returned (.pointer (some ⟨w.heap.size + 1, 0, none⟩)) = .returned (.pointer (some ⟨tb, 0, none⟩)) ∧ Tab tb w.heap.size [] M w2) ∧ Below w.heap.size w w2 := fun w2 h => by
    subst h
    have hs : (w.alloc (.map #[] 0)).heap.size = w.heap.size + 1 := by simp
    refine ⟨⟨w.heap.size + 1, fun b => b = w.heap.size + 1 ∨ b = w.heap.size, rfl, ⟨⟨w.heap.size, .slice none 0 0, ?_, ⟨by omega, by omega, by omega⟩, ?_, vrow_nil _ _ _, ⟨by simp [blkOf], by simp [blkOf]⟩, fun b => by simp [blkOf]⟩, terms_nil⟩⟩, ?_⟩
    · rw [← hs]; exact blk_new _ _ _
    · exact (World.ownsMap_made w _ _ _).alloc _
    · exact ((Below.refl _ _).alloc (Nat.le_refl _) _).alloc (by rw [hs]; omega) _
  have KF : Kept _ := ⟨fin⟩
  clear fin
  go_enter Tryz.func18, Tryz.ntmps18
  go_wp2_with fail
  go_ret
  exact KF.out _ rfl
end Go.Proofs.YtjkdonjcngmjeaaGreatDoor.sh
/-
  (*Table).name: what a table has behind it, and what it answers.
-/
namespace Go.Proofs.YtjkdonjcngmjeaaGreatDoor.sh
open Go Go.RowKit Go.Maps
set_option linter.unusedVariables false
set_option linter.unusedSimpArgs false

theorem Turn.grown {M : Nat → Prop} {w w' : World} {r : Option Nat} (h : w.grownBy w' r) (hr : ∀ b, r = some b → M b) : Turn M w M w' :=
  ⟨⟨h.os, h.tape, h.output, h.size, fun k hk hM => h.block k hk (fun e => hM (hr k e.symm))⟩, fun b hb => .inl hb⟩
theorem Turn.swap {M M1 M' : Nat → Prop} {w w' : World} (h : Turn M w M1 w') (hM : ∀ b, M' b → M b ∨ w.heap.size ≤ b) : Turn M w M' w' := ⟨h.1, hM⟩
theorem kind_lt {t : TermL} (h : Formed t) : t.1 < 256 := by
  rcases h.2 with ⟨e, _⟩ | ⟨e, _⟩ | ⟨e, _⟩ | e | e <;> omega
/-- What a call of name, or of what stands on it, leaves. -/
def Puts (tb B : Nat) (ts : List TermL) (M : Nat → Prop) (w : World) (us : List TermL) (w' : World) : Prop := ∃ M', Tab tb B us M' w' ∧ Turn M w M' w'
theorem keys_len (ts : List TermL) : (strs (ts.map keyL)).length = ts.length := by rw [strs_len, List.length_map]
theorem one_new (J : List Nat) (w : World) : ValsV (.slice (some ⟨w.heap.size, 0, none⟩) 1 1) (w.alloc (.cells #[.string (strOf J)] 9)) [.string (strOf J)] := vrow_vals (vrow_lit (base := 0) w #[.string (strOf J)] 1 rfl (Nat.zero_le _) (by decide))
/-- The table with one term more, from its pieces. -/
theorem tab_more {tb B mb n : Nat} {p : Option Addr} {c : Nat} {V' : Value} {ts : List TermL} {t : TermL} {M : Nat → Prop} {w w1 w2 w3 w4 w5 : World} (hT : Terms ts) (ht : Formed t) (hF : Fits t.2) (hm : t ∉ ts) (q1 : Below w.heap.size w w1) (hA : TabAt tb B mb (.slice p n c) ts M w1) (hlt : ∀ b, M b → b < w.heap.size)
    (hr : VRow B 9 (strs (ts.map keyL) ++ [.string (strOf (keyL t))]) V' w2) (hg : (w1.alloc (.cells #[.string (strOf (keyL t))] 9)).grownBy w2 (blkOf (.slice p n c))) (hne : blkOf V' = blkOf (.slice p n c) ∨ blkOf V' = some (w1.alloc (.cells #[.string (strOf (keyL t))] 9)).heap.size)
    (hb : Blk w3 tb 88 #[.map (some mb), V']) (hp : Put w2 w3 tb) (ho : w4.ownsMap Tryz.prog 9 (plainElem (H := Unit) Tryz.prog 22) mb (ts.length + 1) ((numD ts).put (litL (keyL t)) (.lit (.int .u64 ((ts.length + 1 : Nat) : Int))))) (hg4 : w3.grownBy w4 (some mb)) (q5 : Below w4.heap.size w4 w5) : Puts tb B ts M w (putL ts t).1 w5 := by
  obtain ⟨a1, a2, a3, a4, a5, a6⟩ := hA
  have hs1 : (w1.alloc (.cells #[.string (strOf (keyL t))] 9)).heap.size = w1.heap.size + 1 := by simp
  have hM : ∀ b, blkOf (.slice p n c) = some b → M b := fun b h => (a6 b).2 (.inr (.inr h))
  have hmb : mb < w.heap.size := hlt mb ((a6 mb).2 (.inr (.inl rfl)))
  have htb : tb < w.heap.size := hlt tb ((a6 tb).2 (.inl rfl))
  have hsz := q1.size
  have n1 : blkOf V' ≠ some tb := fun h => by
    rcases hne with e | e
    · rw [e] at h; exact a5.1 h
    · rw [e, hs1] at h; simp at h; omega
  have n2 : blkOf V' ≠ some mb := fun h => by
    rcases hne with e | e
    · rw [e] at h; exact a5.2 h
    · rw [e, hs1] at h; simp at h; omega
  have hT3 : Turn M w M w4 := (((Turn.of_below q1).trans (Turn.of_below ((Below.refl _ _).alloc (Nat.le_refl _) _))).trans (Turn.grown hg hM)).trans ((Turn.grown hp.grown (fun b h => by cases h; exact (a6 _).2 (.inl rfl))).trans (Turn.grown hg4 (fun b h => by cases h; exact (a6 _).2 (.inr (.inl rfl)))))
  refine ⟨fun b => b = tb ∨ b = mb ∨ blkOf V' = some b, ⟨⟨mb, V', ?_, a2, ?_, ?_, ⟨n1, n2⟩, fun b => Iff.rfl⟩, putL_terms hT ht⟩, ?_⟩
  · exact Blk.under (blk_grown hg4 hb (by simpa using fun e => a2.2.2 e)) q5
  · rw [putL_new hF hm, numD_snoc, List.length_append]
    exact ho.kept (row := none) (grown_none q5) (by simp)
  · rw [putL_new hF hm, List.map_append, strs_append]
    exact ((hr.keeps hp.grown (.inr n1)).keeps hg4 (.inr n2)).under q5
  · refine (hT3.swap fun b h => ?_).trans (Turn.of_below q5)
    rcases h with h | h | h
    · exact .inl ((a6 b).2 (.inl h))
    · exact .inl ((a6 b).2 (.inr (.inl h)))
    · rcases hne with e | e
      · exact .inl ((a6 b).2 (.inr (.inr (e ▸ h))))
      · rw [e, hs1] at h; simp at h; exact .inr (by omega)

set_option maxRecDepth 100000 in
set_option maxHeartbeats 4000000 in
theorem nameD {tb B k : Nat} {ts : List TermL} {M : Nat → Prop} {ll : List (List Nat)} {V : Value} {w : World} (hT : Tab tb B ts M w) (hk : Formed (k, ll)) (hV : ValsV V w (strs ll)) (hl : ∀ l ∈ ll, l.length ≤ maxLen) (hn : ts.length < 1000000) :
    Calls Tryz.prog 37 #[.pointer (some ⟨tb, 0, none⟩), .int .u8 (k : Int), V] w fun e w' => e = .returned (.string (strOf (putL ts (k, ll)).2)) ∧ Puts tb B ts M w (putL ts (k, ll)).1 w' := by
  have hk8 : k < 256 := kind_lt hk
  obtain ⟨mb, v, hA⟩ := hT.at'
  have CM := madeD hA.1
  have CJ := JoinD hk8 hV (fun l h => ⟨hk.1 l h, hl l h⟩)
  obtain ⟨N, hN⟩ : ∃ N, N = (putL ts (k, ll)).2 := ⟨_, rfl⟩
  rw [← hN]
  obtain ⟨us, hus⟩ : ∃ us, us = (putL ts (k, ll)).1 := ⟨_, rfl⟩
  rw [← hus]
  have hV' := hV
  obtain ⟨pV, cV, rfl, _⟩ := vals_form hV' (strs_len ll)
  obtain ⟨nV, hnV⟩ : ∃ n, n = ll.length := ⟨_, rfl⟩
  rw [← hnV] at CJ ⊢
  clear hnV
  by_cases hF : Fits ll
  case neg =>
    rw [joinS_not hF, joinE_not hF] at CJ
    have hP := putL_not (ts := ts) (t := (k, ll)) hF
    rw [hP] at hN hus
    subst hN hus
    have KT : Kept _ := ⟨hT⟩
    have KCM : Kept _ := ⟨CM⟩
    have KCJ : Kept _ := ⟨CJ⟩
    clear hT CM CJ hA hP hV hV' hk hl hF
    go_enter Tryz.func37, Tryz.ntmps37
    go_wp2_with fail
    refine KCM.out.mono ?_
    rintro e w1 ⟨rfl, hw⟩
    obtain rfl := hw.symm
    go_wp2_with fail
    refine KCJ.out.mono ?_
    rintro e w1 ⟨rfl, q1⟩
    go_wp2_with fail
    go_ret
    exact ⟨rfl, M, KT.out.under q1, Turn.of_below q1⟩
  case pos =>
    rw [joinS_fits hF, joinE_fits hF] at CJ
    have hJL := join_lenB (k := k) hF
    have hG : GoodT (k, ll) := good_of hk hF
    have hhas := numD_has hT.terms hG
    have hgot := fun h => numD_at hT.terms (u := (k, ll)) h (.lit (.int .u64 0))
    have hlt : ∀ b, M b → b < w.heap.size := fun b h => (hT.range h).2
    have e1 : keyL (k, ll) = joinL k ll := rfl
    rw [e1] at hhas hgot
    obtain ⟨J, hJ⟩ : ∃ J, J = joinL k ll := ⟨_, rfl⟩
    rw [← hJ] at CJ hJL hhas hgot
    have KJ : Kept _ := ⟨hJ⟩
    have KJL : Kept _ := ⟨hJL⟩
    have KCM : Kept _ := ⟨CM⟩
    have KCJ : Kept _ := ⟨CJ⟩
    have KT : Kept _ := ⟨hT⟩
    have KLT : Kept _ := ⟨hlt⟩
    have KF : Kept _ := ⟨hF⟩
    have KK : Kept _ := ⟨hk⟩
    by_cases hm : (k, ll) ∈ ts
    case pos =>
      rw [decide_eq_true hm] at hhas
      have hgot' := hgot hm
      obtain ⟨c, hc⟩ : ∃ c, c = ts.idxOf (k, ll) + 1 := ⟨_, rfl⟩
      have hcl : c < 18446744073709551616 := by have := List.idxOf_lt_length_of_mem hm; omega
      have CN := fun w1 : World => nameOfD (w := w1) hcl
      have hP := putL_old (ts := ts) (t := (k, ll)) hF hm
      rw [hP] at hN hus
      rw [← hc] at hN hgot'
      have hN' : N = termN c := hN
      subst hus
      rw [← hN'] at CN
      have KH : Kept _ := ⟨hhas⟩
      have KG : Kept _ := ⟨hgot'⟩
      have KCN : Kept _ := ⟨CN⟩
      have KA : Kept _ := ⟨hA⟩
      clear hT CM CJ hA hP hV hV' hk hl hF hm hgot hgot' hhas CN hN hN' hc hJ hJL hlt hG e1 hcl
      go_enter Tryz.func37, Tryz.ntmps37
      go_wp2_with fail
      refine KCM.out.mono ?_
      rintro e w1 ⟨rfl, hw⟩
      obtain rfl := hw.symm
      go_wp2_with fail
      refine KCJ.out.mono ?_
      rintro e w1 ⟨rfl, q1⟩
      have A1 := KA.out.under q1
      have c0 : Kept (w1.cell? ⟨tb, 0, none⟩ = some (.map (some mb))) := ⟨A1.1.cell rfl⟩
      have KO : Kept _ := ⟨A1.2.2.1⟩
      clear A1
      go_wp2_with (first | ((with_reducible refine wv_elem (d := 26) ?hd ?hw 86 ag_map (.tmp 25) ?ho (⟨tb, 0, none⟩) ?hx (.map (some mb)) ?hc ?_); (case hd => rfl); (case hw => kernel_rfl); (case ho => rfl); (case hx => kernel_rfl); (case hc => exact c0.out); simp only [Act.put, List.setIfInBounds_toArray, List.set_cons_succ, List.set_cons_zero]) | (at_lookup; refine wl_lookT rfl (.tmp 26) (.tmp 27) rfl mb _ _ (by kernel_rfl) KO.out J (by kernel_rfl) KJL.out c true KH.out KG.out ?_; simp only [Act.put, List.setIfInBounds_toArray, List.set_cons_succ, List.set_cons_zero]))
      refine (KCN.out w1).mono ?_
      rintro e w2 ⟨rfl, q2⟩
      replace q2 := q1.trans (q2.mono q1.size)
      go_wp2_with fail
      go_ret
      exact ⟨rfl, M, KT.out.under q2, Turn.of_below q2⟩
    case neg =>
      rw [decide_eq_false hm] at hhas
      have hgot' := atKey_of_not_has hhas (.lit (.int .u64 0))
      obtain ⟨m, hmm⟩ : ∃ m, m = ts.length := ⟨_, rfl⟩
      obtain ⟨c, hc⟩ : ∃ c, c = m + 1 := ⟨_, rfl⟩
      have hcl : c < 18446744073709551616 := by omega
      have CN := fun w1 : World => nameOfD (w := w1) hcl
      have hP := putL_new (ts := ts) (t := (k, ll)) hF hm
      rw [hP] at hN
      have hN' : N = termN c := by rw [hN, hc, hmm]
      rw [← hN'] at CN
      have hA' := hA
      obtain ⟨_, _, _, hr0, _⟩ := hA'
      obtain ⟨p, cc, rfl, hcc⟩ := vals_form (vrow_vals hr0) (keys_len ts)
      rw [← hmm] at hA hcc
      have KH : Kept _ := ⟨hhas⟩
      have KG : Kept (_ = DataW.lit (.int .u64 ((0 : Nat) : Int))) := ⟨hgot'⟩
      have KCN : Kept _ := ⟨CN⟩
      have KA : Kept _ := ⟨hA⟩
      have KM : Kept _ := ⟨hm⟩
      have Kmm : Kept _ := ⟨hmm⟩
      have Kc : Kept _ := ⟨hc⟩
      have Kus : Kept _ := ⟨hus⟩
      have hc6 : c < 1000001 := by omega
      have hcI : c < 4611686018427387904 := by omega
      have hm6 : m < 1000001 := by omega
      have Kap : Kept ((strs (ts.map keyL)).length + ([Value.string (strOf J)] : List Value).length ≤ 1099511627776) := ⟨by rw [keys_len, ← hmm]; simp; omega⟩
      have Kap2 : Kept ((strs (ts.map keyL) ++ [Value.string (strOf J)]).length = c) := ⟨by rw [List.length_append, keys_len, ← hmm, hc]; rfl⟩
      have K1c : Kept (∀ x ∈ ([Value.string (strOf J)] : List Value), x.oneCell' = true) := ⟨fun x hx => by simp at hx; subst hx; rfl⟩
      have hB : Kept (B ≤ w.heap.size) := ⟨by have := hA.2.1.1; have := hlt tb ((hA.2.2.2.2.2 tb).2 (.inl rfl)); omega⟩
      clear hT CM CJ hA hP hV hV' hk hl hF hm hgot hgot' hhas CN hN hN' hJ hJL hlt hG e1 hr0 hus hmm hc
      go_enter Tryz.func37, Tryz.ntmps37
      go_wp2_with fail
      refine KCM.out.mono ?_
      rintro e w1 ⟨rfl, hw⟩
      obtain rfl := hw.symm
      go_wp2_with fail
      refine KCJ.out.mono ?_
      rintro e w1 ⟨rfl, q1⟩
      have A1 := KA.out.under q1
      have c0 : Kept (w1.cell? ⟨tb, 0, none⟩ = some (.map (some mb))) := ⟨A1.1.cell rfl⟩
      have c1 : Kept (w1.cell? ⟨tb, 1, none⟩ = some (.slice p m cc)) := ⟨A1.1.cell rfl⟩
      have KO : Kept _ := ⟨A1.2.2.1⟩
      have KR : Kept _ := ⟨A1.2.2.2.1⟩
      have KA1 : Kept _ := ⟨A1⟩
      have hB1 : Kept (B ≤ (w1.alloc (.cells #[.string (strOf J)] 9)).heap.size) := ⟨by have := hB.out; have := q1.size; simp; omega⟩
      clear A1
      go_wp2_with (first | ((with_reducible refine wv_elem (d := 26) ?hd ?hw 86 ag_map (.tmp 25) ?ho (⟨tb, 0, none⟩) ?hx (.map (some mb)) ?hc ?_); (case hd => rfl); (case hw => kernel_rfl); (case ho => rfl); (case hx => kernel_rfl); (case hc => exact c0.out); simp only [Act.put, List.setIfInBounds_toArray, List.set_cons_succ, List.set_cons_zero]) | (at_lookup; refine wl_lookT rfl (.tmp 26) (.tmp 27) rfl mb _ _ (by kernel_rfl) KO.out J (by kernel_rfl) KJL.out 0 false KH.out KG.out ?_; simp only [Act.put, List.setIfInBounds_toArray, List.set_cons_succ, List.set_cons_zero]) | ((with_reducible refine wv_elem (d := 37) ?hd ?hw 43 ag_strs (.tmp 36) ?ho (⟨tb, 1, none⟩) ?hx (.slice p m cc) ?hc ?_); (case hd => rfl); (case hw => kernel_rfl); (case ho => rfl); (case hx => kernel_rfl); (case hc => exact c1.out); simp only [Act.put, List.setIfInBounds_toArray, List.set_cons_succ, List.set_cons_zero]) | (refine wl_build1S rfl (.tmp 38) rfl J (by kernel_rfl) ?_; simp only [Act.put, List.setIfInBounds_toArray, List.set_cons_succ, List.set_cons_zero]) | ((refine wl_appV (by kernel_rfl) (.tmp 37) (.tmp 39) 43 9 (.string .empty) 16 rfl Tryz.underlying43 inf_str rfl (by decide) B _ [.string (strOf J)] _ _ (by kernel_rfl) (by kernel_rfl) (KR.out.alloc _) (one_new J w1) K1c.out Kap.out hB1.out ?_); intro v' w2 hr' hg' hne'; obtain ⟨p2, c2, rfl, hc2⟩ := vals_form (vrow_vals hr') Kap2.out; have hbT := KA1.out.1.alloc (.cells #[.string (strOf J)] 9); have hbT2 := blk_grown hg' hbT (fun e => KA1.out.2.2.2.2.1.1 e.symm); simp only [Act.put, List.setIfInBounds_toArray, List.set_cons_succ, List.set_cons_zero]) | ((refine wl_set1 rfl 43 sz_strs (.tmp 42) (.tmp 40) rfl tb 1 (.slice p2 c c2) (by kernel_rfl) (by kernel_rfl) rfl _ hbT2 (by simp) ?_); intro w3 hb3 hp3; have ho3 := ((KO.out.alloc (.cells #[.string (strOf J)] 9)).kept hg' (fun e => KA1.out.2.2.2.2.1.2 e.symm)).kept hp3.grown (fun e => KA1.out.2.1.2.2 (by simpa using e.symm)); simp only [Act.put, List.setIfInBounds_toArray, List.set_cons_succ, List.set_cons_zero]) | ((with_reducible refine wv_elem (d := 46) ?hd ?hw 43 ag_strs (.tmp 45) ?ho (⟨tb, 1, none⟩) ?hx (.slice p2 c c2) ?hc ?_); (case hd => rfl); (case hw => kernel_rfl); (case ho => rfl); (case hx => kernel_rfl); (case hc => exact (hb3.cell rfl)); simp only [Act.put, List.setIfInBounds_toArray, List.set_cons_succ, List.set_cons_zero]) | ((with_reducible refine wv_val (d := 48) ?hd ?hw (.int .u64 (c : Int)) ?hr ?_); (case hd => rfl); (case hw => kernel_rfl); (case hr => intro w; exact run_c3U rfl (by kernel_rfl) hcI w); simp only [Act.put, List.setIfInBounds_toArray, List.set_cons_succ, List.set_cons_zero]) | ((with_reducible refine wv_elem (d := 52) ?hd ?hw 86 ag_map (.tmp 51) ?ho (⟨tb, 0, none⟩) ?hx (.map (some mb)) ?hc ?_); (case hd => rfl); (case hw => kernel_rfl); (case ho => rfl); (case hx => kernel_rfl); (case hc => exact (hb3.cell rfl)); simp only [Act.put, List.setIfInBounds_toArray, List.set_cons_succ, List.set_cons_zero]) | (at_mapUpdate; (refine wl_updT rfl (.tmp 52) (.tmp 53) (.tmp 54) rfl mb _ _ (by kernel_rfl) ho3 (by rw [← Kmm.out]; exact hm6) J (by kernel_rfl) KJL.out c (by kernel_rfl) hc6 ?_); intro w4 ho4 hg4 hs4; simp only [Act.put, List.setIfInBounds_toArray, List.set_cons_succ, List.set_cons_zero]))
      refine (KCN.out w4).mono ?_
      rintro e w5 ⟨rfl, q5⟩
      go_wp2_with fail
      go_ret
      refine ⟨rfl, ?_⟩
      rw [Kus.out]
      refine tab_more KT.out.terms KK.out KF.out KM.out q1 KA1.out KLT.out (V' := .slice p2 c c2) (w2 := w2) (w3 := w3) (w4 := w4) ?_ ?_ ?_ hb3 hp3 ?_ hg4 q5
      · rw [show keyL (k, ll) = J from KJ.out.symm]; exact hr'
      · rw [show keyL (k, ll) = J from KJ.out.symm]; exact hg'
      · rw [show keyL (k, ll) = J from KJ.out.symm]; exact hne'
      · rw [show keyL (k, ll) = J from KJ.out.symm]
        rw [show c = ts.length + 1 by rw [Kc.out, Kmm.out]] at ho4
        exact ho4
end Go.Proofs.YtjkdonjcngmjeaaGreatDoor.sh
/-
  What a table answers: Atom, Pub, Hash, Seal, Parts; of a table that no call made, nothing.
-/
namespace Go.Proofs.YtjkdonjcngmjeaaGreatDoor.sh
open Go Go.RowKit Go.Maps
set_option linter.unusedVariables false
set_option linter.unusedSimpArgs false

section
variable {ops : Array Oper} {rest : List Oper} {o : Oper} {a : Act} {w : World} {Q : Exit → Act → World → Prop}
theorem run_bs3 (s0 s1 s2 : List Nat) (w : World) : (Instr.buildSlice 43 3 #[(0, .string (strOf s0)), (1, .string (strOf s1)), (2, .string (strOf s2))]).run Tryz.prog w = .ok (.slice (some ⟨w.heap.size, 0, none⟩) 3 3) (w.alloc (.cells #[.string (strOf s0), .string (strOf s1), .string (strOf s2)] 9)) := by kernel_rfl
/-- A slice of 3 texts is built. -/
theorem wl_bs3 (hw : Region.wanted o (yielded ops a.tmps) = true) (x0 x1 x2 : Operand) (ho : o.op = .buildSlice 43 3 #[(0, x0), (1, x1), (2, x2)]) (s0 s1 s2 : List Nat) (h0 : a.eval x0 = .string (strOf s0)) (h1 : a.eval x1 = .string (strOf s1)) (h2 : a.eval x2 = .string (strOf s2))
    (h : wpList Tryz.prog ops Q rest (a.put o.dst (.slice (some ⟨w.heap.size, 0, none⟩) 3 3)) (w.alloc (.cells #[.string (strOf s0), .string (strOf s1), .string (strOf s2)] 9))) : wpList Tryz.prog ops Q (o :: rest) a w :=
  BigFrame.wpList_want hw fun K hK => by
    have hrun : (execOp a.eval o).run Tryz.prog w = .ok (.value (.slice (some ⟨w.heap.size, 0, none⟩) 3 3)) (w.alloc (.cells #[.string (strOf s0), .string (strOf s1), .string (strOf s2)] 9)) := by
      unfold execOp
      simp only [ho]
      simp [h0, h1, h2, run_bs3]
    unfold Oper.wp
    rw [hrun]
    exact hK _ _ h
theorem new3 (s0 s1 s2 : List Nat) (w : World) : ValsV (.slice (some ⟨w.heap.size, 0, none⟩) 3 3) (w.alloc (.cells #[.string (strOf s0), .string (strOf s1), .string (strOf s2)] 9)) (strs [s0, s1, s2]) := vrow_vals (vrow_lit (base := 0) w #[.string (strOf s0), .string (strOf s1), .string (strOf s2)] 3 rfl (Nat.zero_le _) (by decide))

end
theorem Puts.from {tb B : Nat} {ts us : List TermL} {M : Nat → Prop} {w w1 w2 : World} (h : Puts tb B ts M w1 us w2) (q : Below w.heap.size w w1) : Puts tb B ts M w us w2 := by
  obtain ⟨M', h1, h2⟩ := h
  exact ⟨M', h1, (Turn.of_below q).trans h2⟩
set_option maxRecDepth 100000 in
set_option maxHeartbeats 1000000 in
theorem HashD {tb B : Nat} {ts : List TermL} {M : Nat → Prop} {ll : List (List Nat)} {V : Value} {w : World} (hT : Tab tb B ts M w) (hy : ∀ l ∈ ll, Bytes l) (hV : ValsV V w (strs ll)) (hl : ∀ l ∈ ll, l.length ≤ maxLen) (hn : ts.length < 1000000) :
    Calls Tryz.prog 22 #[.pointer (some ⟨tb, 0, none⟩), V] w fun e w' => e = .returned (.string (strOf (putL ts (4, ll)).2)) ∧ Puts tb B ts M w (putL ts (4, ll)).1 w' := by
  have CN := nameD (k := 4) hT ⟨hy, by simp⟩ hV hl hn
  obtain ⟨p, c, rfl, _⟩ := vals_form hV (strs_len ll)
  have KC : Kept _ := ⟨CN⟩
  obtain ⟨m, hm⟩ : ∃ m, m = ll.length := ⟨_, rfl⟩
  rw [← hm] at KC ⊢
  clear hT hV hl hn CN hm
  go_enter Tryz.func22, Tryz.ntmps22
  go_wp2_with fail
  refine KC.out.mono ?_
  rintro e w2 ⟨rfl, hP⟩
  go_wp2_with fail
  go_ret
  exact ⟨rfl, hP⟩
end Go.Proofs.YtjkdonjcngmjeaaGreatDoor.sh
/-
  (*Table).All, (*Table).Dh.
-/
namespace Go.Proofs.YtjkdonjcngmjeaaGreatDoor.sh
open Go Go.RowKit Go.Maps
set_option linter.unusedVariables false
set_option linter.unusedSimpArgs false

end Go.Proofs.YtjkdonjcngmjeaaGreatDoor.sh
/-
  Acts among the arguments; heavy; the reference's Name.
-/
namespace Go.Proofs.YtjkdonjcngmjeaaGreatDoor.sh
open Go Go.ChangeShapes Go.WideShapes Go.ChangeAt Go.RowKit
set_option linter.unusedVariables false
set_option linter.unusedSimpArgs false

/-- An act's cells. -/
def actA (x : ActL) : Array Value := #[.int .u8 (x.kind : Int), .int .u8 (x.a : Int), .int .u8 (x.b : Int), .int .u64 (x.n : Int), .string (strOf x.s), .bool x.raw]
/-- Acts that a slice holds. -/
def ActsV (v : Value) (w : World) (l : List ActL) : Prop := ∃ p c, v = .slice p l.length c ∧ l.length ≤ c ∧ (l ≠ [] → ∃ A, p = some A ∧ A.block < w.heap.size ∧ ∀ (j : Nat) (x : ActL), l[j]? = some x → ∀ (f : Nat) (u : Value), (actA x)[f]? = some u → w.cell? (A.add (j * 6 + f)) = some u)
theorem ActsV.under {v : Value} {w w' : World} {l : List ActL} (h : ActsV v w l) (hb : Below w.heap.size w w') : ActsV v w' l := by
  obtain ⟨p, c, rfl, hlc, hp⟩ := h
  refine ⟨p, c, rfl, hlc, fun hne => ?_⟩
  obtain ⟨A, rfl, hA, hc⟩ := hp hne
  exact ⟨A, rfl, Nat.lt_of_lt_of_le hA hb.size, fun j x hx f u hu => (hb.cell (by rw [add_block]; exact hA)).trans (hc j x hx f u hu)⟩
section
variable {ops : Array Oper} {rest : List Oper} {o : Oper} {a : Act} {w : World} {Q : Exit → Act → World → Prop} {d : Nat}
end
end Go.Proofs.YtjkdonjcngmjeaaGreatDoor.sh
/-
  What the document fixes of tables: alive of law 9.
-/
namespace Go.Proofs.YtjkdonjcngmjeaaGreatDoor.sh
open Go Go.RowKit
set_option linter.unusedVariables false
set_option linter.unusedSimpArgs false

def T1 : List TermL := [(1, [[97]])]
def T2 : List TermL := [(1, [[97]]), (1, [[98]])]
end Go.Proofs.YtjkdonjcngmjeaaGreatDoor.sh
/-
  TermNobody.
-/
namespace Go.Proofs.YtjkdonjcngmjeaaGreatDoor.sh
open Go Go.RowKit
set_option linter.unusedVariables false
set_option linter.unusedSimpArgs false

end Go.Proofs.YtjkdonjcngmjeaaGreatDoor.sh
/-
  What an act picks: made$1; calls of a closure.
-/
namespace Go.Proofs.YtjkdonjcngmjeaaGreatDoor.sh
open Go Go.RowKit
set_option linter.unusedVariables false
set_option linter.unusedSimpArgs false

section
variable {P : Program} {ops : Array Oper} {Q : Exit → Act → World → Prop} {a : Act} {w : World} {rest : List Oper} {o : Oper}
end
section
variable {P : Program} {h : List Oper} {A0 A : Act} {W0 : World} {S : Nat → Option (Value → World → Prop)} {sp O : List Nat} {E : List (Nat × Nat)} {i : Nat} {o : Oper}
end
end Go.Proofs.YtjkdonjcngmjeaaGreatDoor.sh
/-
  Regions that draw their order, whose last operations come in more than one order too: behind the head they are walked order by order.
-/
namespace Go.Proofs.YtjkdonjcngmjeaaGreatDoor
open Go Go.RowKit
set_option linter.unusedVariables false
set_option linter.unusedSimpArgs false
section
variable {P : Program} {Q : Exit → Act → World → Prop} {h t : List Oper}
end
end Go.Proofs.YtjkdonjcngmjeaaGreatDoor
namespace Go.Proofs.YtjkdonjcngmjeaaGreatDoor.sh
open Go Go.RowKit
set_option linter.unusedVariables false
set_option linter.unusedSimpArgs false
end Go.Proofs.YtjkdonjcngmjeaaGreatDoor.sh
/-
  What an act makes of a table.
-/
namespace Go.Proofs.YtjkdonjcngmjeaaGreatDoor.sh
open Go Go.RowKit
set_option linter.unusedVariables false
set_option linter.unusedSimpArgs false

section
variable {h : List Oper} {A0 A : Act} {W0 : World} {S : Nat → Option (Value → World → Prop)} {sp O : List Nat} {E : List (Nat × Nat)} {i : Nat} {o : Oper}
end
theorem HashE {tb B : Nat} {ts us : List TermL} {N : List Nat} {M : Nat → Prop} {ll : List (List Nat)} {V : Value} {w : World} (hT : Tab tb B ts M w) (hy : ∀ l ∈ ll, Bytes l) (hV : ValsV V w (strs ll)) (hl : ∀ l ∈ ll, l.length ≤ maxLen) (hn : ts.length < 1000000) (hp : putL ts (4, ll) = (us, N)) :
    Calls Tryz.prog 22 #[.pointer (some ⟨tb, 0, none⟩), V] w fun e w' => e = .returned (.string (strOf N)) ∧ Puts tb B ts M w us w' := by
  have h := HashD hT hy hV hl hn
  rw [hp] at h
  exact h
end Go.Proofs.YtjkdonjcngmjeaaGreatDoor.sh
/-
  The reference's Find; slices of terms made; TermRefused.
-/
namespace Go.Proofs.YtjkdonjcngmjeaaGreatDoor.sh
open Go Go.RowKit
set_option linter.unusedVariables false
set_option linter.unusedSimpArgs false

end Go.Proofs.YtjkdonjcngmjeaaGreatDoor.sh
