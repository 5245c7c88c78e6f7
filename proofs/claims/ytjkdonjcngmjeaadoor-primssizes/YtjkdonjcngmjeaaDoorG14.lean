/-
  General pieces, joined: SD SW.
-/
import Derived.Test.YtjkdonjcngmjeaaDoorG13
import Derived.Test.YtjkdonjcngmjeaaDoorG06
import Derived.Deep.MidRow
/-
  A digest in memory; bytes that come in; what bytes one by one make of a digest.
-/
namespace Go.Proofs.YtjkdonjcngmjeaaDoor.sh
open Go Go.RowKit
set_option linter.unusedVariables false
set_option linter.unusedSimpArgs false

/-- All below 256. -/
def Bytes (l : List Nat) : Prop := ∀ (i x : Nat), l[i]? = some x → x < 256
theorem Bytes.drop {l : List Nat} (h : Bytes l) (k : Nat) : Bytes (l.drop k) := fun i x hx => h (k + i) x (by rw [List.getElem?_drop] at hx; exact hx)
theorem Bytes.take {l : List Nat} (h : Bytes l) (k : Nat) : Bytes (l.take k) := fun i x hx => by
  rw [List.getElem?_take] at hx
  split at hx
  · exact h i x hx
  · cases hx
theorem Bytes.append {l m : List Nat} (h : Bytes l) (h' : Bytes m) : Bytes (l ++ m) := fun i x hx => by
  rw [List.getElem?_append] at hx
  split at hx
  · exact h i x hx
  · exact h' _ x hx
theorem Bytes.splice {l m : List Nat} (h : Bytes l) (h' : Bytes m) (o : Nat) : Bytes (splice l o m) := (h.take o).append (h'.append (h.drop _))
theorem bytes_zero (n : Nat) : Bytes (List.replicate n 0) := fun i x hx => by
  rw [List.getElem?_replicate] at hx
  split at hx <;> simp at hx
  omega

theorem splice_len {l m : List Nat} {o : Nat} (h : o + m.length ≤ l.length) : (splice l o m).length = l.length := length_splice l o m h
theorem splice_mid {α : Type} (X Y Z cs : List α) (i : Nat) (h : i + cs.length ≤ Y.length) : splice (X ++ (Y ++ Z)) (X.length + i) cs = X ++ (splice Y i cs ++ Z) := by
  unfold splice
  have e1 : (X ++ (Y ++ Z)).take (X.length + i) = X ++ Y.take i := by
    rw [List.take_append, List.take_of_length_le (by omega), Nat.add_sub_cancel_left, List.take_append_of_le_length (by omega)]
  have e2 : (X ++ (Y ++ Z)).drop (X.length + i + cs.length) = Y.drop (i + cs.length) ++ Z := by
    rw [show X.length + i + cs.length = X.length + (i + cs.length) from by omega, List.drop_append, List.drop_of_length_le (by omega), List.nil_append, Nat.add_sub_cancel_left, List.drop_append_of_le_length (by omega)]
  rw [e1, e2]
  simp
theorem splice_ints (k : IntKind) (l m : List Nat) (o : Nat) : splice (ints k l).toList o (ints k m).toList = (ints k (splice l o m)).toList := by
  simp [splice, ints, List.map_take, List.map_drop]
theorem splice_all {α : Type} (l m : List α) (h : m.length = l.length) : splice l 0 m = m := by
  unfold splice
  rw [List.take_zero, List.nil_append, Nat.zero_add, h, List.drop_length, List.append_nil]
theorem splice_nil {α : Type} (l : List α) (o : Nat) : splice l o [] = l := by
  unfold splice
  simp
theorem splice_cons (l : List Nat) (o x : Nat) (r : List Nat) (h : o < l.length) : splice (l.set o x) (o + 1) r = splice l o (x :: r) := by
  unfold splice
  have e1 : (l.set o x).take (o + 1) = l.take o ++ [x] := by
    rw [List.take_add_one, List.getElem?_set_self h, List.take_set_of_le (Nat.le_refl _)]
    rfl
  have e2 : (l.set o x).drop (o + 1 + r.length) = l.drop (o + (x :: r).length) := by
    rw [List.drop_set_of_lt (by omega), List.length_cons]
    congr 1
    omega
  rw [e1, e2]
  simp

/-- The cells of a digest. -/
def digA (G R : List Nat) (n : Nat) : Array Value := ((ints .u32 G).toList ++ ((ints .u8 R).toList ++ [Value.int .u64 (n : Int)])).toArray
theorem digA_size (G R : List Nat) (n : Nat) (hG : G.length = 8) (hR : R.length = 64) : (digA G R n).size = 73 := by simp [digA, ints, hG, hR]
theorem digA_n (G R : List Nat) (n : Nat) (hG : G.length = 8) (hR : R.length = 64) : (digA G R n)[72]? = some (.int .u64 (n : Int)) := by
  simp [digA, ints, List.getElem?_append, hG, hR]
theorem digA_setn (G R : List Nat) (n m : Nat) (hG : G.length = 8) (hR : R.length = 64) : (digA G R n).setIfInBounds 72 (.int .u64 (m : Int)) = digA G R m := by
  simp [digA, ints, List.set_append, hG, hR]
theorem digA_g (G R : List Nat) (n : Nat) (hG : G.length = 8) (j : Nat) (v : Value) (hv : (ints .u32 G)[j]? = some v) : (digA G R n)[0 + j]? = some v := by
  have hj : j < 8 := by have := (Array.getElem?_eq_some_iff.1 hv).1; rw [ints_size, hG] at this; exact this
  rw [Nat.zero_add, ← hv]
  simp [digA, List.getElem?_append, ints, hG, hj]
theorem digA_r (G R : List Nat) (n : Nat) (hG : G.length = 8) (hR : R.length = 64) (j : Nat) (v : Value) (hv : (ints .u8 R)[j]? = some v) : (digA G R n)[8 + j]? = some v := by
  have hj : j < 64 := by have := (Array.getElem?_eq_some_iff.1 hv).1; rw [ints_size, hR] at this; exact this
  rw [← hv]
  have h1 : ¬ (8 + j < 8) := by omega
  simp [digA, List.getElem?_append, ints, hG, hR, hj]
theorem digA_setg (G R G' : List Nat) (n : Nat) (hG : G.length = 8) (hG' : G'.length = 8) : (splice (digA G R n).toList 0 (ints .u32 G').toList).toArray = digA G' R n := by
  have h := splice_mid ([] : List Value) (ints .u32 G).toList ((ints .u8 R).toList ++ [.int .u64 (n : Int)]) (ints .u32 G').toList 0 (by simp [ints, hG, hG'])
  simp only [List.nil_append, List.length_nil, Nat.zero_add] at h
  unfold digA
  rw [h, splice_all _ _ (by simp [ints, hG, hG'])]
theorem digA_setr (G R cs : List Nat) (n o : Nat) (hG : G.length = 8) (h : o + cs.length ≤ R.length) : (splice (digA G R n).toList (8 + o) (ints .u8 cs).toList).toArray = digA G (splice R o cs) n := by
  have h := splice_mid (ints .u32 G).toList (ints .u8 R).toList [.int .u64 (n : Int)] (ints .u8 cs).toList o (by simpa [ints] using h)
  have e : (ints .u32 G).toList.length = 8 := by simp [ints, hG]
  rw [e] at h
  unfold digA
  rw [h, splice_ints]

/-- Bytes that a slice holds. -/
def BytesV (v : Value) (w : World) (bs : List Nat) : Prop := ∃ p c, v = .slice p bs.length c ∧ bs.length ≤ c ∧ (bs ≠ [] → ∃ A, p = some A ∧ A.block < w.heap.size ∧ ∀ (j x : Nat), bs[j]? = some x → w.cell? (A.add j) = some (.int .u8 (x : Int)))
theorem add_block (A : Addr) (k : Nat) : (A.add k).block = A.block := by unfold Addr.add; split <;> rfl
theorem add_add (A : Addr) (k j : Nat) : (A.add k).add j = A.add (k + j) := by
  unfold Addr.add
  by_cases hk : k = 0
  · subst hk; simp
  · by_cases hj : j = 0
    · subst hj; simp [hk]
    · simp [hk, hj]; omega
theorem BytesV.under {v : Value} {w w' : World} {bs : List Nat} (h : BytesV v w bs) (hb : Below w.heap.size w w') : BytesV v w' bs := by
  obtain ⟨p, c, h1, h2, h3⟩ := h
  refine ⟨p, c, h1, h2, fun hne => ?_⟩
  obtain ⟨A, e1, e2, e3⟩ := h3 hne
  exact ⟨A, e1, Nat.lt_of_lt_of_le e2 hb.size, fun j x hx => by rw [hb.cell (by rw [add_block]; exact e2)]; exact e3 j x hx⟩
theorem bytesV_slice {t : TypeId} {bs : List Nat} {cap : Nat} {v : Value} {w : World} (h : SliceAt t .u8 bs cap v w) (hc : bs.length ≤ cap) : BytesV v w bs := by
  obtain ⟨g, rfl, hb⟩ := h
  exact ⟨_, cap, rfl, hc, fun _ => ⟨_, rfl, hb.lt, fun j x hx => by rw [addr_add, Nat.zero_add]; exact hb.cell (ints_get hx)⟩⟩

section
variable {o : Oper} {a : Act} {x y : Operand}
theorem cut_run {p : Option Addr} {l c k : Nat} {t e : TypeId} (ho : o.op = .slice t x (some y) none none) (hx : a.eval x = .slice p l c) (hy : a.eval y = .int .i64 (k : Int)) (ht : Tryd.prog.underlying t = some (.slice e)) (sz : ∀ w, (sizeOf e).run Tryd.prog w = .ok 1 w) (hk : k ≤ l) (w : World) :
    (execOp a.eval o).run Tryd.prog w = .ok (.value (.slice (if c = k then p else p.map (·.add k)) (l - k) (c - k))) w := by
  have h1 : ((k : Int) ≤ (l : Int)) := by omega
  unfold execOp
  simp only [ho, hx, hy, Option.map_some, Option.map_none, Instr.sliceAt, Instr.slice, Instr.sliceBounds, Sem.run_bind, run_underlying ht, Result.andThen_ok]
  simp [Instr.sliceBound, asIntOf, sz, go_sem, h1]
  intro h
  omega
theorem arr_cut_run {g off n k : Nat} {t e : TypeId} (ho : o.op = .slice t x (some y) none none) (hx : a.eval x = .pointer (some ⟨g, off, none⟩)) (hy : a.eval y = .int .i64 (k : Int)) (ht : Tryd.prog.underlying t = some (.array n e)) (sz : ∀ w, (sizeOf e).run Tryd.prog w = .ok 1 w) (hk : k < n) (w : World) :
    (execOp a.eval o).run Tryd.prog w = .ok (.value (.slice (some ⟨g, off + k, none⟩) (n - k) (n - k))) w := by
  have h1 : ((k : Int) ≤ (n : Int)) := by omega
  have h2 : ¬ n = k := by omega
  unfold execOp
  simp only [ho, hx, hy, Option.map_some, Option.map_none, Instr.sliceAt, Instr.sliceBounds, Sem.run_bind, run_underlying ht, Result.andThen_ok]
  simp [Instr.sliceBound, Instr.sureAddr, asIntOf, sz, go_sem, h1, h2, addr_add]
  intro h
  omega
end
theorem BytesV.cut {p : Option Addr} {c k : Nat} {w : World} {bs : List Nat} (h : BytesV (.slice p bs.length c) w bs) (hk : k ≤ bs.length) : BytesV (.slice (if c = k then p else p.map (·.add k)) (bs.length - k) (c - k)) w (bs.drop k) := by
  obtain ⟨p', c', h1, h2, h3⟩ := h
  cases h1
  refine ⟨_, c - k, by rw [List.length_drop], by rw [List.length_drop]; omega, fun hne => ?_⟩
  have hlt : k < bs.length := by
    rcases Nat.lt_or_ge k bs.length with h | h
    · exact h
    · exact absurd (List.drop_of_length_le h) hne
  obtain ⟨A, rfl, e2, e3⟩ := h3 (by intro e; rw [e] at hlt; simp at hlt)
  rw [if_neg (by omega)]
  refine ⟨A.add k, rfl, by rw [add_block]; exact e2, fun j x hx => ?_⟩
  rw [add_add]
  rw [List.getElem?_drop] at hx
  exact e3 _ x hx

/-- What one byte more makes of a digest. -/
def feed1 (s : List Nat × List Nat × Nat) (x : Nat) : List Nat × List Nat × Nat :=
  if s.2.2 % 64 = 63 then (plusL s.1 (mixedL (plusL firstL s.1) (s.2.1.set 63 x)), List.replicate 64 0, s.2.2 + 1) else (s.1, s.2.1.set (s.2.2 % 64) x, s.2.2 + 1)
def feed (s : List Nat × List Nat × Nat) (bs : List Nat) : List Nat × List Nat × Nat := bs.foldl feed1 s
theorem feed_append (s : List Nat × List Nat × Nat) (a b : List Nat) : feed s (a ++ b) = feed (feed s a) b := by unfold feed; rw [List.foldl_append]
theorem feed_cons (s : List Nat × List Nat × Nat) (x : Nat) (r : List Nat) : feed s (x :: r) = feed (feed1 s x) r := rfl
theorem feed_nil (s : List Nat × List Nat × Nat) : feed s [] = s := rfl
theorem feed_part (G : List Nat) : ∀ (cs R : List Nat) (n : Nat), R.length = 64 → n % 64 + cs.length < 64 → feed (G, R, n) cs = (G, splice R (n % 64) cs, n + cs.length)
  | [], R, n, hR, h => by rw [feed_nil, splice_nil]; rfl
  | x :: r, R, n, hR, h => by
    simp only [List.length_cons] at h
    have h1 : ¬ n % 64 = 63 := by omega
    have e : feed1 (G, R, n) x = (G, R.set (n % 64) x, n + 1) := if_neg h1
    have h2 : (n + 1) % 64 = n % 64 + 1 := by omega
    rw [feed_cons, e, feed_part G r _ (n + 1) (by rw [List.length_set]; exact hR) (by omega), h2, splice_cons R _ x r (by omega)]
    simp only [List.length_cons, Prod.mk.injEq, true_and]
    omega
theorem feed_chunk (G : List Nat) : ∀ (cs R : List Nat) (n : Nat), R.length = 64 → n % 64 + cs.length = 64 → feed (G, R, n) cs = (plusL G (mixedL (plusL firstL G) (splice R (n % 64) cs)), List.replicate 64 0, n + cs.length)
  | [], R, n, hR, h => by simp only [List.length_nil] at h; omega
  | x :: r, R, n, hR, h => by
    simp only [List.length_cons] at h
    by_cases h1 : n % 64 = 63
    · have hr : r = [] := List.eq_nil_of_length_eq_zero (by omega)
      subst hr
      have e : feed1 (G, R, n) x = (plusL G (mixedL (plusL firstL G) (R.set 63 x)), List.replicate 64 0, n + 1) := if_pos h1
      have e2 := splice_cons R 63 x [] (by omega)
      rw [splice_nil] at e2
      rw [feed_cons, feed_nil, e, h1, ← e2]
      rfl
    · have e : feed1 (G, R, n) x = (G, R.set (n % 64) x, n + 1) := if_neg h1
      have h2 : (n + 1) % 64 = n % 64 + 1 := by omega
      rw [feed_cons, e, feed_chunk G r _ (n + 1) (by rw [List.length_set]; exact hR) (by omega), h2, splice_cons R _ x r (by omega)]
      simp only [List.length_cons, Prod.mk.injEq, true_and]
      omega
theorem firstL_len : firstL.length = 8 := by decide
theorem plusL_small (a b : List Nat) : Small (plusL a b) := by
  intro i x hx
  unfold plusL at hx
  rw [List.getElem?_zipWith] at hx
  cases h1 : a[i]? with
  | none => simp [h1] at hx
  | some p =>
    cases h2 : b[i]? with
    | none => simp [h1, h2] at hx
    | some q =>
      simp [h1, h2] at hx
      rw [← hx]
      exact Nat.mod_lt _ (by decide)
/-- A digest as it may be. -/
structure Good (s : List Nat × List Nat × Nat) : Prop where
  g : s.1.length = 8
  gs : Small s.1
  r : s.2.1.length = 64
  rb : Bytes s.2.1
theorem Good.feed1 {s : List Nat × List Nat × Nat} (h : Good s) (x : Nat) (hx : x < 256) : Good (feed1 s x) := by
  have hset : ∀ i, Bytes (s.2.1.set i x) := fun i j y hy => by
    by_cases hij : i = j
    · subst hij
      rw [List.getElem?_set_self'] at hy
      cases hq : s.2.1[i]? with
      | none => simp [hq] at hy
      | some z => simp [hq] at hy; omega
    · rw [List.getElem?_set_ne hij] at hy
      exact h.rb j y hy
  unfold sh.feed1
  split
  · have l1 : (plusL firstL s.1).length = 8 := by rw [plusL_len _ _ (by rw [firstL_len, h.g])]; exact firstL_len
    exact ⟨by rw [plusL_len _ _ (by rw [mixedL_len _ _ l1, h.g])]; exact h.g, plusL_small _ _, by simp, bytes_zero 64⟩
  · exact ⟨h.g, h.gs, by rw [List.length_set]; exact h.r, hset _⟩
theorem Good.feed {s : List Nat × List Nat × Nat} (h : Good s) : ∀ (bs : List Nat), Bytes bs → Good (feed s bs) := by
  intro bs
  induction bs generalizing s with
  | nil => intro _; exact h
  | cons x r ih =>
    intro hb
    rw [feed_cons]
    exact ih (h.feed1 x (hb 0 x rfl)) (fun i y hy => hb (i + 1) y hy)
theorem feed_n (s : List Nat × List Nat × Nat) : ∀ (bs : List Nat), (feed s bs).2.2 = s.2.2 + bs.length := by
  intro bs
  induction bs generalizing s with
  | nil => rfl
  | cons x r ih =>
    rw [feed_cons, ih]
    have : (feed1 s x).2.2 = s.2.2 + 1 := by unfold feed1; split <;> rfl
    rw [this, List.length_cons]
    omega

/-- A part of a block is written. -/
def setRange : Array Value → Nat → List Value → Array Value
  | A, _, [] => A
  | A, o, v :: r => setRange (A.setIfInBounds o v) (o + 1) r
theorem setRange_splice : ∀ (vs : List Value) (A : Array Value) (o : Nat), o + vs.length ≤ A.size → setRange A o vs = (splice A.toList o vs).toArray
  | [], A, o, h => by simp [setRange, splice]
  | v :: r, A, o, h => by
    simp only [List.length_cons] at h
    rw [setRange, setRange_splice r _ _ (by simp; omega)]
    congr 1
    unfold splice
    have hl : o < A.toList.length := by simp; omega
    have e1 : (A.setIfInBounds o v).toList.take (o + 1) = A.toList.take o ++ [v] := by
      rw [Array.toList_setIfInBounds, List.take_add_one, List.getElem?_set_self hl, List.take_set_of_le (Nat.le_refl _)]
      rfl
    have e2 : (A.setIfInBounds o v).toList.drop (o + 1 + r.length) = A.toList.drop (o + (v :: r).length) := by
      rw [Array.toList_setIfInBounds, List.drop_set_of_lt (by omega), List.length_cons]
      congr 1
      omega
    rw [e1, e2]
    simp
theorem setCells_heap {g : Nat} {t : TypeId} : ∀ (vs : List Value) (A : Array Value) (o : Nat) (w : World), w.heap[g]? = some (.cells A t (0, 0)) → (w.setCells g o vs).heap[g]? = some (.cells (setRange A o vs) t (0, 0))
  | [], _, _, _, h => h
  | v :: r, A, o, w, h => setCells_heap r _ _ _ (heap_setCell_same w g o A t v h)
theorem setCells_other {g k : Nat} (hne : k ≠ g) : ∀ (vs : List Value) (o : Nat) (w : World), (w.setCells g o vs).heap[k]? = w.heap[k]?
  | [], _, _ => rfl
  | v :: r, o, w => by rw [World.setCells, setCells_other hne r]; exact heap_setCell_other w ⟨g, o, none⟩ k v hne
theorem setCells_same (g : Nat) : ∀ (vs : List Value) (o : Nat) (w : World), (w.setCells g o vs).heap.size = w.heap.size ∧ (w.setCells g o vs).os = w.os ∧ (w.setCells g o vs).tape = w.tape ∧ (w.setCells g o vs).output = w.output
  | [], _, _ => ⟨rfl, rfl, rfl, rfl⟩
  | v :: r, o, w => by
    have h := setCells_same g r (o + 1) (w.setCell ⟨g, o, none⟩ v)
    rw [World.setCells]
    exact ⟨by rw [h.1]; simp, h.2.1, h.2.2.1, h.2.2.2⟩
theorem wl_setPart {ops : Array Oper} {rest : List Oper} {o : Oper} {a : Act} {w : World} {Q : Exit → Act → World → Prop} (hgd : o.guard = none) (ty : TypeId) (x y : Operand) (ho : o.op = .store ty x y) (g off : Nat) (es : Array Value) (hx : a.eval x = .pointer (some ⟨g, off, none⟩)) (hy : a.eval y = .agg es) {t : TypeId} (cur : Array Value) (hg : Blk w g t cur)
    (hfit : off + es.size ≤ cur.size) (hs : (Tryd.prog.info? ty).map (·.size) = some es.size) (h1 : es.all (·.oneCell') = true) (h : ∀ w', Blk w' g t (splice cur.toList off es.toList).toArray → Put w w' g → wpList Tryd.prog ops Q rest (a.put o.dst undef) w') : wpList Tryd.prog ops Q (o :: rest) a w := by
  have ht : w.there g off es.size := fun j hj => by
    have hlt : off + j < cur.size := by omega
    exact ⟨by rw [cell_row hg (Array.getElem?_eq_getElem hlt)]; rfl, frozen_of_row w g _ _ _ hg⟩
  refine wpList_store_mid hgd ty x y ho g off es hx hy ht hs h1 (h _ ?_ ?_)
  · have := setCells_heap es.toList cur off w hg
    rw [setRange_splice _ _ _ (by simpa using hfit)] at this
    exact this
  · have hs := setCells_same g es.toList off w
    exact ⟨⟨hs.2.1, hs.2.2.1, hs.2.2.2, by rw [hs.1]; exact Nat.le_refl _, fun k _ hk => setCells_other (fun e => hk (by rw [e])) _ _ _⟩, hs.1⟩
/-- A part of a block is read, in a region that draws its order. -/
theorem q_part {P : Program} {ops : Array Oper} {C : World → Prop} {Q : Act → Prop} {a : Act} {o : Oper} {rest : List Oper} (hw : Region.wanted o (yielded ops a.tmps) = true) (ty : TypeId) (x : Operand) (ho : o.op = .load ty x) (g off : Nat) (hx : a.eval x = .pointer (some ⟨g, off, none⟩)) (t : TypeId) (cs es : Array Value) (len : Nat) (e : TypeId)
    (hg : ∀ w, C w → Blk w g t cs) (hp : ∀ j v, es[j]? = some v → cs[off + j]? = some v) (hu : P.underlying ty = some (.array len e)) (hi : (P.info? ty).map (·.size) = some es.size) (h : wpQuiet P ops C Q rest (a.put o.dst (.agg es))) : wpQuiet P ops C Q (o :: rest) a := by
  refine BigFrame.wpQuiet_want hw fun K hK => ⟨.agg es, fun w hC => ?_, hK _ h⟩
  unfold Oper.quietAt execOp
  simp only [ho, hx, Instr.loadAt, Instr.sureAddr, Sem.run_bind, Sem.run_pure, Result.andThen_ok, run_loadVar_at w g off t ty cs es (0, 0) _ (hg w hC) hp hu rfl hi]
  exact ⟨rfl, rfl⟩
end Go.Proofs.YtjkdonjcngmjeaaDoor.sh
/-
  What bytes more make of a digest.
-/
namespace Go.Proofs.YtjkdonjcngmjeaaDoor.sh
open Go Go.RowKit
set_option linter.unusedVariables false
set_option linter.unusedSimpArgs false

def digOf (s : List Nat × List Nat × Nat) : Array Value := digA s.1 s.2.1 s.2.2
theorem dig_info : (Tryd.prog.info? 51).map (·.size) = some 73 := by kernel_rfl
theorem zeroDig : ∃ Z : Array Value, Z.size = 73 ∧ ∀ w, (zeroValue 51).run Tryd.prog w = .ok (.agg Z) w := ⟨#[.int .u32 0, .int .u32 0, .int .u32 0, .int .u32 0, .int .u32 0, .int .u32 0, .int .u32 0, .int .u32 0, .int .u8 0, .int .u8 0, .int .u8 0, .int .u8 0, .int .u8 0, .int .u8 0, .int .u8 0, .int .u8 0, .int .u8 0, .int .u8 0, .int .u8 0, .int .u8 0, .int .u8 0, .int .u8 0, .int .u8 0, .int .u8 0, .int .u8 0, .int .u8 0, .int .u8 0, .int .u8 0, .int .u8 0, .int .u8 0, .int .u8 0, .int .u8 0, .int .u8 0, .int .u8 0, .int .u8 0, .int .u8 0, .int .u8 0, .int .u8 0, .int .u8 0, .int .u8 0, .int .u8 0, .int .u8 0, .int .u8 0, .int .u8 0, .int .u8 0, .int .u8 0, .int .u8 0, .int .u8 0, .int .u8 0, .int .u8 0, .int .u8 0, .int .u8 0, .int .u8 0, .int .u8 0, .int .u8 0, .int .u8 0, .int .u8 0, .int .u8 0, .int .u8 0, .int .u8 0, .int .u8 0, .int .u8 0, .int .u8 0, .int .u8 0, .int .u8 0, .int .u8 0, .int .u8 0, .int .u8 0, .int .u8 0, .int .u8 0, .int .u8 0, .int .u8 0, .int .u64 0], by kernel_rfl, fun w => by kernel_rfl⟩
theorem zero64b : (#[.int .u8 0, .int .u8 0, .int .u8 0, .int .u8 0, .int .u8 0, .int .u8 0, .int .u8 0, .int .u8 0, .int .u8 0, .int .u8 0, .int .u8 0, .int .u8 0, .int .u8 0, .int .u8 0, .int .u8 0, .int .u8 0, .int .u8 0, .int .u8 0, .int .u8 0, .int .u8 0, .int .u8 0, .int .u8 0, .int .u8 0, .int .u8 0, .int .u8 0, .int .u8 0, .int .u8 0, .int .u8 0, .int .u8 0, .int .u8 0, .int .u8 0, .int .u8 0, .int .u8 0, .int .u8 0, .int .u8 0, .int .u8 0, .int .u8 0, .int .u8 0, .int .u8 0, .int .u8 0, .int .u8 0, .int .u8 0, .int .u8 0, .int .u8 0, .int .u8 0, .int .u8 0, .int .u8 0, .int .u8 0, .int .u8 0, .int .u8 0, .int .u8 0, .int .u8 0, .int .u8 0, .int .u8 0, .int .u8 0, .int .u8 0, .int .u8 0, .int .u8 0, .int .u8 0, .int .u8 0, .int .u8 0, .int .u8 0, .int .u8 0, .int .u8 0] : Array Value) = ints .u8 (List.replicate 64 0) := by kernel_rfl
theorem digA_one (G R : List Nat) (n : Nat) : (digA G R n).all (·.oneCell') = true := by simp [digA, ints, Value.oneCell']
theorem ints_toList (k : IntKind) (l : List Nat) : (ints k l).toList.length = l.length := by simp [ints]
theorem oneCell_ints (k : IntKind) (l : List Nat) : ∀ v ∈ (ints k l).toList, v.oneCell' = true := by
  intro v hv
  simp [ints] at hv
  obtain ⟨x, _, rfl⟩ := hv
  rfl
theorem cells_take {p : Option Addr} {l c k : Nat} {w : World} {bs : List Nat} (h : BytesV (.slice p l c) w bs) (hk : 0 < k) (hle : k ≤ bs.length) : ∃ A, p = some A ∧ ∀ j v, (ints .u8 (bs.take k)).toList[j]? = some v → w.cell? (A.add j) = some v := by
  obtain ⟨p', c', h1, h2, h3⟩ := h
  cases h1
  obtain ⟨A, rfl, _, e3⟩ := h3 (by intro e; rw [e] at hle; simp at hle; omega)
  refine ⟨A, rfl, fun j v hv => ?_⟩
  unfold ints at hv
  rw [List.toList_toArray, List.getElem?_map] at hv
  obtain ⟨x, hx, rfl⟩ := Option.map_eq_some_iff.1 hv
  rw [List.getElem?_take] at hx
  split at hx
  · exact e3 j x hx
  · cases hx

theorem build_run {o : Oper} {a : Act} {t : TypeId} {v : Value} (ho : o.op = .build t #[]) (hb : ∀ w, (Instr.build t #[]).run Tryd.prog w = .ok v w) (w : World) : (execOp a.eval o).run Tryd.prog w = .ok (.value v) w := by
  unfold execOp
  simp only [ho]
  simp [hb]
theorem put_refl (w : World) (g : Nat) : Put w w g := ⟨⟨rfl, rfl, rfl, Nat.le_refl _, fun _ _ _ => rfl⟩, rfl⟩
theorem wl_copyV {ops : Array Oper} {rest : List Oper} {o : Oper} {a : Act} {w : World} {Q : Exit → Act → World → Prop} (hgd : o.guard = none) (d s : Operand) (dT sT : TypeId) (ho : o.op = .call { callee := .builtin .copy, args := #[d, s], argTypes := #[dT, sT] }) (hu : Tryd.prog.underlying dT = some (.slice 5))
    (g off dLen dCap : Nat) (hd : a.eval d = .slice (some ⟨g, off, none⟩) dLen dCap) (p : Option Addr) (l c : Nat) (hs : a.eval s = .slice p l c) {t : TypeId} (cur : Array Value) (hg : Blk w g t cur) (bs : List Nat) (hv : BytesV (.slice p l c) w bs) (k : Nat) (hk : k = Nat.min l dLen) (hfit : off + k ≤ cur.size)
    (h : ∀ w', Blk w' g t (splice cur.toList off (ints .u8 (bs.take k)).toList).toArray → Put w w' g → wpList Tryd.prog ops Q rest (a.put o.dst (goInt k)) w') : wpList Tryd.prog ops Q (o :: rest) a w := by
  have hl : l = bs.length := by obtain ⟨_, _, h1, _⟩ := hv; cases h1; rfl
  have hle : k ≤ bs.length := by rw [hk, ← hl]; exact Nat.min_le_left _ _
  have elen : (ints .u8 (bs.take k)).toList.length = k := by rw [ints_toList, List.length_take]; omega
  by_cases h0 : k = 0
  · refine wpList_copy_nothing hgd d s dT sT ho 5 hu (by kernel_rfl) _ _ dLen dCap l c hd hs (by rw [← hk, h0]) ?_
    rw [h0] at h
    refine h w ?_ (put_refl w g)
    rw [List.take_zero]
    have e : (splice cur.toList off (ints .u8 []).toList).toArray = cur := by
      rw [show (ints .u8 []).toList = [] from rfl, splice_nil]
    rw [e]
    exact hg
  · obtain ⟨A, rfl, hA⟩ := cells_take hv (k := k) (by omega) hle
    refine wl_copy hgd d s dT sT ho 5 hu (by kernel_rfl) g off dLen dCap A l c hd hs cur hg (ints .u8 (bs.take k)).toList (by rw [elen, hk]) hA (by rw [elen]; exact hfit) (oneCell_ints _ _) ?_
    rw [elen]
    exact h

set_option maxHeartbeats 2000000 in
theorem Write_any (s : List Nat × List Nat × Nat) (bs : List Nat) (v : Value) (w : World) (hs : Good s) (hb : Bytes bs) (hn : s.2.2 + bs.length < 4611686018427387904) (hv : BytesV v w bs) (hr : RootsAt w) :
    Calls Tryd.prog 9 #[.agg (digOf s), v] w fun e w' => e = .returned (.agg (digOf (feed s bs))) ∧ Below w.heap.size w w' := by
  obtain ⟨p, c, rfl, hc, hp⟩ := hv
  obtain ⟨G0, R0, n⟩ := s
  have GG := hs.g
  have RR := hs.r
  simp only at GG RR hn
  obtain ⟨T, hT⟩ : ∃ T, T = feed (G0, R0, n) bs := ⟨_, rfl⟩
  rw [← hT]
  have ET : Kept _ := ⟨hT⟩
  have KB : Kept _ := ⟨hb⟩
  have KR : Kept _ := ⟨hr⟩
  have KG : Kept _ := ⟨hs⟩
  have KV : Kept (BytesV (.slice p bs.length c) w bs) := ⟨⟨p, c, rfl, hc, hp⟩⟩
  have h0 := hr.1
  obtain ⟨len, hlen⟩ : ∃ len, len = bs.length := ⟨_, rfl⟩
  have KL : Kept _ := ⟨hlen⟩
  rw [← hlen] at hn hc ⊢
  rw [show digOf (G0, R0, n) = digA G0 R0 n from rfl]
  obtain ⟨Z, hZ, hz⟩ := zeroDig
  have B0 : Blk ((w.alloc (.cells (digA G0 R0 n) 51)).alloc (.cells Z 51)) w.heap.size 51 (digA G0 R0 n) := (blk_new w _ _).alloc _
  have Q0 : Below w.heap.size w ((w.alloc (.cells (digA G0 R0 n) 51)).alloc (.cells Z 51)) := ((Below.refl _ _).alloc (Nat.le_refl _) _).alloc (by simp) _
  have B1 : Blk ((w.alloc (.cells (digA G0 R0 n) 51)).alloc (.cells Z 51)) (w.heap.size + 1) 51 Z := blk_top _ _ _ _ (by simp)
  clear hT hb hr hs hp hlen
  go_enter Tryd.func9, Tryd.ntmps9
  go_wp2_with (first | (refine wl_elem rfl 49 ag_u64 (.tmp 6) rfl w.heap.size 72 rfl (digA G0 R0 n) (.int .u64 (n : Int)) B0 (digA_n G0 R0 n GG RR) ?_) | (refine wl_elem rfl 49 ag_u64 (.tmp 10) rfl w.heap.size 72 rfl (digA G0 R0 n) (.int .u64 (n : Int)) B0 (digA_n G0 R0 n GG RR) ?_) | (refine wl_setElem rfl 49 sz_u64 (.tmp 16) (.tmp 15) rfl w.heap.size 72 .u64 ((n : Int) + (len : Int)) rfl rfl _ B0 (by rw [digA_size _ _ _ GG RR]; decide) ?_))
  intro w1 A1 P1
  obtain ⟨N, hN⟩ : ∃ N, N = n + len := ⟨_, rfl⟩
  have EN : Kept _ := ⟨hN⟩
  rw [show ((n : Int) + (len : Int)) = ((N : Nat) : Int) from by rw [hN]; rfl] at *
  rw [digA_setn _ _ _ _ GG RR] at A1
  have A2 := P1.blk B1 (by omega)
  have Q1 := Q0.trans (P1.below (Nat.le_refl _))
  clear B0 B1 Q0 P1 hz hN
  rw [show ((n : Int) % 64) = ((n % 64 : Nat) : Int) from by omega]
  go_wp2_with fail
  go_loopg [1, 5] len (fun k s1 s5 wr => ∃ (G R : List Nat) (m : Nat) (rem : List Nat) (q : Option Addr) (cq l : Nat), l ≤ k ∧ s1 = .slice q l cq ∧ s5 = .int .i64 ((m % 64 : Nat) : Int) ∧ Below w.heap.size w wr ∧ Blk wr w.heap.size 51 (digA G R N) ∧ Blk wr (w.heap.size + 1) 51 Z ∧ Kept (BytesV (.slice q l cq) w rem ∧ Good (G, R, m) ∧ Bytes rem ∧ feed (G, R, m) rem = T ∧ m + rem.length = N ∧ l = rem.length))
  case atStart => exact ⟨G0, R0, n, bs, p, c, len, Nat.le_refl _, rfl, rfl, Q1, A1, A2, ⟨by rw [KL.out]; exact KV.out, KG.out, KB.out, ET.out.symm, by rw [EN.out, KL.out], KL.out⟩⟩
  case round =>
    obtain ⟨G, R, m, rem, q, cq, l, hlk, rfl, rfl, HB, A0, AZ, KK⟩ := hrel
    clear A1 A2 Q1
    have GG := KK.out.2.1.g
    have RR := KK.out.2.1.r
    simp only at GG RR
    have VV : Kept (BytesV (.slice q l cq) wr rem) := ⟨KK.out.1.under HB⟩
    have lN : Kept (l < 4611686018427387904) := ⟨by have := KK.out.2.2.2.2.1; have := KK.out.2.2.2.2.2; have := EN.out; omega⟩
    obtain ⟨t, ht⟩ : ∃ t, t = m % 64 := ⟨_, rfl⟩
    rw [← ht]
    have ht64 : t < 64 := by omega
    have KT : Kept _ := ⟨ht⟩
    have hl62 := lN.out
    clear ht
    by_cases hge : 64 - t ≤ l
    · have hge' : ((64 : Int) - (t : Int) ≤ (l : Int)) := by omega
      obtain ⟨k, hk⟩ : ∃ k, k = 64 - t := ⟨_, rfl⟩
      have hmin : Kept (k = Nat.min l (64 - t)) := ⟨by rw [hk]; exact (Nat.min_eq_right hge).symm⟩
      have hfit : 8 + t + k ≤ (digA G R N).size := by rw [digA_size _ _ _ GG RR]; omega
      have hkl : k ≤ l := by omega
      have hk0 : 0 < k := by omega
      have hk64 : k ≤ 64 := by omega
      obtain ⟨cs, hcs⟩ : ∃ cs, cs = rem.take k := ⟨_, rfl⟩
      have hll : cs.length = k := by rw [hcs, List.length_take, ← KK.out.2.2.2.2.2]; omega
      obtain ⟨Rn, hRn⟩ : ∃ Rn, Rn = splice R t cs := ⟨_, rfl⟩
      have ER : Kept _ := ⟨hRn⟩
      have RRn : Rn.length = 64 := by rw [hRn, splice_len (by omega)]; exact RR
      have BRn : Bytes Rn := by rw [hRn, hcs]; exact KK.out.2.1.rb.splice (KK.out.2.2.1.take k) t
      have EC : Kept _ := ⟨hcs⟩
      have KBR : Kept _ := ⟨BRn⟩
      have EK : Kept _ := ⟨hk⟩
      have htk : t + k = 64 := by omega
      clear hRn hcs BRn hk
      go_wp2_with (first | (refine wl_at (d := 25) rfl rfl (.slice (some ⟨w.heap.size, 8 + t, none⟩) (64 - t) (64 - t)) ?h1 ?_; (case h1 => exact arr_cut_run rfl rfl rfl Tryd.underlying48 sz_u8 ht64 _); simp only [Act.put, List.setIfInBounds_toArray, List.set_cons_succ, List.set_cons_zero]) | (refine wl_copyV rfl (.tmp 25) (.tmp 26) 32 32 rfl Tryd.underlying32 w.heap.size (8 + t) (64 - t) (64 - t) rfl q l cq rfl _ A0 rem VV.out k hmin.out hfit ?_))
      intro w4 A4 P4
      rw [← EC.out, digA_setr _ _ _ _ _ GG (by rw [hll]; omega), ← ER.out] at A4
      have AZ4 := P4.blk AZ (by omega)
      have HB4 := HB.trans (P4.below (Nat.le_refl _))
      clear A0 AZ HB P4 hmin hfit
      obtain ⟨q', hq'⟩ : ∃ q', q' = (if cq = k then q else q.map (·.add k)) := ⟨_, rfl⟩
      have EQ : Kept _ := ⟨hq'⟩
      clear hq'
      go_wp2_with (first | (refine wl_at (d := 28) rfl rfl (.slice q' (l - k) (cq - k)) ?h2 ?_; (case h2 => rw [EQ.out]; exact cut_run rfl rfl rfl Tryd.underlying32 sz_u8 hkl _); simp only [Act.put, List.setIfInBounds_toArray, List.set_cons_succ, List.set_cons_zero]))
      obtain ⟨S1, hS1⟩ : ∃ S1, S1 = plusL firstL G := ⟨_, rfl⟩
      obtain ⟨S2, hS2⟩ : ∃ S2, S2 = mixedL S1 Rn := ⟨_, rfl⟩
      obtain ⟨G2, hG2⟩ : ∃ G2, G2 = plusL G S2 := ⟨_, rfl⟩
      have LS1 : S1.length = 8 := by rw [hS1, plusL_len _ _ (by rw [firstL_len, GG])]; exact firstL_len
      have SS1 : Small S1 := by rw [hS1]; exact plusL_small _ _
      have LS2 : S2.length = 8 := by rw [hS2]; exact mixedL_len S1 Rn LS1
      have LG2 : G2.length = 8 := by rw [hG2, plusL_len _ _ (by rw [LS2, GG])]; exact GG
      have BRn := KBR.out
      have C1 : Kept (∀ w', Below w4.heap.size w4 w' → Calls Tryd.prog 12 [].toArray w' fun e w2 => e = .returned (.agg (ints .u32 firstL)) ∧ Below w4.heap.size w4 w2) := ⟨fun w' hb => by exact (first_any w').mono fun e w2 hh => ⟨hh.1, hb.trans (hh.2.mono hb.size)⟩⟩
      have C2 : Kept (∀ w', Below w4.heap.size w4 w' → Calls Tryd.prog 11 [.agg (ints .u32 firstL), .agg (ints .u32 G)].toArray w' fun e w2 => e = .returned (.agg (ints .u32 S1)) ∧ Below w4.heap.size w4 w2) := ⟨fun w' hb => by rw [hS1]; exact (plus_any firstL G w' firstL_len GG).mono fun e w2 hh => ⟨hh.1, hb.trans (hh.2.mono hb.size)⟩⟩
      have C3 : Kept (∀ w', Below w4.heap.size w4 w' → Calls Tryd.prog 13 [.agg (ints .u32 S1), .agg (ints .u8 Rn)].toArray w' fun e w2 => e = .returned (.agg (ints .u32 S2)) ∧ Below w4.heap.size w4 w2) := ⟨fun w' hb => by rw [hS2]; exact (mixed_any S1 Rn w' LS1 SS1 RRn BRn ((KR.out.below h0 HB4).below (Nat.lt_of_lt_of_le h0 HB4.size) hb)).mono fun e w2 hh => ⟨hh.1, hb.trans (hh.2.mono hb.size)⟩⟩
      have C4 : Kept (∀ w', Below w4.heap.size w4 w' → Calls Tryd.prog 11 [.agg (ints .u32 G), .agg (ints .u32 S2)].toArray w' fun e w2 => e = .returned (.agg (ints .u32 G2)) ∧ Below w4.heap.size w4 w2) := ⟨fun w' hb => by rw [hG2]; exact (plus_any G S2 w' GG LS2).mono fun e w2 hh => ⟨hh.1, hb.trans (hh.2.mono hb.size)⟩⟩
      have EG : Kept (G2 = plusL G (mixedL (plusL firstL G) Rn)) := ⟨by rw [hG2, hS2, hS1]⟩
      clear hS1 hS2 hG2 SS1 BRn LS1 LS2
      refine wp_region_quiet_under (C := fun w' => Below w4.heap.size w4 w') 11 rfl (by kernel_rfl) (by kernel_rfl) (by kernel_rfl) (by kernel_rfl) (by kernel_rfl) (Below.drew (Below.refl _ _)) ?_
      dsimp only [List.take_succ_cons, List.take_zero]
      refine q_val (by kernel_rfl) (.pointer (some ⟨w.heap.size, 0, none⟩)) (fun w' => by kernel_rfl) ?_
      simp only [Act.put, List.setIfInBounds_toArray, List.set_cons_succ, List.set_cons_zero]
      refine q_part (by kernel_rfl) 47 (.tmp 29) rfl w.heap.size 0 (by kernel_rfl) 51 (digA G Rn N) (ints .u32 G) 8 45 (fun w' hb => Blk.under A4 hb) (digA_g G Rn N GG) Tryd.underlying47 (by rw [ints_size, GG]; exact u32_info) ?_
      simp only [Act.put, List.setIfInBounds_toArray, List.set_cons_succ, List.set_cons_zero]
      refine q_call (by kernel_rfl) 12 Tryd.f12 _ _ _ [] (.agg (ints .u32 firstL)) rfl (by kernel_rfl) Tryd.func12 (by kernel_rfl) rfl C1.out ?_
      simp only [Act.put, List.setIfInBounds_toArray, List.set_cons_succ, List.set_cons_zero]
      refine q_val (by kernel_rfl) (.pointer (some ⟨w.heap.size, 0, none⟩)) (fun w' => by kernel_rfl) ?_
      simp only [Act.put, List.setIfInBounds_toArray, List.set_cons_succ, List.set_cons_zero]
      refine q_part (by kernel_rfl) 47 (.tmp 32) rfl w.heap.size 0 (by kernel_rfl) 51 (digA G Rn N) (ints .u32 G) 8 45 (fun w' hb => Blk.under A4 hb) (digA_g G Rn N GG) Tryd.underlying47 (by rw [ints_size, GG]; exact u32_info) ?_
      simp only [Act.put, List.setIfInBounds_toArray, List.set_cons_succ, List.set_cons_zero]
      refine q_call (by kernel_rfl) 11 Tryd.f11 _ _ _ [.agg (ints .u32 firstL), .agg (ints .u32 G)] (.agg (ints .u32 S1)) rfl (by kernel_rfl) Tryd.func11 (by kernel_rfl) rfl C2.out ?_
      simp only [Act.put, List.setIfInBounds_toArray, List.set_cons_succ, List.set_cons_zero]
      refine q_val (by kernel_rfl) (.pointer (some ⟨w.heap.size, 8, none⟩)) (fun w' => by kernel_rfl) ?_
      simp only [Act.put, List.setIfInBounds_toArray, List.set_cons_succ, List.set_cons_zero]
      refine q_part (by kernel_rfl) 48 (.tmp 35) rfl w.heap.size 8 (by kernel_rfl) 51 (digA G Rn N) (ints .u8 Rn) 64 5 (fun w' hb => Blk.under A4 hb) (digA_r G Rn N GG RRn) Tryd.underlying48 (by rw [ints_size, RRn]; exact b64_info) ?_
      simp only [Act.put, List.setIfInBounds_toArray, List.set_cons_succ, List.set_cons_zero]
      refine q_call (by kernel_rfl) 13 Tryd.f13 _ _ _ [.agg (ints .u32 S1), .agg (ints .u8 Rn)] (.agg (ints .u32 S2)) rfl (by kernel_rfl) Tryd.func13 (by kernel_rfl) rfl C3.out ?_
      simp only [Act.put, List.setIfInBounds_toArray, List.set_cons_succ, List.set_cons_zero]
      refine q_call (by kernel_rfl) 11 Tryd.f11 _ _ _ [.agg (ints .u32 G), .agg (ints .u32 S2)] (.agg (ints .u32 G2)) rfl (by kernel_rfl) Tryd.func11 (by kernel_rfl) rfl C4.out ?_
      simp only [Act.put, List.setIfInBounds_toArray, List.set_cons_succ, List.set_cons_zero]
      refine q_val (by kernel_rfl) (.pointer (some ⟨w.heap.size, 0, none⟩)) (fun w' => by kernel_rfl) ?_
      simp only [Act.put, List.setIfInBounds_toArray, List.set_cons_succ, List.set_cons_zero]
      refine wpQuiet_nil ?_
      intro w5 hb5
      have A5 := A4.under hb5
      have AZ5 := AZ4.under hb5
      have HB5 := HB4.trans (hb5.mono HB4.size)
      clear A4 AZ4 HB4 hb5 C1 C2 C3 C4
      refine wl_setPart rfl 47 (.tmp 39) (.tmp 38) rfl w.heap.size 0 (ints .u32 G2) (by kernel_rfl) (by kernel_rfl) _ A5 (by rw [ints_size, LG2, digA_size _ _ _ GG RRn]; decide) (by rw [ints_size, LG2]; exact u32_info) (ints_one _ _) ?_
      intro w6 A6 P6
      rw [digA_setg _ _ _ _ GG LG2] at A6
      have AZ6 := P6.blk AZ5 (by omega)
      have HB6 := HB5.trans (P6.below (Nat.le_refl _))
      clear A5 AZ5 HB5 P6
      obtain ⟨Z64, hZ64⟩ : ∃ Z64, Z64 = List.replicate 64 0 := ⟨_, rfl⟩
      have LZ : Z64.length = 64 := by rw [hZ64]; simp
      have BZ : Kept (ints .u8 Z64 = #[.int .u8 0, .int .u8 0, .int .u8 0, .int .u8 0, .int .u8 0, .int .u8 0, .int .u8 0, .int .u8 0, .int .u8 0, .int .u8 0, .int .u8 0, .int .u8 0, .int .u8 0, .int .u8 0, .int .u8 0, .int .u8 0, .int .u8 0, .int .u8 0, .int .u8 0, .int .u8 0, .int .u8 0, .int .u8 0, .int .u8 0, .int .u8 0, .int .u8 0, .int .u8 0, .int .u8 0, .int .u8 0, .int .u8 0, .int .u8 0, .int .u8 0, .int .u8 0, .int .u8 0, .int .u8 0, .int .u8 0, .int .u8 0, .int .u8 0, .int .u8 0, .int .u8 0, .int .u8 0, .int .u8 0, .int .u8 0, .int .u8 0, .int .u8 0, .int .u8 0, .int .u8 0, .int .u8 0, .int .u8 0, .int .u8 0, .int .u8 0, .int .u8 0, .int .u8 0, .int .u8 0, .int .u8 0, .int .u8 0, .int .u8 0, .int .u8 0, .int .u8 0, .int .u8 0, .int .u8 0, .int .u8 0, .int .u8 0, .int .u8 0, .int .u8 0]) := ⟨by rw [hZ64]; exact zero64b.symm⟩
      have EZ : Kept _ := ⟨hZ64⟩
      clear hZ64
      have hbuild : ∀ w, (Instr.build 48 #[]).run Tryd.prog w = .ok (.agg (ints .u8 Z64)) w := fun w => by rw [BZ.out]; kernel_rfl
      have sz8 : (splice (digA G2 Rn N).toList (8 + 0) (ints .u8 Z64).toList).toArray = digA G2 Z64 N := by rw [digA_setr _ _ _ _ _ LG2 (by omega), splice_all _ _ (by omega)]
      have KZ : Kept _ := ⟨sz8⟩
      clear sz8
      go_wp2_with (first | (refine wl_at (d := 40) rfl rfl (.agg (ints .u8 Z64)) ?h3 ?_; (case h3 => exact build_run rfl hbuild _); simp only [Act.put, List.setIfInBounds_toArray, List.set_cons_succ, List.set_cons_zero]) | (refine wl_setPart rfl 48 (.tmp 41) (.tmp 40) rfl w.heap.size 8 (ints .u8 Z64) rfl rfl _ A6 (by rw [ints_size, LZ, digA_size _ _ _ LG2 RRn]; decide) (by rw [ints_size, LZ]; exact b64_info) (ints_one _ _) ?_))
      intro w7 A7 P7
      have A7 : Blk w7 w.heap.size 51 (digA G2 Z64 N) := by rw [← KZ.out]; exact A7
      have AZ7 := P7.blk AZ6 (by omega)
      have HB7 := HB6.trans (P7.below (Nat.le_refl _))
      clear A6 AZ6 HB6 P7 hbuild KZ BZ
      have hch := feed_chunk G cs R m RR (by have := KT.out; have := EK.out; omega)
      have KK2 : Kept (BytesV (.slice q' (l - k) (cq - k)) w (rem.drop k) ∧ Good (G2, Z64, m + k) ∧ Bytes (rem.drop k) ∧ feed (G2, Z64, m + k) (rem.drop k) = T ∧ m + k + (rem.drop k).length = N ∧ l - k = (rem.drop k).length) := ⟨by
        have hl := KK.out.2.2.2.2.2
        have hV := KK.out.1
        rw [hl] at hV
        have hcut := hV.cut (k := k) (by omega)
        rw [← EQ.out, ← hl] at hcut
        have e1 : feed (G, R, m) cs = (G2, Z64, m + k) := by rw [hch, hll, EG.out, EZ.out, ER.out, KT.out]
        refine ⟨hcut, ?_, KK.out.2.2.1.drop k, ?_, ?_, ?_⟩
        · rw [← e1]; exact KK.out.2.1.feed cs (by rw [EC.out]; exact KK.out.2.2.1.take k)
        · rw [← e1, ← feed_append, EC.out, List.take_append_drop]; exact KK.out.2.2.2.1
        · rw [List.length_drop]; have := KK.out.2.2.2.2.1; omega
        · rw [List.length_drop]; omega⟩
      have hmk : (m + k) % 64 = 0 := by have := KT.out; have := EK.out; omega
      clear hch
      go_wp2_with fail
      go_roundg (l - k)
      case measure => omega
      case rel => exact ⟨G2, Z64, m + k, rem.drop k, q', cq - k, l - k, Nat.le_refl _, rfl, by rw [hmk]; rfl, HB7, A7, AZ7, KK2⟩
    · have hge' : ¬ ((64 : Int) - (t : Int) ≤ (l : Int)) := by omega
      obtain ⟨Rn, hRn⟩ : ∃ Rn, Rn = splice R t (rem.take l) := ⟨_, rfl⟩
      have ER : Kept _ := ⟨hRn⟩
      have hll : (rem.take l).length = l := by rw [List.length_take, ← KK.out.2.2.2.2.2]; omega
      have RRn : Rn.length = 64 := by rw [hRn, splice_len (by omega)]; exact RR
      have ED : Kept (digA G Rn N = digOf T) := ⟨by
        have h1 := feed_part G rem R m RR (by have := KK.out.2.2.2.2.2; have := KT.out; omega)
        rw [KK.out.2.2.2.1] at h1
        rw [h1, hRn, KT.out]
        have := KK.out.2.2.2.2.2
        rw [this, List.take_length, ← KK.out.2.2.2.2.1]
        rfl⟩
      have hmin : Kept (l = Nat.min l (64 - t)) := ⟨(Nat.min_eq_left (show l ≤ 64 - t by omega)).symm⟩
      have hfit : 8 + t + l ≤ (digA G R N).size := by rw [digA_size _ _ _ GG RR]; omega
      clear hRn
      go_wp2_with (first | (refine wl_at (d := 44) rfl rfl (.slice (some ⟨w.heap.size, 8 + t, none⟩) (64 - t) (64 - t)) ?h1 ?_; (case h1 => exact arr_cut_run rfl rfl rfl Tryd.underlying48 sz_u8 ht64 _); simp only [Act.put, List.setIfInBounds_toArray, List.set_cons_succ, List.set_cons_zero]) | (refine wl_copyV rfl (.tmp 44) (.tmp 45) 32 32 rfl Tryd.underlying32 w.heap.size (8 + t) (64 - t) (64 - t) rfl q l cq rfl _ A0 rem VV.out l hmin.out hfit ?_))
      intro w2 A1 P2
      rw [digA_setr _ _ _ _ _ GG (by rw [hll]; omega), ← ER.out] at A1
      have AZ2 := P2.blk AZ (by omega)
      have HB2 := HB.trans (P2.below (Nat.le_refl _))
      rw [ED.out] at A1
      have sT : (digOf T).size = 73 := by rw [← ED.out]; exact digA_size _ _ _ GG RRn
      have oT : (digOf T).all (·.oneCell') = true := by rw [← ED.out]; exact digA_one _ _ _
      clear A0 AZ HB P2 hll
      go_wp2_with (first | (refine wl_loadS rfl 51 (.tmp 2) rfl _ rfl (digOf T) _ Tryd.underlying51 (by rw [sT]; exact dig_info) A1 ?_) | (refine wl_store rfl 51 (.tmp 4) (.tmp 47) rfl _ (digOf T) rfl rfl _ AZ2 (by rw [sT]; exact dig_info) (by rw [sT, hZ]) oT ?_))
      intro w3 A3 P3
      go_wp2
      exact bodyPost_ret (v := .agg (digOf T)) (results_cell_row Tryd.results9 _ _ _ 51 (digOf T) (0, 0) _ rfl A3 Tryd.underlying51 rfl (by rw [sT]; exact dig_info)) rfl ⟨rfl, HB2.trans (P3.below (by omega))⟩
end Go.Proofs.YtjkdonjcngmjeaaDoor.sh
