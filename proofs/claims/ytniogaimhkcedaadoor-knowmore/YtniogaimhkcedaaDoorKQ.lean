/-
  Rules at their first; what a place of a table asks.
-/
import Derived.Test.YtniogaimhkcedaaDoorKP
namespace Go.Proofs.YtniogaimhkcedaaDoor.sh
open Go Go.RowKit Go.Maps
set_option linter.unusedVariables false
set_option linter.unusedSimpArgs false

section
variable {ts : List TermL} {H : Nat → Prop} {i : Nat}
theorem closed_succ : (∀ j, j < i + 1 → ClosedAt ts H j) ↔ (∀ j, j < i → ClosedAt ts H j) ∧ ClosedAt ts H i :=
  ⟨fun h => ⟨fun j hj => h j (by omega), h i (Nat.lt_succ_self _)⟩, fun h j hj => by
    by_cases e : j = i
    · rw [e]; exact h.2
    · exact h.1 j (by omega)⟩
theorem closed_of {t : TermL} (ht : ts[i]? = some t) (h5 : t.1 ≠ 5) : ClosedAt ts H i ↔ (MakesK ts H t → H i) := by
  unfold ClosedAt
  rw [ht]
  constructor
  · intro h hm; exact h.1 t rfl hm
  · intro h
    refine ⟨fun u hu hm => ?_, fun k n a x hu => ?_⟩
    · cases hu; exact h hm
    · cases hu; exact absurd rfl h5
theorem closed_atom {ll : List (List Nat)} (ht : ts[i]? = some (1, ll)) : ClosedAt ts H i ↔ True := by
  rw [closed_of ht (by simp)]
  exact ⟨fun _ => trivial, fun _ h => absurd h makes_atom⟩
theorem closed_pub {x : List Nat} (ht : ts[i]? = some (2, [x])) : ClosedAt ts H i ↔ ((∀ p ∈ [x], KnownS ts H p) → H i) := by
  rw [closed_of ht (by simp), makes_pub]
  simp
theorem closed_hash {ll : List (List Nat)} (ht : ts[i]? = some (4, ll)) : ClosedAt ts H i ↔ ((∀ p ∈ ll, KnownS ts H p) → H i) := by
  rw [closed_of ht (by simp), makes_hash]
theorem closed_dh {x y : List Nat} (ht : ts[i]? = some (3, [x, y])) : ClosedAt ts H i ↔ (MakesK ts H (3, [x, y]) → H i) := closed_of ht (by simp)
theorem closed_box {k n a x : List Nat} (ht : ts[i]? = some (5, [k, n, a, x])) : ClosedAt ts H i ↔ (KnownS ts H k ∧ KnownS ts H a ∧ KnownS ts H x → H i) ∧ (H i → KnownS ts H k → ∀ j, Leaf ts x j → H j) := by
  unfold ClosedAt
  rw [ht]
  constructor
  · intro h
    exact ⟨fun hm => h.1 _ rfl (makes_box.2 hm), h.2 k n a x rfl⟩
  · intro h
    refine ⟨fun u hu hm => ?_, fun k' n' a' x' hu => ?_⟩
    · cases hu; exact h.1 (makes_box.1 hm)
    · cases hu; exact h.2
end
theorem weight_fits {ll : List (List Nat)} (h : Fits ll) : weight ll ≤ 29997 := Nat.le_trans (weight_items ll) h.2.2
theorem Sep.nones {B : Nat} {l : List Own} {w : World} (h : ∀ q ∈ l, q.1 = none ∧ q.2 w ∧ ∀ (w w' : World) (row : Option Nat), q.2 w → w.grownBy w' row → (q.1 = none ∨ q.1 ≠ row) → q.2 w') : Sep B l w where
  holds q hq := (h q hq).2.1
  range q hq b hb := by rw [(h q hq).1] at hb; cases hb
  apart i j q r hi hj hij b hb := by rw [(h q (List.mem_of_getElem? hi)).1] at hb; cases hb
  keeps q hq := (h q hq).2.2
theorem Sep.cons {B : Nat} {l : List Own} {w : World} (h : Sep B l w) (o : Option Nat) (P : World → Prop) (hP : P w) (hr : ∀ b, o = some b → B ≤ b ∧ b < w.heap.size) (hk : ∀ (w w' : World) (row : Option Nat), P w → w.grownBy w' row → (o = none ∨ o ≠ row) → P w') (ha : ∀ r ∈ l, ∀ b, o = some b → r.1 ≠ some b) : Sep B ((o, P) :: l) w where
  holds q hq := by
    rcases List.mem_cons.1 hq with rfl | hq
    · exact hP
    · exact h.holds q hq
  range q hq b hb := by
    rcases List.mem_cons.1 hq with rfl | hq
    · exact hr b hb
    · exact h.range q hq b hb
  apart i j q r hi hj hij b hb := by
    cases i with
    | zero =>
      cases j with
      | zero => exact absurd rfl hij
      | succ j =>
        simp at hi hj
        subst hi
        exact ha r (List.mem_of_getElem? hj) b hb
    | succ i =>
      cases j with
      | zero =>
        simp at hi hj
        subst hj
        exact fun e => ha q (List.mem_of_getElem? hi) b e hb
      | succ j =>
        simp at hi hj
        exact h.apart i j q r hi hj (by omega) b hb
  keeps q hq := by
    rcases List.mem_cons.1 hq with rfl | hq
    · exact hk
    · exact h.keeps q hq
def rs0 (N : Nat) : RS := ⟨[], [], List.replicate N [], List.replicate N false, []⟩
/-- The rules when they are made. -/
theorem ru_first {B N : Nat} {vw vk : Value} {w : World} (hB : B ≤ w.heap.size) (hw : VRow B 65 (List.replicate N (.slice none 0 0)) vw w) (hk : VRow B 4 (List.replicate N (.bool false)) vk w) (ha : ∀ b, blkOf vw = some b → blkOf vk ≠ some b) :
    RuV w.heap.size B (rs0 N) (SepM (ruC w.heap.size B (.slice none 0 0) vw vk (.slice none 0 0) [] (List.replicate N (.slice none 0 0)) (rs0 N))) (w.alloc (.cells #[.slice none 0 0, vw, vk, .slice none 0 0] 70)) := by
  have hsz : (w.alloc (.cells #[.slice none 0 0, vw, vk, .slice none 0 0] 70)).heap.size = w.heap.size + 1 := alloc_size _ _
  refine ⟨_, vw, vk, _, [], _, ⟨?_, by simp [rs0], rfl, rfl, fun k V g h => by simp at h, by rw [hsz]; omega⟩, rfl⟩
  have hz : ∀ q ∈ List.zipWith (fun v l => ((blkOf v, Row B 3 .i64 l v) : Own)) (List.replicate N (.slice none 0 0)) (rs0 N).ws, q = (none, Row B 3 .i64 [] (.slice none 0 0)) := fun q hq => by
    unfold rs0 at hq
    simp only [List.zipWith_replicate', List.mem_replicate] at hq
    exact hq.2
  have s0 : Sep B (List.zipWith (fun v l => ((blkOf v, Row B 3 .i64 l v) : Own)) (List.replicate N (.slice none 0 0)) (rs0 N).ws) (w.alloc (.cells #[.slice none 0 0, vw, vk, .slice none 0 0] 70)) := Sep.nones fun q hq => by
    rw [hz q hq]
    exact ⟨rfl, row_nil _ _ _ _, fun w w' row h hg hne => Row.keeps h hg (.inl rfl)⟩
  have n0 : ∀ r ∈ List.zipWith (fun v l => ((blkOf v, Row B 3 .i64 l v) : Own)) (List.replicate N (.slice none 0 0)) (rs0 N).ws, r.1 = none := fun r hr => by rw [hz r hr]
  have s1 := s0.cons (blkOf (.slice none 0 0)) (Row B 3 .i64 (rs0 N).fr (.slice none 0 0)) (row_nil _ _ _ _) (fun b hb => by cases hb) (fun w w' row h hg hne => Row.keeps h hg hne) (fun r hr b hb => by cases hb)
  have hkk : VRow B 4 ((rs0 N).kn.map Value.bool) vk (w.alloc (.cells #[.slice none 0 0, vw, vk, .slice none 0 0] 70)) := by
    unfold rs0
    rw [List.map_replicate]
    exact hk.alloc _
  have s2 := s1.cons (blkOf vk) (VRow B 4 ((rs0 N).kn.map Value.bool) vk) hkk (fun b hb => hkk.range b hb) (fun w w' row h hg hne => VRow.keeps h hg hne) (fun r hr b hb => by
    rcases List.mem_cons.1 hr with rfl | hr
    · simp [blkOf]
    · rw [n0 r hr]; simp)
  have s3 := s2.cons (blkOf vw) (VRow B 65 (List.replicate N (.slice none 0 0)) vw) (hw.alloc _) (fun b hb => (hw.alloc _).range b hb) (fun w w' row h hg hne => VRow.keeps h hg hne) (fun r hr b hb => by
    rcases List.mem_cons.1 hr with rfl | hr
    · exact ha b hb
    rcases List.mem_cons.1 hr with rfl | hr
    · simp [blkOf]
    · rw [n0 r hr]; simp)
  have s4 := s3.cons (blkOf (.slice none 0 0)) (fun w => w.ownsRow B 105 2 (.slice none 0 0) (rs0 N).cs.length (rcells (rs0 N).cs [])) (World.ownsRow_nil _ _ _ _) (fun b hb => by cases hb) (fun w w' row h hg hne => rowG_keeps h hg hne) (fun r hr b hb => by cases hb)
  exact s4.cons (some w.heap.size) (fun u => Blk u w.heap.size 70 #[.slice none 0 0, vw, vk, .slice none 0 0]) (blk_new _ _ _) (fun b hb => by cases hb; exact ⟨hB, by rw [hsz]; exact Nat.lt_succ_self _⟩) (fun w w' row h hg hne => blk_grown hg h (by simpa using hne)) (fun r hr b hb => by
    cases hb
    rcases List.mem_cons.1 hr with rfl | hr
    · simp [blkOf]
    rcases List.mem_cons.1 hr with rfl | hr
    · exact fun e => by have := (hw.range _ e).2; omega
    rcases List.mem_cons.1 hr with rfl | hr
    · exact fun e => by have := (hk.range _ e).2; omega
    rcases List.mem_cons.1 hr with rfl | hr
    · simp [blkOf]
    · rw [n0 r hr]; simp)
theorem run_mkV {t e : TypeId} {z : Value} {bytes : Nat} (ht : Tryd.prog.underlying t = some (.slice e)) (hi : (Tryd.prog.info? e).map (fun i => (i.zero, i.size, i.bytes)) = some (some z, 1, bytes)) (hz : z.cells = #[z]) (hb : bytes ≤ 64) (n : Nat) (hn : n < 1000001) (w : World) :
    (Instr.makeSlice t (.int .i64 (n : Int)) (.int .i64 (n : Int))).run Tryd.prog w = .ok (.slice (some ⟨w.heap.size, 0, none⟩) n n) (w.alloc (.cells (Array.replicate n z) e)) := by
  cases hq : Tryd.prog.info? e with
  | none => rw [hq] at hi; cases hi
  | some i =>
    rw [hq] at hi
    simp only [Option.map_some, Option.some.injEq, Prod.mk.injEq] at hi
    obtain ⟨h1, h2, h3⟩ := hi
    have hbn : (i.bytes : Int) * (n : Int) ≤ 281474976710656 := by
      rw [h3, ← Int.natCast_mul]
      have : bytes * n ≤ 64 * 1000001 := Nat.mul_le_mul hb (by omega)
      omega
    have h := run_make (P := Tryd.prog) w t e i z ht hq h1 .i64 .i64 (n : Int) (n : Int) (by omega) (Int.le_refl _) hbn (by omega)
    have hm : madeCells z.cells n = Array.replicate n z := by
      rw [hz]
      apply Array.ext_getElem?
      intro j
      by_cases hj : j < n
      · simp [madeCells, hj, Nat.mod_one]
      · rw [Array.getElem?_eq_none (by rw [size_madeCells]; omega), Array.getElem?_eq_none (by simp; omega)]
    rw [h2, Nat.mul_one, Int.toNat_natCast, hm] at h
    exact h
theorem vrow_mkV {base n : Nat} {e : TypeId} {z : Value} (w : World) (hb : base ≤ w.heap.size) (hn : n < 1000001) : VRow base e (List.replicate n z) (.slice (some ⟨w.heap.size, 0, none⟩) n n) (w.alloc (.cells (Array.replicate n z) e)) := by
  have h := vrow_lit (base := base) (e := e) w (Array.replicate n z) n (by simp) hb (by unfold maxLen; omega)
  rwa [Array.toList_replicate] at h
section
variable {h : List Oper} {A0 A : Act} {W0 : World} {S : Nat → Option (Value → World → Prop)} {sp O : List Nat} {i : Nat} {o : Oper}
/-- make, in a region that draws its order. -/
theorem ow_mkV (hA : Full h A0 A S sp) (hw : Wants h A0 A S O [] W0.heap.size i o) (d s n : Nat) {t e : TypeId} {z : Value} {bytes : Nat} (hd : o.dst = some d) (ho : o.op = .makeSlice t (.tmp s) (.tmp s)) (hws : waitsFor h o s = true) (hs : A.tmps[s]? = some (.int .i64 (n : Int))) (hss : sp.contains s = false) (ht : Tryd.prog.underlying t = some (.slice e)) (hi : (Tryd.prog.info? e).map (fun i => (i.zero, i.size, i.bytes)) = some (some z, 1, bytes)) (hz : z.cells = #[z]) (hby : bytes ≤ 64) (hn : n < 1000001)
    (hp : S d = some (VRow W0.heap.size e (List.replicate n z))) : OwnOk Tryd.prog h A0 W0 (relR A S) O [] i o :=
  ow_run hw d hd fun a w hF hB hgot => by
    have ex := gotE_det hA hgot hws hss rfl hs
    refine ⟨_, _, none, ?_, rel_spec _ hp (vrow_mkV w hB.size hn), grown_none ((Below.refl _ _).alloc (Nat.le_refl _) _), fun b hb => (by cases hb), fun _ b hb => .inl ?_⟩
    · unfold execOp
      simp only [ho, ex]
      simp [run_mkV ht hi hz hby n hn w]
    · cases hb
      exact ⟨Nat.le_refl _, by rw [alloc_size]; exact Nat.lt_succ_self _⟩
end
theorem run_buildRO {o : Oper} {a : Act} {x y : Operand} {p q : Option Addr} {n c m d : Nat} (ho : o.op = .build 70 #[(1, x), (2, y)]) (hx : a.eval x = .slice p n c) (hy : a.eval y = .slice q m d) (w : World) : (execOp a.eval o).run Tryd.prog w = .ok (.value (.agg #[.slice none 0 0, .slice p n c, .slice q m d, .slice none 0 0])) w := by
  have hb : (Instr.build 70 #[(1, .slice p n c), (2, .slice q m d)]).run Tryd.prog w = .ok (.agg #[.slice none 0 0, .slice p n c, .slice q m d, .slice none 0 0]) w := by kernel_rfl
  unfold execOp
  simp only [ho]
  simp [hx, hy, hb]
end Go.Proofs.YtniogaimhkcedaaDoor.sh
