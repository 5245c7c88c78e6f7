/-
  Slices of digests that the call owns; pieces of bytes one behind the other.
-/
import Derived.Test.YtghinfdmkiaaiaaDoorSU
import Derived.Test.YtghinfdmkiaaiaaDoorSQ
import Derived.Test.YtghinfdmkiaaiaaDoorPart
namespace Go.Proofs.YtghinfdmkiaaiaaDoor.sh
open Go Go.ChangeShapes Go.WideShapes Go.ChangeAt Go.RowKit
set_option linter.unusedVariables false
set_option linter.unusedSimpArgs false

theorem wl_build1 {ops : Array Oper} {rest : List Oper} {o : Oper} {a : Act} {w : World} {Q : Exit → Act → World → Prop} (hg : o.guard = none) (t e : TypeId) (x : Operand) (ho : o.op = .buildSlice t 1 #[(0, x)]) (X : Array Value) (hx : a.eval x = .agg X) (hu : Tryd.prog.underlying t = some (.slice e)) (hsz : (Tryd.prog.info? e).map (·.size) = some X.size) (hz : ((Tryd.prog.info? e).bind (·.zero)).isSome = true) (hpos : 0 < X.size) (hsm : X.size ≤ 2 ^ 18)
    (h : wpList Tryd.prog ops Q rest (a.put o.dst (.slice (some ⟨w.heap.size, 0, none⟩) 1 1)) (w.alloc (.cells X e))) : wpList Tryd.prog ops Q (o :: rest) a w := by
  cases hie : Tryd.prog.info? e with
  | none => simp [hie] at hsz
  | some ie =>
    simp only [hie, Option.map_some, Option.some.injEq, Option.bind_some] at hsz hz
    obtain ⟨z, hzz⟩ := Option.isSome_iff_exists.1 hz
    have hf := Great.fill_whole (s := X.size) hpos [Value.agg X] ((Array.range (1 * X.size)).map (z.cells[· % z.cells.size]!)) (fun v hv => by simp at hv; subst hv; rfl) (by simp)
    refine wpList_buildSlice hg t e 1 #[(0, x)] ho _ ie z hu hie hzz (by rw [hsz]; omega) (by rw [hsz]; omega) ?_ h
    rw [hsz]
    simpa [hx, Value.cells] using hf

theorem dig_parts : (Tryd.prog.info? 32).map (fun i => (i.zero, i.size, i.bytes)) = some (some (.agg (dgs [])), 73, 104) := by rw [show dgs [] = digOf initD from rfl, ← init_val]; kernel_rfl
theorem dig_zero : ((Tryd.prog.info? 32).bind (·.zero)).isSome = true := by kernel_rfl
theorem sz_dig (w : World) : (sizeOf 32).run Tryd.prog w = .ok 73 w := by kernel_rfl
/-- A slice of digests that the call owns. -/
def DRow (base : Nat) (dl : List (List Nat)) : Value → World → Prop := fun v w => w.ownsRow base 32 73 v dl.length (dl.flatMap fun b => (dgs b).toList)
theorem drow_blk {base : Nat} {dl : List (List Nat)} {v : Value} {w : World} (h : DRow base dl v w) : v.ownBlock = blkOf v := by
  rcases h.2 with ⟨rfl, _⟩ | ⟨g, cap, cur, rfl, _⟩ <;> rfl
theorem DRow.keeps {base : Nat} {dl : List (List Nat)} {v : Value} {w w' : World} {row : Option Nat} (h : DRow base dl v w) (hg : w.grownBy w' row) (hne : blkOf v = none ∨ blkOf v ≠ row) : DRow base dl v w' := World.ownsRow.kept h hg (by rw [drow_blk h]; exact hne)
theorem DRow.range {base : Nat} {dl : List (List Nat)} {v : Value} {w : World} (h : DRow base dl v w) : ∀ b, blkOf v = some b → base ≤ b ∧ b < w.heap.size := fun b hb => h.lt b (by rw [drow_blk h]; exact hb)
theorem DRow.alloc {base : Nat} {dl : List (List Nat)} {v : Value} {w : World} (h : DRow base dl v w) (o : Obj) : DRow base dl v (w.alloc o) := World.ownsRow.alloc h o
theorem Row.alloc {base : Nat} {e : TypeId} {k : IntKind} {l : List Nat} {v : Value} {w : World} (h : Row base e k l v w) (o : Obj) : Row base e k l v (w.alloc o) := World.ownsRow.alloc h o
theorem grown_under {w w' : World} {row : Option Nat} (h : Below w.heap.size w w') : w.grownBy w' row := ⟨h.os, h.tape, h.output, h.size, fun k hk _ => h.block k hk⟩
theorem ne_none (v : Value) : blkOf v = none ∨ blkOf v ≠ none := by cases blkOf v <;> simp
theorem Row.under {base : Nat} {e : TypeId} {k : IntKind} {l : List Nat} {v : Value} {w w' : World} (h : Row base e k l v w) (hb : Below w.heap.size w w') : Row base e k l v w' := h.keeps (grown_under (row := none) hb) (ne_none v)
theorem DRow.under {base : Nat} {dl : List (List Nat)} {v : Value} {w w' : World} (h : DRow base dl v w) (hb : Below w.heap.size w w') : DRow base dl v w' := h.keeps (grown_under (row := none) hb) (ne_none v)
theorem ne_of_range {v : Value} {B g : Nat} (h : ∀ b, blkOf v = some b → B ≤ b) (hg : g < B) : blkOf v = none ∨ blkOf v ≠ some g := by
  cases hv : blkOf v with
  | none => exact .inl rfl
  | some b => exact .inr fun e => by cases e; have := h g hv; omega
theorem drow_nil (w : World) (base : Nat) : DRow base [] (.slice none 0 0) w := World.ownsRow_nil w base _ 73
theorem wl_appD {ops : Array Oper} {rest : List Oper} {o : Oper} {a : Act} {w : World} {Q : Exit → Act → World → Prop} (hgd : o.guard = none) (s x : Operand) (ho : o.op = .call { callee := .builtin .append, args := #[s, x], argTypes := #[37, 37] }) (base : Nat) (dl : List (List Nat)) (b : List Nat) (v : Value) (g : Nat) (hs : a.eval s = v) (hx : a.eval x = .slice (some ⟨g, 0, none⟩) 1 1) (hv : DRow base dl v w) (hg : Blk w g 32 (dgs b)) (hb : Bytes b) (hn : dl.length + 1 ≤ 2000) (hbase : base ≤ w.heap.size)
    (hk : ∀ v' w', DRow base (dl ++ [b]) v' w' → w.grownBy w' (blkOf v) → (blkOf v' = blkOf v ∨ blkOf v' = some w.heap.size) → wpList Tryd.prog ops Q rest (a.put o.dst v') w') : wpList Tryd.prog ops Q (o :: rest) a w :=
  wpList_plain hgd fun K hK => by
    obtain ⟨i0, hi', hz0, hz1, hz2⟩ := info_parts dig_parts
    have hbl := drow_blk hv
    obtain ⟨v', w', h4, h5, h6, _, h8⟩ := run_append_own_at (P := Tryd.prog) w base 37 o.type 32 i0 (.agg (dgs [])) 73 104 Tryd.underlying37 hi' hz0 hz1 hz2 (dgs_size nil_bytes) (by decide) v dl.length _ hv ⟨g, 0, none⟩ 1 1 (dgs b).toList (by simp [dgs_size hb]) (by
      intro j y hj
      rw [Array.getElem?_toList] at hj
      rw [addr_add, Nat.zero_add]
      exact hg.cell hj) (fun u hu => by
      have := Array.all_eq_true_iff_forall_mem.1 (dgs_one b) u (by simpa using hu)
      exact this) (by unfold maxLen; omega) (by omega) hbase
    have hrow : DRow base (dl ++ [b]) v' w' := by
      unfold DRow
      rw [List.length_append, List.flatMap_append]
      simpa using h5
    rw [drow_blk hrow, hbl] at h8
    unfold Oper.wp execOp
    simp only [ho, resolve, invoke, builtin, Sem.run_bind, Sem.run_pure, Result.andThen_ok, List.map_toArray, List.map_cons, List.map_nil, hs, hx, h4]
    exact hK _ _ (hk v' w' hrow (by rw [← hbl]; exact h6) h8)
theorem flat_at : ∀ (dl : List (List Nat)), (∀ b ∈ dl, Bytes b) → ∀ (i : Nat) (b : List Nat), dl[i]? = some b → ∀ (j : Nat) (v : Value), (dgs b)[j]? = some v → (dl.flatMap fun b => (dgs b).toList)[i * 73 + j]? = some v
  | [], _, i, b, h, _, _, _ => by simp at h
  | x :: r, hall, 0, b, h, j, v, hv => by
    simp at h
    subst h
    have hj : j < (dgs x).toList.length := by have := (Array.getElem?_eq_some_iff.1 hv).1; simpa using this
    rw [List.flatMap_cons, Nat.zero_mul, Nat.zero_add, List.getElem?_append_left hj, Array.getElem?_toList]
    exact hv
  | x :: r, hall, i + 1, b, h, j, v, hv => by
    have hx : (dgs x).toList.length = 73 := by rw [Array.length_toList]; exact dgs_size (hall x List.mem_cons_self)
    rw [List.flatMap_cons, List.getElem?_append_right (by omega), hx, show (i + 1) * 73 + j - 73 = i * 73 + j from by omega]
    exact flat_at r (fun b hb => hall b (List.mem_cons_of_mem _ hb)) i b (by simpa using h) j v hv
/-- Where a slice of digests lies. -/
theorem DRow.form {base : Nat} {dl : List (List Nat)} {v : Value} {w : World} (h : DRow base dl v w) (hn : 0 < dl.length) (hall : ∀ b ∈ dl, Bytes b) : ∃ g cap cur, v = .slice (some ⟨g, 0, none⟩) dl.length cap ∧ Blk w g 32 cur ∧ ∀ (i : Nat) (b : List Nat), dl[i]? = some b → ∀ (j : Nat) (v : Value), (dgs b)[j]? = some v → cur[i * 73 + j]? = some v := by
  obtain ⟨h1, h2⟩ := h
  rcases h2 with ⟨_, h0⟩ | ⟨g, cap, cur, rfl, hb, hg, hc, hm, hs, ht⟩
  · omega
  · refine ⟨g, cap, cur, rfl, hg, fun i b hi j v hv => ?_⟩
    have h3 := flat_at dl hall i b hi j v hv
    rw [← ht, List.getElem?_take] at h3
    split at h3
    · rwa [Array.getElem?_toList] at h3
    · cases h3
theorem IntsV.take {k : IntKind} {p : Option Addr} {l c m : Nat} {w : World} {bs : List Nat} (h : IntsV k (.slice p l c) w bs) (hm : m ≤ bs.length) : IntsV k (.slice p m c) w (bs.take m) := by
  obtain ⟨p', c', h1, h2, h3⟩ := h
  cases h1
  refine ⟨p, c, by rw [List.length_take, Nat.min_eq_left hm], by rw [List.length_take]; omega, fun hne => ?_⟩
  obtain ⟨A, rfl, e2, e3⟩ := h3 (by intro e; rw [e] at hne; simp at hne)
  refine ⟨A, rfl, e2, fun j x hx => ?_⟩
  rw [List.getElem?_take] at hx
  split at hx
  · exact e3 j x hx
  · cases hx
theorem run_addV {o : Oper} {a : Act} {x y : Operand} {i j : Nat} (ho : o.op = .binOp .add 3 x y 3) (hx : a.eval x = .int .i64 (i : Int)) (hy : a.eval y = .int .i64 (j : Int)) (hi : i + j < 4611686018427387904) (w : World) : (execOp a.eval o).run Tryd.prog w = .ok (.value (.int .i64 ((i + j : Nat) : Int))) w := by
  unfold execOp
  simp only [ho, hx, hy]
  simp [go_sem, IntKind.wrap_i64, wrap64]
  omega
/-- The address of an element of a slice of digests. -/
theorem run_idxD {o : Oper} {a : Act} {x y : Operand} {i l c g : Nat} (ho : o.op = .indexAddr 37 x y) (hx : a.eval x = .slice (some ⟨g, 0, none⟩) l c) (hy : a.eval y = .int .i64 (i : Int)) (hi : i < l) (w : World) : (execOp a.eval o).run Tryd.prog w = .ok (.value (.pointer (some ⟨g, i * 73, none⟩))) w := by
  have h1 : ((i : Int) < (l : Int)) := by omega
  unfold execOp
  simp only [ho, hx, hy, Instr.indexAt]
  simp [asIntOf, run_underlying Tryd.underlying37, h1, sz_dig, go_sem, Addr.add]
  rw [if_pos hi]
  have h2 : ¬ (¬ i = 0 ∧ i * 73 = 0) := by omega
  by_cases h0 : i = 0
  · simp [h0]
  · have : ¬ i * 73 = 0 := by omega
    simp [h0, this]

/-- The rows' lengths keep the form's own reach. -/
theorem bytes_cellsZ {H : Type} {enc : TypeId × Value → H} {W : World} {base : Nat} {sp : Nat → Bool} {held : Bool} {fuel : Nat} {cs : List Value} {x : DataW H × List MemPlace}
    (hf : DataW.trod enc Tryd.prog W base sp held fuel 22 cs = some x) (hz : ∀ n ∈ x.1.weights Tryd.prog 22, n ≤ reachBytes) {v : Value} {bs : List Nat} (hcs : cs = [v]) (hb : BytesV v W bs) : bs.length ≤ reachBytes := by
  obtain ⟨p, c, rfl, hlc, _⟩ := hb
  rcases Go.Deep.open_slice1 Tryd.underlying22 cu8 hf with ⟨h1, _⟩ | ⟨a, len, cap, m, n, V, D, Pl, h1, _, hl, hm, hmm, hx, hel⟩
  · rw [hcs] at h1
    simp at h1
    rw [h1.2.1]
    exact Nat.zero_le _
  · rw [hcs] at h1
    simp at h1
    obtain ⟨_, h2, _⟩ := h1
    have hby : Tryd.prog.bytesOf 5 = 1 := by kernel_rfl
    have := hz ((((List.range len).map D).length + ((List.range (m - len)).map fun j => D (len + j)).length) * Tryd.prog.bytesOf 5) (by rw [hx]; simp [DataW.weights, Tryd.underlying22])
    rw [hby, Nat.mul_one] at this
    simp at this
    omega
theorem weightsAll_mem {H : Type} {P : Program} {e : TypeId} : ∀ {l : List (DataW H)} {d : DataW H}, d ∈ l → ∀ n ∈ d.weights P e, n ∈ DataW.weightsAll P e l
  | x :: r, d, hd, n, hn => by
    simp only [DataW.weightsAll, List.mem_append]
    rcases List.mem_cons.1 hd with rfl | h
    · exact Or.inl hn
    · exact Or.inr (weightsAll_mem h n hn)
theorem rowsZ {H : Type} {enc : TypeId × Value → H} {W : World} {base : Nat} {sp : Nat → Bool} {held : Bool} {v : Value} {d : DataW H} {p : List MemPlace} {V : Nat → Value} {ll : List (List Nat)}
    (h : DataW.Trod enc Tryd.prog W base sp held 36 v d p) (hz : ∀ n ∈ d.weights Tryd.prog 36, n ≤ reachBytes) (hr : RowsV v W V ll) : ∀ (j : Nat) (bs : List Nat), ll[j]? = some bs → bs.length ≤ reachBytes := by
  intro j bs hj
  obtain ⟨p1, c1, rfl, hc, hcell, hrow⟩ := hr
  have hjl : j < ll.length := (List.getElem?_eq_some_iff.1 hj).1
  obtain ⟨A, rfl, _, hcell⟩ := hcell (by intro e; rw [e] at hjl; simp at hjl)
  obtain ⟨fuel, hf⟩ := h
  rcases Go.Deep.open_slice1 Tryd.underlying36 cbytes hf with ⟨hcs, hx⟩ | ⟨a, len, cap, m, n, V', D, Pl, hcs, _, hl, hm, hmm, hx, hel⟩
  · simp [Value.cells] at hcs
  · simp [Value.cells] at hcs
    obtain ⟨rfl, rfl, rfl⟩ := hcs
    have hlm : ll.length ≤ m := by rw [hmm]; split <;> omega
    obtain ⟨h1, h2⟩ := hel j (by omega)
    have e : V' j = V j := by rw [hcell j hjl] at h1; exact (Option.some.inj h1).symm
    rw [e] at h2
    refine bytes_cellsZ h2 (fun n hn => hz n ?_) rfl (hrow j bs hj).1
    rw [Prod.mk.injEq] at hx
    rw [hx.1]
    simp only [DataW.weights, Tryd.underlying36, List.mem_cons, List.mem_append]
    exact Or.inr (Or.inl (weightsAll_mem (List.mem_map.2 ⟨j, List.mem_range.2 hjl, rfl⟩) n hn))
end Go.Proofs.YtghinfdmkiaaiaaDoor.sh
