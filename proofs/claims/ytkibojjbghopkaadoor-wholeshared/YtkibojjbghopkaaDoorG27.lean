/-
  General pieces, joined: SQ UA UB UC.
-/
import Derived.Test.YtkibojjbghopkaaDoorG26
import Derived.ProofKit
import Derived.LaidMore
import Derived.OpenShut
import Derived.Stop.Joined
import Derived.ChangeOld
import Derived.Deep.Slices
import Derived.Test.YtkibojjbghopkaaDoorG09
/-
  Arguments that are slices of bytes, and slices of those; the program's table of words, as it is laid.
-/
namespace Go.Proofs.YtkibojjbghopkaaDoor.sh
open Go Go.ChangeShapes Go.WideShapes Go.ChangeAt Go.RowKit
set_option linter.unusedVariables false
set_option linter.unusedSimpArgs false

theorem own : ownKnob Tryd.prog.godebug = none := by kernel_rfl
theorem laidOut : laidOutB Tryd.prog = true := by kernel_rfl
theorem cu8 : Tryd.prog.cellsOf 5 = 1 := by kernel_rfl
theorem cu32 : Tryd.prog.cellsOf 45 = 1 := by kernel_rfl
theorem cbytes : Tryd.prog.cellsOf 23 = 1 := by kernel_rfl
theorem c64 : Tryd.prog.cellsOf 123 = 64 := by kernel_rfl

/-- The number of a byte's value. -/
theorem byte_cell {H : Type} {enc : TypeId × Value → H} {W : World} {base : Nat} {sp : Nat → Bool} {held : Bool} {fuel : Nat} {v : Value} {x : DataW H × List MemPlace}
    (hf : DataW.trod enc Tryd.prog W base sp held fuel 5 [v] = some x) : ∃ n : Nat, v = .int .u8 (n : Int) ∧ n < 256 := by
  obtain ⟨k, e1, e2, hwf⟩ := DataW.trod_int Tryd.underlying5 hf
  have hb := bounds_u8 hwf
  obtain ⟨n, rfl⟩ := Int.eq_ofNat_of_zero_le hb.1
  exact ⟨n, by simpa using e1, by omega⟩
theorem bytes_cells {H : Type} {enc : TypeId × Value → H} {W : World} {base : Nat} {sp : Nat → Bool} {held : Bool} {fuel : Nat} {cs : List Value} {x : DataW H × List MemPlace}
    (hf : DataW.trod enc Tryd.prog W base sp held fuel 23 cs = some x) : ∃ v bs, cs = [v] ∧ BytesV v W bs ∧ Bytes bs ∧ bs.length ≤ maxLen := by
  rcases Go.Deep.open_slice1 Tryd.underlying23 cu8 hf with ⟨hcs, hx⟩ | ⟨a, len, cap, m, n, V, D, Pl, hcs, _, hl, hm, hmm, hx, hel⟩
  · exact ⟨_, [], hcs, ⟨none, 0, rfl, Nat.le_refl _, fun h => absurd rfl h⟩, fun i x hx => by simp at hx, Nat.zero_le _⟩
  · have hlm : len ≤ m := by rw [hmm]; split <;> omega
    have key : ∀ i, ∃ n : Nat, i < len → V i = .int .u8 (n : Int) ∧ n < 256 := fun i => by
      by_cases hi : i < len
      · obtain ⟨n, h1, h2⟩ := byte_cell (hel i (by omega)).2
        exact ⟨n, fun _ => ⟨h1, h2⟩⟩
      · exact ⟨0, fun h => absurd h hi⟩
    let f : Nat → Nat := fun i => Classical.choose (key i)
    have hk : ∀ i, i < len → V i = .int .u8 (f i : Int) ∧ f i < 256 := fun i => Classical.choose_spec (key i)
    have hget : ∀ (j x : Nat), ((List.range len).map f)[j]? = some x → j < len ∧ x = f j := fun j x hx => by
      rw [List.getElem?_map] at hx
      obtain ⟨y, hy, rfl⟩ := Option.map_eq_some_iff.1 hx
      obtain ⟨h1, h2⟩ := List.getElem?_eq_some_iff.1 hy
      simp at h1 h2
      exact ⟨h1, by rw [h2]⟩
    refine ⟨_, (List.range len).map f, hcs, ⟨some a, cap, by simp, by simpa using hl, fun hne => ⟨a, rfl, ?_, fun j x hx => ?_⟩⟩, fun j x hx => ?_, by simp; omega⟩
    · have h0 : 0 < len := by
        rcases Nat.eq_zero_or_pos len with h | h
        · subst h; exact absurd rfl hne
        · exact h
      have := World.block_lt_of_cell? _ _ (hel 0 (by omega)).1
      rwa [add_block] at this
    · obtain ⟨h1, rfl⟩ := hget j x hx
      rw [(hel j (by omega)).1, (hk j h1).1]
    · obtain ⟨h1, rfl⟩ := hget j x hx
      exact (hk j h1).2
set_option maxRecDepth 100000 in
theorem open_bytes {H : Type} {enc : TypeId × Value → H} {W : World} {r : Reach} {b0 base : Nat} {sp : Nat → Bool} {held : Bool} {v : Value} {d : DataW H} {p : List MemPlace}
    (hv : Value.okWide Tryd.prog W r b0 23 v) (h : DataW.Trod enc Tryd.prog W base sp held 23 v d p) : ∃ bs, BytesV v W bs ∧ Bytes bs ∧ bs.length ≤ maxLen := by
  obtain ⟨a0, len, cap, rfl⟩ := okWide_slice Tryd.underlying23 hv
  obtain ⟨fuel, hf⟩ := h
  obtain ⟨v', bs, h1, h2, h3, h4⟩ := bytes_cells hf
  simp [Value.cells] at h1
  subst h1
  exact ⟨bs, h2, h3, h4⟩

/-- Slices of bytes that a slice holds. -/
def RowsV (v : Value) (w : World) (V : Nat → Value) (ll : List (List Nat)) : Prop := ∃ p c, v = .slice p ll.length c ∧ ll.length ≤ c ∧ (ll ≠ [] → ∃ A, p = some A ∧ A.block < w.heap.size ∧ ∀ j, j < ll.length → w.cell? (A.add j) = some (V j)) ∧ ∀ (j : Nat) (bs : List Nat), ll[j]? = some bs → BytesV (V j) w bs ∧ Bytes bs ∧ bs.length ≤ maxLen
theorem RowsV.under {v : Value} {w w' : World} {V : Nat → Value} {ll : List (List Nat)} (h : RowsV v w V ll) (hb : Below w.heap.size w w') : RowsV v w' V ll := by
  obtain ⟨p, c, rfl, h2, h3, h4⟩ := h
  refine ⟨p, c, rfl, h2, fun hne => ?_, fun j bs hj => ⟨(h4 j bs hj).1.under hb, (h4 j bs hj).2⟩⟩
  obtain ⟨A, rfl, e2, e3⟩ := h3 hne
  exact ⟨A, rfl, Nat.lt_of_lt_of_le e2 hb.size, fun j hj => by rw [hb.cell (by rw [add_block]; exact e2)]; exact e3 j hj⟩
end Go.Proofs.YtkibojjbghopkaaDoor.sh
/-
  Owned slices of ints: kept, read, an element written; sums of ints.
-/
namespace Go.Proofs.YtkibojjbghopkaaDoor.sh
open Go Go.ChangeShapes Go.WideShapes Go.ChangeAt Go.RowKit
set_option linter.unusedVariables false
set_option linter.unusedSimpArgs false

theorem Row.alloc {base : Nat} {e : TypeId} {k : IntKind} {l : List Nat} {v : Value} {w : World} (h : Row base e k l v w) (o : Obj) : Row base e k l v (w.alloc o) := World.ownsRow.alloc h o
theorem grown_under {w w' : World} {row : Option Nat} (h : Below w.heap.size w w') : w.grownBy w' row := ⟨h.os, h.tape, h.output, h.size, fun k hk _ => h.block k hk⟩
theorem ne_none (v : Value) : blkOf v = none ∨ blkOf v ≠ none := by cases blkOf v <;> simp
theorem Row.under {base : Nat} {e : TypeId} {k : IntKind} {l : List Nat} {v : Value} {w w' : World} (h : Row base e k l v w) (hb : Below w.heap.size w w') : Row base e k l v w' := h.keeps (grown_under (row := none) hb) (ne_none v)
theorem IntsV.take {k : IntKind} {p : Option Addr} {l c m : Nat} {w : World} {bs : List Nat} (h : IntsV k (.slice p l c) w bs) (hm : m ≤ bs.length) : IntsV k (.slice p m c) w (bs.take m) := by
  obtain ⟨p', c', h1, h2, h3⟩ := h
  cases h1
  refine ⟨p, c, by rw [List.length_take, Nat.min_eq_left hm], by rw [List.length_take]; omega, fun hne => ?_⟩
  obtain ⟨A, rfl, e2, e3⟩ := h3 (by intro e; rw [e] at hne; simp at hne)
  refine ⟨A, rfl, e2, fun j x hx => ?_⟩
  rw [List.getElem?_take] at hx
  split at hx
  · exact e3 j x hx
  · cases hx
theorem run_addV {o : Oper} {a : Act} {x y : Operand} {i j : Nat} (ho : o.op = .binOp .add 3 x y 3) (hx : a.eval x = .int .i64 (i : Int)) (hy : a.eval y = .int .i64 (j : Int)) (hi : i + j < 4611686018427387904) (w : World) : (execOp a.eval o).run Tryd.prog w = .ok (.value (.int .i64 ((i + j : Nat) : Int))) w := by
  unfold execOp
  simp only [ho, hx, hy]
  simp [go_sem, IntKind.wrap_i64, wrap64]
  omega
/-- Where an owned slice lies. -/
theorem Row.form {base : Nat} {e : TypeId} {k : IntKind} {l : List Nat} {v : Value} {w : World} (h : Row base e k l v w) (hn : 0 < l.length) : ∃ g cap cur, v = .slice (some ⟨g, 0, none⟩) l.length cap ∧ base ≤ g ∧ Blk w g e cur ∧ l.length ≤ cur.size ∧ ∀ (i x : Nat), l[i]? = some x → cur[i]? = some (.int k (x : Int)) := by
  obtain ⟨h1, h2⟩ := h
  rcases h2 with ⟨_, h0⟩ | ⟨g, cap, cur, rfl, hb, hg, hc, hm, hs, ht⟩
  · omega
  · refine ⟨g, cap, cur, rfl, hb, hg, by omega, fun i x hx => ?_⟩
    have hi : i < l.length := (List.getElem?_eq_some_iff.1 hx).1
    have h3 : (cur.toList.take (l.length * 1))[i]? = (ints k l).toList[i]? := by rw [ht]
    rw [List.getElem?_take_of_lt (by omega), Array.getElem?_toList, Array.getElem?_toList] at h3
    rw [h3]
    exact ints_get hx
theorem sumL_bytes (bs : List Nat) : Bytes (sumL bs) := fun i x hx => by
  unfold sumL sumD bytesL at hx
  rw [List.getElem?_map] at hx
  obtain ⟨y, _, rfl⟩ := Option.map_eq_some_iff.1 hx
  exact Nat.mod_lt _ (by decide)
/-- A pointer to a block of its own. -/
def PtrAt (t : TypeId) (C : Array Value) : Value → World → Prop := fun v w => ∃ g, v = .pointer (some ⟨g, 0, none⟩) ∧ Blk w g t C
theorem PtrAt.keeps {t : TypeId} {C : Array Value} {v : Value} {w w' : World} {row : Option Nat} (h : PtrAt t C v w) (hg : w.grownBy w' row) (hne : blkOf v = none ∨ blkOf v ≠ row) : PtrAt t C v w' := by
  obtain ⟨g, rfl, h2⟩ := h
  refine ⟨g, rfl, ?_⟩
  rcases hne with hne | hne
  · cases hne
  · exact (hg.block g h2.lt (fun e => hne (by rw [← e]; rfl))).trans h2
end Go.Proofs.YtkibojjbghopkaaDoor.sh
/-
  A key filled up to 64 bytes, and changed by a byte: as lists, and package mac's two calls.
-/
namespace Go.Proofs.YtkibojjbghopkaaDoor.sh
open Go Go.RowKit
set_option linter.unusedVariables false
set_option linter.unusedSimpArgs false

/-- A key's 64 bytes. -/
def padL (k : List Nat) : List Nat := if 64 < k.length then sumL k ++ List.replicate 32 0 else k ++ List.replicate (64 - k.length) 0
theorem padL_len (k : List Nat) : (padL k).length = 64 := by
  unfold padL
  split
  · rw [List.length_append, sumL_len, List.length_replicate]
  · rw [List.length_append, List.length_replicate]; omega
theorem padL_bytes {k : List Nat} (h : Bytes k) : Bytes (padL k) := by
  unfold padL
  split
  · exact (sumL_bytes k).append (bytes_zero _)
  · exact h.append (bytes_zero _)
def xorL (b : Nat) (l : List Nat) : List Nat := l.map (· ^^^ b)
theorem xorL_len (b : Nat) (l : List Nat) : (xorL b l).length = l.length := by simp [xorL]
theorem xor_lt8 {m n : Nat} (h : m < 256) (h' : n < 256) : m ^^^ n < 256 := Nat.xor_lt_two_pow (n := 8) h h'
theorem xorL_bytes {b : Nat} {l : List Nat} (h : Bytes l) (hb : b < 256) : Bytes (xorL b l) := fun i x hx => by
  unfold xorL at hx
  rw [List.getElem?_map] at hx
  obtain ⟨y, hy, rfl⟩ := Option.map_eq_some_iff.1 hx
  exact xor_lt8 (h i y hy) hb
/-- HMAC of a key and bytes. -/
def macL (k b : List Nat) : List Nat := sumL (xorL 92 (padL k) ++ sumL (xorL 54 (padL k) ++ b))
theorem macL_len (k b : List Nat) : (macL k b).length = 32 := sumL_len _
theorem macL_bytes (k b : List Nat) : Bytes (macL k b) := sumL_bytes _
theorem splice_pad (cs : List Nat) (h : cs.length ≤ 64) : splice (List.replicate 64 0) 0 cs = cs ++ List.replicate (64 - cs.length) 0 := by
  unfold splice
  rw [List.take_zero, List.nil_append, List.drop_replicate, Nat.zero_add]
theorem arr_bytes {w : World} {g n : Nat} {t : TypeId} {l : List Nat} (h : Blk w g t (ints .u8 l)) (hn : l.length = n) : BytesV (.slice (some ⟨g, 0, none⟩) n n) w l := by
  subst hn
  exact bytesV_slice (t := t) ⟨g, rfl, h⟩ (Nat.le_refl _)
theorem t64_info : (Tryd.prog.info? 56).map (·.size) = some 64 := by kernel_rfl

theorem arr_all_run {o : Oper} {a : Act} {x : Operand} {g off n : Nat} {t e : TypeId} (ho : o.op = .slice t x none none none) (hx : a.eval x = .pointer (some ⟨g, off, none⟩)) (ht : Tryd.prog.underlying t = some (.array n e)) (sz : ∀ w, (sizeOf e).run Tryd.prog w = .ok 1 w) (hn : 0 < n) (w : World) :
    (execOp a.eval o).run Tryd.prog w = .ok (.value (.slice (some ⟨g, off, none⟩) n n)) w := by
  unfold execOp
  simp only [ho, hx, Option.map_none, Instr.sliceAt, Instr.slice, Instr.sliceBounds, Sem.run_bind, run_underlying ht, Result.andThen_ok]
  simp [Instr.sliceBound, asIntOf, sz, go_sem]
  try omega

set_option maxRecDepth 100000 in
set_option maxHeartbeats 2000000 in
theorem mfilled_any (bs : List Nat) (v : Value) (w : World) (hy : Bytes bs) (hn : bs.length < 1000000000) (hr : RootsAt w) (hv : BytesV v w bs) :
    Calls Tryd.prog 46 #[v] w fun e w' => e = .returned (.agg (ints .u8 (padL bs))) ∧ Below w.heap.size w w' := by
  have KV : Kept _ := ⟨hv⟩
  have KY : Kept _ := ⟨hy⟩
  have KR : Kept _ := ⟨hr⟩
  have KN : Kept _ := ⟨hn⟩
  obtain ⟨p, c, rfl, _, _⟩ := hv
  obtain ⟨n, hn0⟩ : ∃ n, n = bs.length := ⟨_, rfl⟩
  have EN : Kept _ := ⟨hn0⟩
  rw [← hn0] at KV hn ⊢
  obtain ⟨L, hL⟩ : ∃ L, L = padL bs := ⟨_, rfl⟩
  rw [← hL]
  have LL : Kept (L.length = 64) := ⟨by rw [hL]; exact padL_len bs⟩
  have EL : Kept _ := ⟨hL⟩
  clear hy hr hL hn0
  obtain ⟨ZZ, hZZ⟩ : ∃ Z : List Nat, Z = List.replicate 64 0 := ⟨_, rfl⟩
  have EZ : Kept _ := ⟨hZZ⟩
  have LZ : Kept (ZZ.length = 64) := ⟨by rw [hZZ]; simp⟩
  have EI : (#[.int .u8 0, .int .u8 0, .int .u8 0, .int .u8 0, .int .u8 0, .int .u8 0, .int .u8 0, .int .u8 0, .int .u8 0, .int .u8 0, .int .u8 0, .int .u8 0, .int .u8 0, .int .u8 0, .int .u8 0, .int .u8 0, .int .u8 0, .int .u8 0, .int .u8 0, .int .u8 0, .int .u8 0, .int .u8 0, .int .u8 0, .int .u8 0, .int .u8 0, .int .u8 0, .int .u8 0, .int .u8 0, .int .u8 0, .int .u8 0, .int .u8 0, .int .u8 0, .int .u8 0, .int .u8 0, .int .u8 0, .int .u8 0, .int .u8 0, .int .u8 0, .int .u8 0, .int .u8 0, .int .u8 0, .int .u8 0, .int .u8 0, .int .u8 0, .int .u8 0, .int .u8 0, .int .u8 0, .int .u8 0, .int .u8 0, .int .u8 0, .int .u8 0, .int .u8 0, .int .u8 0, .int .u8 0, .int .u8 0, .int .u8 0, .int .u8 0, .int .u8 0, .int .u8 0, .int .u8 0, .int .u8 0, .int .u8 0, .int .u8 0, .int .u8 0] : Array Value) = ints .u8 ZZ := by rw [hZZ]; exact zero64b
  have A0 : Blk ((w.alloc (.cells #[.int .u8 0, .int .u8 0, .int .u8 0, .int .u8 0, .int .u8 0, .int .u8 0, .int .u8 0, .int .u8 0, .int .u8 0, .int .u8 0, .int .u8 0, .int .u8 0, .int .u8 0, .int .u8 0, .int .u8 0, .int .u8 0, .int .u8 0, .int .u8 0, .int .u8 0, .int .u8 0, .int .u8 0, .int .u8 0, .int .u8 0, .int .u8 0, .int .u8 0, .int .u8 0, .int .u8 0, .int .u8 0, .int .u8 0, .int .u8 0, .int .u8 0, .int .u8 0, .int .u8 0, .int .u8 0, .int .u8 0, .int .u8 0, .int .u8 0, .int .u8 0, .int .u8 0, .int .u8 0, .int .u8 0, .int .u8 0, .int .u8 0, .int .u8 0, .int .u8 0, .int .u8 0, .int .u8 0, .int .u8 0, .int .u8 0, .int .u8 0, .int .u8 0, .int .u8 0, .int .u8 0, .int .u8 0, .int .u8 0, .int .u8 0, .int .u8 0, .int .u8 0, .int .u8 0, .int .u8 0, .int .u8 0, .int .u8 0, .int .u8 0, .int .u8 0] 56)).alloc (.cells #[.int .u8 0, .int .u8 0, .int .u8 0, .int .u8 0, .int .u8 0, .int .u8 0, .int .u8 0, .int .u8 0, .int .u8 0, .int .u8 0, .int .u8 0, .int .u8 0, .int .u8 0, .int .u8 0, .int .u8 0, .int .u8 0, .int .u8 0, .int .u8 0, .int .u8 0, .int .u8 0, .int .u8 0, .int .u8 0, .int .u8 0, .int .u8 0, .int .u8 0, .int .u8 0, .int .u8 0, .int .u8 0, .int .u8 0, .int .u8 0, .int .u8 0, .int .u8 0, .int .u8 0, .int .u8 0, .int .u8 0, .int .u8 0, .int .u8 0, .int .u8 0, .int .u8 0, .int .u8 0, .int .u8 0, .int .u8 0, .int .u8 0, .int .u8 0, .int .u8 0, .int .u8 0, .int .u8 0, .int .u8 0, .int .u8 0, .int .u8 0, .int .u8 0, .int .u8 0, .int .u8 0, .int .u8 0, .int .u8 0, .int .u8 0, .int .u8 0, .int .u8 0, .int .u8 0, .int .u8 0, .int .u8 0, .int .u8 0, .int .u8 0, .int .u8 0] 56)) w.heap.size 56 (ints .u8 ZZ) := by rw [EI]; exact (blk_new w _ _).alloc _
  have A1 : Blk ((w.alloc (.cells #[.int .u8 0, .int .u8 0, .int .u8 0, .int .u8 0, .int .u8 0, .int .u8 0, .int .u8 0, .int .u8 0, .int .u8 0, .int .u8 0, .int .u8 0, .int .u8 0, .int .u8 0, .int .u8 0, .int .u8 0, .int .u8 0, .int .u8 0, .int .u8 0, .int .u8 0, .int .u8 0, .int .u8 0, .int .u8 0, .int .u8 0, .int .u8 0, .int .u8 0, .int .u8 0, .int .u8 0, .int .u8 0, .int .u8 0, .int .u8 0, .int .u8 0, .int .u8 0, .int .u8 0, .int .u8 0, .int .u8 0, .int .u8 0, .int .u8 0, .int .u8 0, .int .u8 0, .int .u8 0, .int .u8 0, .int .u8 0, .int .u8 0, .int .u8 0, .int .u8 0, .int .u8 0, .int .u8 0, .int .u8 0, .int .u8 0, .int .u8 0, .int .u8 0, .int .u8 0, .int .u8 0, .int .u8 0, .int .u8 0, .int .u8 0, .int .u8 0, .int .u8 0, .int .u8 0, .int .u8 0, .int .u8 0, .int .u8 0, .int .u8 0, .int .u8 0] 56)).alloc (.cells #[.int .u8 0, .int .u8 0, .int .u8 0, .int .u8 0, .int .u8 0, .int .u8 0, .int .u8 0, .int .u8 0, .int .u8 0, .int .u8 0, .int .u8 0, .int .u8 0, .int .u8 0, .int .u8 0, .int .u8 0, .int .u8 0, .int .u8 0, .int .u8 0, .int .u8 0, .int .u8 0, .int .u8 0, .int .u8 0, .int .u8 0, .int .u8 0, .int .u8 0, .int .u8 0, .int .u8 0, .int .u8 0, .int .u8 0, .int .u8 0, .int .u8 0, .int .u8 0, .int .u8 0, .int .u8 0, .int .u8 0, .int .u8 0, .int .u8 0, .int .u8 0, .int .u8 0, .int .u8 0, .int .u8 0, .int .u8 0, .int .u8 0, .int .u8 0, .int .u8 0, .int .u8 0, .int .u8 0, .int .u8 0, .int .u8 0, .int .u8 0, .int .u8 0, .int .u8 0, .int .u8 0, .int .u8 0, .int .u8 0, .int .u8 0, .int .u8 0, .int .u8 0, .int .u8 0, .int .u8 0, .int .u8 0, .int .u8 0, .int .u8 0, .int .u8 0] 56)) (w.heap.size + 1) 56 (ints .u8 ZZ) := by rw [EI]; exact blk_top _ _ _ _ (by simp)
  have Q0 : Below w.heap.size w ((w.alloc (.cells #[.int .u8 0, .int .u8 0, .int .u8 0, .int .u8 0, .int .u8 0, .int .u8 0, .int .u8 0, .int .u8 0, .int .u8 0, .int .u8 0, .int .u8 0, .int .u8 0, .int .u8 0, .int .u8 0, .int .u8 0, .int .u8 0, .int .u8 0, .int .u8 0, .int .u8 0, .int .u8 0, .int .u8 0, .int .u8 0, .int .u8 0, .int .u8 0, .int .u8 0, .int .u8 0, .int .u8 0, .int .u8 0, .int .u8 0, .int .u8 0, .int .u8 0, .int .u8 0, .int .u8 0, .int .u8 0, .int .u8 0, .int .u8 0, .int .u8 0, .int .u8 0, .int .u8 0, .int .u8 0, .int .u8 0, .int .u8 0, .int .u8 0, .int .u8 0, .int .u8 0, .int .u8 0, .int .u8 0, .int .u8 0, .int .u8 0, .int .u8 0, .int .u8 0, .int .u8 0, .int .u8 0, .int .u8 0, .int .u8 0, .int .u8 0, .int .u8 0, .int .u8 0, .int .u8 0, .int .u8 0, .int .u8 0, .int .u8 0, .int .u8 0, .int .u8 0] 56)).alloc (.cells #[.int .u8 0, .int .u8 0, .int .u8 0, .int .u8 0, .int .u8 0, .int .u8 0, .int .u8 0, .int .u8 0, .int .u8 0, .int .u8 0, .int .u8 0, .int .u8 0, .int .u8 0, .int .u8 0, .int .u8 0, .int .u8 0, .int .u8 0, .int .u8 0, .int .u8 0, .int .u8 0, .int .u8 0, .int .u8 0, .int .u8 0, .int .u8 0, .int .u8 0, .int .u8 0, .int .u8 0, .int .u8 0, .int .u8 0, .int .u8 0, .int .u8 0, .int .u8 0, .int .u8 0, .int .u8 0, .int .u8 0, .int .u8 0, .int .u8 0, .int .u8 0, .int .u8 0, .int .u8 0, .int .u8 0, .int .u8 0, .int .u8 0, .int .u8 0, .int .u8 0, .int .u8 0, .int .u8 0, .int .u8 0, .int .u8 0, .int .u8 0, .int .u8 0, .int .u8 0, .int .u8 0, .int .u8 0, .int .u8 0, .int .u8 0, .int .u8 0, .int .u8 0, .int .u8 0, .int .u8 0, .int .u8 0, .int .u8 0, .int .u8 0, .int .u8 0] 56)) := ((Below.refl _ _).alloc (Nat.le_refl _) _).alloc (by simp) _
  clear EI hZZ
  by_cases h64 : 64 < n
  case pos =>
    have h64' : (64 : Int) < (n : Int) := by omega
    go_enter Tryd.func46, Tryd.ntmps46
    go_wp2_with fail
    generalize hW : (w.alloc (.cells #[.int .u8 0, .int .u8 0, .int .u8 0, .int .u8 0, .int .u8 0, .int .u8 0, .int .u8 0, .int .u8 0, .int .u8 0, .int .u8 0, .int .u8 0, .int .u8 0, .int .u8 0, .int .u8 0, .int .u8 0, .int .u8 0, .int .u8 0, .int .u8 0, .int .u8 0, .int .u8 0, .int .u8 0, .int .u8 0, .int .u8 0, .int .u8 0, .int .u8 0, .int .u8 0, .int .u8 0, .int .u8 0, .int .u8 0, .int .u8 0, .int .u8 0, .int .u8 0, .int .u8 0, .int .u8 0, .int .u8 0, .int .u8 0, .int .u8 0, .int .u8 0, .int .u8 0, .int .u8 0, .int .u8 0, .int .u8 0, .int .u8 0, .int .u8 0, .int .u8 0, .int .u8 0, .int .u8 0, .int .u8 0, .int .u8 0, .int .u8 0, .int .u8 0, .int .u8 0, .int .u8 0, .int .u8 0, .int .u8 0, .int .u8 0, .int .u8 0, .int .u8 0, .int .u8 0, .int .u8 0, .int .u8 0, .int .u8 0, .int .u8 0, .int .u8 0] 56)).alloc (.cells #[.int .u8 0, .int .u8 0, .int .u8 0, .int .u8 0, .int .u8 0, .int .u8 0, .int .u8 0, .int .u8 0, .int .u8 0, .int .u8 0, .int .u8 0, .int .u8 0, .int .u8 0, .int .u8 0, .int .u8 0, .int .u8 0, .int .u8 0, .int .u8 0, .int .u8 0, .int .u8 0, .int .u8 0, .int .u8 0, .int .u8 0, .int .u8 0, .int .u8 0, .int .u8 0, .int .u8 0, .int .u8 0, .int .u8 0, .int .u8 0, .int .u8 0, .int .u8 0, .int .u8 0, .int .u8 0, .int .u8 0, .int .u8 0, .int .u8 0, .int .u8 0, .int .u8 0, .int .u8 0, .int .u8 0, .int .u8 0, .int .u8 0, .int .u8 0, .int .u8 0, .int .u8 0, .int .u8 0, .int .u8 0, .int .u8 0, .int .u8 0, .int .u8 0, .int .u8 0, .int .u8 0, .int .u8 0, .int .u8 0, .int .u8 0, .int .u8 0, .int .u8 0, .int .u8 0, .int .u8 0, .int .u8 0, .int .u8 0, .int .u8 0, .int .u8 0] 56) = wa at *
    clear hW
    refine (cSum KY.out KN.out (KR.out.below KR.out.1 Q0) (KV.out.under Q0)).mono ?_
    rintro e w1 ⟨rfl, hb1⟩
    obtain ⟨S, hS⟩ : ∃ S, S = sumL bs := ⟨_, rfl⟩
    rw [← hS]
    have LS : Kept (S.length = 32) := ⟨by rw [hS]; exact sumL_len bs⟩
    have ES : Kept _ := ⟨hS⟩
    have A01 := A0.under hb1
    have A11 := A1.under hb1
    have Q1 := Q0.trans (hb1.mono Q0.size)
    have sz1 : w.heap.size + 1 < w1.heap.size := A11.lt
    clear hb1 A0 A1 Q0 hS
    go_wp2_with (first | (refine wl_store rfl 22 (.tmp 4) (.tmp 9) rfl w1.heap.size (ints .u8 S) rfl rfl _ (blk_new w1 _ _) (by rw [ints_size, LS.out]; exact t32_info) (by rw [ints_size, LS.out]; rfl) (ints_one _ _) ?_))
    intro w2 A2 P2
    have A02 := P2.blk (A01.alloc _) (by omega)
    have A12 := P2.blk (A11.alloc _) (by omega)
    have Q2 := (Q1.alloc Q1.size _).trans (P2.below Q1.size)
    have V2 : Kept (BytesV (.slice (some ⟨w1.heap.size, 0, none⟩) 32 32) w2 S) := ⟨arr_bytes A2 LS.out⟩
    have hmin : Kept ((32 : Nat) = Nat.min 32 64) := ⟨rfl⟩
    have hfit : 0 + 32 ≤ (ints .u8 ZZ).size := by rw [ints_size, LZ.out]; decide
    have EP : Kept ((splice (ints .u8 ZZ).toList 0 (ints .u8 (S.take 32)).toList).toArray = ints .u8 L) := ⟨by
      have hlt : 64 < bs.length := by rw [← EN.out]; exact h64
      rw [splice_ints, List.take_of_length_le (by rw [LS.out]; exact Nat.le_refl _), EZ.out, splice_pad S (by rw [LS.out]; decide), LS.out, EL.out]
      unfold padL
      rw [if_pos hlt, ES.out]⟩
    clear A01 A11 P2 Q1 A2
    go_wp2_with (first | (refine wl_copyV rfl (.tmp 11) (.tmp 12) 23 23 rfl Tryd.underlying23 (w.heap.size + 1) 0 64 64 rfl (some ⟨w1.heap.size, 0, none⟩) 32 32 rfl _ A12 S V2.out 32 hmin.out hfit ?_))
    intro w3 A3 P3
    rw [EP.out] at A3
    have A03 := P3.blk A02 (by omega)
    have Q3 := Q2.trans (P3.below (by omega))
    clear A02 A12 P3 Q2 V2 hfit hmin EP
    go_wp2_with (first | ((with_reducible refine wv_row (d := 14) ?hd ?hw 56 (.tmp 3) ?ho (w.heap.size + 1) ?hx (t' := 56) (ints .u8 L) _ _ Tryd.underlying56 ?hs ?hg ?_); (case hd => rfl); (case hw => kernel_rfl); (case ho => rfl); (case hx => kernel_rfl); (case hs => rw [ints_size, LL.out]; exact t64_info); (case hg => exact A3); simp only [Act.put, List.setIfInBounds_toArray, List.set_cons_succ, List.set_cons_zero]) | (refine wl_store rfl 56 (.tmp 2) (.tmp 14) rfl w.heap.size (ints .u8 L) rfl rfl _ A03 (by rw [ints_size, LL.out]; exact t64_info) (by rw [ints_size, ints_size, LL.out, LZ.out]) (ints_one _ _) ?_))
    intro w4 A4 P4
    go_wp2
    exact bodyPost_ret (v := .agg (ints .u8 L)) (results_cell_row Tryd.results46 _ _ _ 56 (ints .u8 L) (0, 0) _ rfl A4 Tryd.underlying56 rfl (by rw [ints_size, LL.out]; exact t64_info)) rfl ⟨rfl, Q3.trans (P4.below (Nat.le_refl _))⟩
  case neg =>
    have h64' : ¬ (64 : Int) < (n : Int) := by omega
    have hmin : Kept (n = Nat.min n 64) := ⟨(Nat.min_eq_left (by omega)).symm⟩
    have hfit : 0 + n ≤ (ints .u8 ZZ).size := by rw [ints_size, LZ.out]; omega
    have EP : Kept ((splice (ints .u8 ZZ).toList 0 (ints .u8 (bs.take n)).toList).toArray = ints .u8 L) := ⟨by
      have hlt : ¬ 64 < bs.length := by rw [← EN.out]; exact h64
      rw [splice_ints, List.take_of_length_le (by rw [EN.out]; exact Nat.le_refl _), EZ.out, splice_pad bs (by omega), EL.out]
      unfold padL
      rw [if_neg hlt]⟩
    have V2 : Kept _ := ⟨KV.out.under Q0⟩
    go_enter Tryd.func46, Tryd.ntmps46
    go_wp2_with (first | (refine wl_copyV rfl (.tmp 11) (.tmp 12) 23 23 rfl Tryd.underlying23 (w.heap.size + 1) 0 64 64 rfl p n c rfl _ A1 bs V2.out n hmin.out hfit ?_))
    intro w3 A3 P3
    rw [EP.out] at A3
    have A03 := P3.blk A0 (by omega)
    have Q3 := Q0.trans (P3.below (by omega))
    clear A0 A1 P3 Q0 V2 hfit hmin EP
    go_wp2_with (first | ((with_reducible refine wv_row (d := 14) ?hd ?hw 56 (.tmp 3) ?ho (w.heap.size + 1) ?hx (t' := 56) (ints .u8 L) _ _ Tryd.underlying56 ?hs ?hg ?_); (case hd => rfl); (case hw => kernel_rfl); (case ho => rfl); (case hx => kernel_rfl); (case hs => rw [ints_size, LL.out]; exact t64_info); (case hg => exact A3); simp only [Act.put, List.setIfInBounds_toArray, List.set_cons_succ, List.set_cons_zero]) | (refine wl_store rfl 56 (.tmp 2) (.tmp 14) rfl w.heap.size (ints .u8 L) rfl rfl _ A03 (by rw [ints_size, LL.out]; exact t64_info) (by rw [ints_size, ints_size, LL.out, LZ.out]) (ints_one _ _) ?_))
    intro w4 A4 P4
    go_wp2
    exact bodyPost_ret (v := .agg (ints .u8 L)) (results_cell_row Tryd.results46 _ _ _ 56 (ints .u8 L) (0, 0) _ rfl A4 Tryd.underlying56 rfl (by rw [ints_size, LL.out]; exact t64_info)) rfl ⟨rfl, Q3.trans (P4.below (Nat.le_refl _))⟩
end Go.Proofs.YtkibojjbghopkaaDoor.sh
/-
  A key's bytes changed, its digest; the key as it is used.
-/
namespace Go.Proofs.YtkibojjbghopkaaDoor.sh
open Go Go.RowKit
set_option linter.unusedVariables false
set_option linter.unusedSimpArgs false

/-- The first i bytes changed. -/
def xTo (b : Nat) (P : List Nat) (i : Nat) : List Nat := xorL b (P.take i) ++ P.drop i
theorem xTo_len (b : Nat) (P : List Nat) (i : Nat) : (xTo b P i).length = P.length := by
  unfold xTo
  rw [List.length_append, xorL_len, List.length_take, List.length_drop]
  omega
theorem xTo_zero (b : Nat) (P : List Nat) : xTo b P 0 = P := by simp [xTo, xorL]
theorem xTo_all (b : Nat) (P : List Nat) (i : Nat) (h : P.length ≤ i) : xTo b P i = xorL b P := by
  unfold xTo
  rw [List.take_of_length_le h, List.drop_of_length_le h, List.append_nil]
theorem xTo_get (b : Nat) (P : List Nat) (i : Nat) : (xTo b P i)[i]? = P[i]? := by
  unfold xTo
  by_cases h : i < P.length
  · rw [List.getElem?_append_right (by rw [xorL_len, List.length_take]; omega), xorL_len, List.length_take, List.getElem?_drop]
    congr 1
    omega
  · rw [List.getElem?_eq_none (by rw [List.length_append, xorL_len, List.length_take, List.length_drop]; omega), List.getElem?_eq_none (by omega)]
theorem xTo_succ (b : Nat) (P : List Nat) (i x : Nat) (h : P[i]? = some x) : (xTo b P i).set i (x ^^^ b) = xTo b P (i + 1) := by
  have hi : i < P.length := (List.getElem?_eq_some_iff.1 h).1
  unfold xTo
  have e : P.drop i = x :: P.drop (i + 1) := by rw [List.drop_eq_getElem_cons hi, (List.getElem?_eq_some_iff.1 h).2]
  rw [List.set_append_right _ _ (by rw [xorL_len, List.length_take]; omega), xorL_len, List.length_take, Nat.min_eq_left (by omega), Nat.sub_self, e, List.set_cons_zero, List.take_add_one, h]
  simp [xorL]
theorem run_xorV {o : Oper} {a : Act} {x y : Operand} {m n z : Nat} (ho : o.op = .binOp .xor 5 x y 5) (hx : a.eval x = .int .u8 (m : Int)) (hy : a.eval y = .int .u8 (n : Int)) (hm : m < 256) (hn : n < 256) (hz : z = m ^^^ n) (w : World) : (execOp a.eval o).run Tryd.prog w = .ok (.value (.int .u8 (z : Int))) w := by
  have h := u8_xor_nat m n hm hn
  unfold execOp
  simp only [ho, hx, hy]
  simp [go_sem, hz]
  exact h
theorem cWrite0 {cs : List Nat} {v : Value} {w : World} (hc : Bytes cs) (hn : cs.length < 1000000000) (hr : RootsAt w) (hv : BytesV v w cs) :
    Calls Tryd.prog 48 #[.agg (dgs []), v] w fun e w' => e = .returned (.agg (dgs cs)) ∧ Below w.heap.size w w' := by
  have h := cWrite nil_bytes hc (by simpa using hn) hr hv
  rw [List.nil_append] at h
  exact h

set_option maxRecDepth 100000 in
set_option maxHeartbeats 2000000 in
theorem changed_any (P : List Nat) (b : Nat) (w : World) (hP : P.length = 64) (hy : Bytes P) (hb : b < 256) (hr : RootsAt w) :
    Calls Tryd.prog 47 #[.agg (ints .u8 P), .int .u8 (b : Int)] w fun e w' => e = .returned (.agg (dgs (xorL b P))) ∧ Below w.heap.size w w' := by
  have KY : Kept _ := ⟨hy⟩
  have KR : Kept _ := ⟨hr⟩
  have KP : Kept _ := ⟨hP⟩
  have KB : Kept _ := ⟨hb⟩
  obtain ⟨Z, hZ⟩ : ∃ Z, Z = dgs [] := ⟨_, rfl⟩
  have hz : ∀ w, (zeroValue 58).run Tryd.prog w = .ok (.agg Z) w := fun w => by rw [hZ]; exact dgs_zero w
  have hbuild : Kept (∀ w, (Instr.build 58 #[]).run Tryd.prog w = .ok (.agg Z) w) := ⟨fun w => by rw [hZ]; exact dgs_build w⟩
  have LZ : Kept (Z.size = 73) := ⟨by rw [hZ]; exact dgs_size nil_bytes⟩
  have EZ : Kept _ := ⟨hZ⟩
  obtain ⟨D, hD⟩ : ∃ D, D = dgs (xorL b P) := ⟨_, rfl⟩
  rw [← hD]
  have ED : Kept _ := ⟨hD⟩
  have SD : Kept ((Tryd.prog.info? 58).map (·.size) = some D.size) := ⟨by rw [hD]; exact dgs_info (xorL_bytes hy hb)⟩
  have LD : Kept (D.size = 73) := ⟨by rw [hD]; exact dgs_size (xorL_bytes hy hb)⟩
  have OD : Kept (D.all (·.oneCell') = true) := ⟨by rw [hD]; exact dgs_one _⟩
  have A0 : Blk ((w.alloc (.cells (ints .u8 P) 56)).alloc (.cells Z 58)) w.heap.size 56 (ints .u8 (xTo b P 0)) := by rw [xTo_zero]; exact (blk_new w _ _).alloc _
  have A1 : Blk ((w.alloc (.cells (ints .u8 P) 56)).alloc (.cells Z 58)) (w.heap.size + 1) 58 Z := blk_top _ _ _ _ (by simp)
  have Q0 : Below w.heap.size w ((w.alloc (.cells (ints .u8 P) 56)).alloc (.cells Z 58)) := ((Below.refl _ _).alloc (Nat.le_refl _) _).alloc (by simp) _
  clear hy hr hZ hD
  go_enter Tryd.func47, Tryd.ntmps47
  go_wp2_with fail
  generalize hW : (w.alloc (.cells (ints .u8 P) 56)).alloc (.cells Z 58) = wa at *
  clear hW
  go_loopg [6] 64 (fun k s6 wr => ∃ i : Nat, i + k = 64 ∧ s6 = .int .i64 (i : Int) ∧ Below w.heap.size w wr ∧ Blk wr w.heap.size 56 (ints .u8 (xTo b P i)) ∧ Blk wr (w.heap.size + 1) 58 Z)
  case atStart => exact ⟨0, by omega, rfl, Q0, A0, A1⟩
  case round =>
    clear A0 A1 Q0
    obtain ⟨i, hik, rfl, HB, A0, A1⟩ := hrel
    by_cases hi : i < 64
    case pos =>
      have hi' : (i : Int) < 64 := by omega
      obtain ⟨x, hx⟩ : ∃ x, P[i]? = some x := ⟨_, List.getElem?_eq_getElem (by have := KP.out; omega)⟩
      have hx8 : x < 256 := KY.out i x hx
      obtain ⟨z, hz'⟩ : ∃ z, z = x ^^^ b := ⟨_, rfl⟩
      obtain ⟨X, hX⟩ : ∃ X, X = xTo b P i := ⟨_, rfl⟩
      have KX : Kept ((ints .u8 X)[i]? = some (.int .u8 (x : Int))) := ⟨ints_get (by rw [hX, xTo_get]; exact hx)⟩
      have KS : Kept (X.set i z = xTo b P (i + 1)) := ⟨by rw [hX, hz']; exact xTo_succ b P i x hx⟩
      have iX : i < (ints .u8 X).size := by rw [ints_size, hX, xTo_len, KP.out]; exact hi
      rw [← hX] at A0
      have Ez : Kept _ := ⟨hz'⟩
      clear hX hx hz'
      go_wp2_with (first | ((with_reducible refine wv_val (d := 10) ?hd ?hw (.pointer (some ⟨w.heap.size, i, none⟩)) ?hr ?_); (case hd => rfl); (case hw => kernel_rfl); (case hr => intro w; exact run_idx rfl (by kernel_rfl) (by kernel_rfl) Tryd.underlying56 hi sz_u8 w); simp only [Act.put, List.setIfInBounds_toArray, List.set_cons_succ, List.set_cons_zero]) | (refine wl_elem rfl 5 ag_u8 (.tmp 10) rfl w.heap.size i rfl _ (.int .u8 (x : Int)) A0 KX.out ?_) | ((with_reducible refine wv_val (d := 13) ?hd ?hw (.int .u8 (z : Int)) ?hr ?_); (case hd => rfl); (case hw => kernel_rfl); (case hr => intro w; exact run_xorV rfl (by kernel_rfl) (by kernel_rfl) hx8 KB.out Ez.out w); simp only [Act.put, List.setIfInBounds_toArray, List.set_cons_succ, List.set_cons_zero]) | ((with_reducible refine wv_val (d := 14) ?hd ?hw (.pointer (some ⟨w.heap.size, i, none⟩)) ?hr ?_); (case hd => rfl); (case hw => kernel_rfl); (case hr => intro w; exact run_idx rfl (by kernel_rfl) (by kernel_rfl) Tryd.underlying56 hi sz_u8 w); simp only [Act.put, List.setIfInBounds_toArray, List.set_cons_succ, List.set_cons_zero]) | (refine wl_setElem rfl 5 sz_u8 (.tmp 14) (.tmp 13) rfl w.heap.size i .u8 (z : Int) rfl rfl _ A0 iX ?_))
      intro w4 A4 P4
      rw [ints_set, KS.out] at A4
      have A14 := P4.blk A1 (by omega)
      have HB4 := HB.trans (P4.below (Nat.le_refl _))
      clear A0 A1 HB P4 KX KS iX
      go_wp2_with fail
      go_roundg (gk - 1)
      case measure => omega
      case rel => exact ⟨i + 1, by omega, by simp, HB4, A4, A14⟩
    case neg =>
      have hi' : ¬ (i : Int) < 64 := by omega
      rw [xTo_all b P i (by rw [KP.out]; omega)] at A0
      have V0 : Kept (BytesV (.slice (some ⟨w.heap.size, 0, none⟩) 64 64) wr (xorL b P)) := ⟨arr_bytes A0 (by rw [xorL_len]; exact KP.out)⟩
      have C0 : Kept (Calls Tryd.prog 48 #[.agg Z, .slice (some ⟨w.heap.size, 0, none⟩) 64 64] wr fun e w' => e = .returned (.agg D) ∧ Below wr.heap.size wr w') := ⟨by
        rw [EZ.out, ED.out]
        exact cWrite0 (xorL_bytes KY.out KB.out) (by rw [xorL_len, KP.out]; decide) (KR.out.below KR.out.1 HB) V0.out⟩
      clear A0 V0
      go_wp2_with (first | ((with_reducible refine wv_val (d := 16) ?hd ?hw (.agg Z) ?hr ?_); (case hd => rfl); (case hw => kernel_rfl); (case hr => intro w; exact build_run rfl hbuild.out w); simp only [Act.put, List.setIfInBounds_toArray, List.set_cons_succ, List.set_cons_zero]))
      refine C0.out.mono ?_
      rintro e w5 ⟨rfl, hb5⟩
      have A15 := A1.under hb5
      have HB5 := HB.trans (hb5.mono HB.size)
      clear A1 HB hb5 C0
      go_wp2_with (first | (refine wl_store rfl 58 (.tmp 4) (.tmp 18) rfl (w.heap.size + 1) D rfl rfl _ A15 SD.out (by rw [LZ.out, LD.out]) OD.out ?_))
      intro w6 A6 P6
      go_wp2
      exact bodyPost_ret (v := .agg D) (results_cell_row Tryd.results47 _ _ _ 58 D (0, 0) _ rfl A6 Tryd.underlying58 rfl SD.out) rfl ⟨rfl, HB5.trans (P6.below (by omega))⟩
end Go.Proofs.YtkibojjbghopkaaDoor.sh
