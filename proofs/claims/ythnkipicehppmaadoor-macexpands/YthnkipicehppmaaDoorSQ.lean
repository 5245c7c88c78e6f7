/-
  Arguments that are slices of bytes, and slices of those; the program's table of words, as it is laid.
-/
import Derived.Test.YthnkipicehppmaaDoorSV
import Derived.ProofKit
import Derived.LaidMore
import Derived.OpenShut
import Derived.Stop.Joined
import Derived.ChangeOld
import Derived.Deep.Slices
namespace Go.Proofs.YthnkipicehppmaaDoor.sh
open Go Go.ChangeShapes Go.WideShapes Go.ChangeAt Go.RowKit
set_option linter.unusedVariables false
set_option linter.unusedSimpArgs false

theorem own : ownKnob Tryd.prog.godebug = none := by kernel_rfl
theorem laidOut : laidOutB Tryd.prog = true := by kernel_rfl
theorem gRoots : Tryd.prog.globalNamed "signetring/sha.roots" = some 0 := by kernel_rfl
theorem tRoots : (Tryd.prog.globals[0]?).map (·.type) = some 81 := by kernel_rfl
theorem cu8 : Tryd.prog.cellsOf 5 = 1 := by kernel_rfl
theorem cu32 : Tryd.prog.cellsOf 47 = 1 := by kernel_rfl
theorem cbytes : Tryd.prog.cellsOf 22 = 1 := by kernel_rfl
theorem c64 : Tryd.prog.cellsOf 81 = 64 := by kernel_rfl

theorem roots_laid {H : Type} : (Rows.laid_signetring_sha_roots : DataW H) = .agg (rootsL.map fun n : Nat => .lit (.int .u32 (n : Int))) := by kernel_rfl
/-- What the condition on the listed variable gives the walks. -/
theorem of_roots {W : World} (h : laidMetH Tryd.prog [("signetring/sha.roots", Rows.laid_signetring_sha_roots)] W) : RootsAt W := by
  rw [MakeChecks.laidMetH_plain _ _ _ (by kernel_rfl)] at h
  obtain ⟨ps, ⟨g0, t0, cs0, f0, p0, q0, hg0, ht0, hv0, hd0, _, _⟩, _, _⟩ := h
  obtain rfl := Option.some.inj (gRoots.symm.trans hg0)
  obtain rfl := Option.some.inj (tRoots.symm.trans ht0)
  have hcell := fun j => World.var?_cell hg0 hv0 j
  obtain ⟨xs, m1, rfl, hx1, hlen, hn4, hel⟩ := DataW.trod_array Tryd.underlying81 hd0
  rw [roots_laid] at hx1
  simp only [Prod.mk.injEq, DataW.agg.injEq] at hx1
  have key : ∀ (i : Nat) (n : Int), i < 64 → (xs.map (·.1))[i]? = some (.lit (.int .u32 n)) → W.cell? ⟨0, i, none⟩ = some (.int .u32 n) := by
    intro i n hi hn
    have h1 := hel i hi
    rw [cu32, Nat.mul_one] at h1
    have hxi : xs[i]? = some (xs[i]'(by omega)) := List.getElem?_eq_getElem _
    rw [hxi] at h1
    obtain ⟨k, e1, e2, _⟩ := DataW.trod_int Tryd.underlying47 h1
    have hk : k = n := by
      rw [List.getElem?_map, hxi, e2] at hn
      simpa using hn
    subst hk
    have hi' : i < cs0.toList.length := by rw [hlen, c64]; exact hi
    rw [List.drop_eq_getElem_cons hi'] at e1
    simp at e1
    have := hcell i
    rw [this]
    rw [Array.getElem?_eq_getElem (by simpa using hi')]
    exact congrArg some e1
  rw [← hx1.1] at key
  have hl : rootsL.length = 64 := by kernel_rfl
  have all : ∀ (i x : Nat), rootsL[i]? = some x → W.cell? ⟨0, i, none⟩ = some (.int .u32 (x : Int)) := fun i x hx => key i x (by have := (List.getElem?_eq_some_iff.1 hx).1; omega) (by rw [List.getElem?_map, hx]; rfl)
  refine ⟨?_, all⟩
  have h0 := all 0 _ (List.getElem?_eq_getElem (by omega))
  exact World.block_lt_of_cell? _ ⟨0, 0, none⟩ h0

/-- The number of a byte's value. -/
theorem byte_cell {H : Type} {enc : TypeId × Value → H} {W : World} {base : Nat} {sp : Nat → Bool} {held : Bool} {fuel : Nat} {v : Value} {x : DataW H × List MemPlace}
    (hf : DataW.trod enc Tryd.prog W base sp held fuel 5 [v] = some x) : ∃ n : Nat, v = .int .u8 (n : Int) ∧ n < 256 := by
  obtain ⟨k, e1, e2, hwf⟩ := DataW.trod_int Tryd.underlying5 hf
  have hb := bounds_u8 hwf
  obtain ⟨n, rfl⟩ := Int.eq_ofNat_of_zero_le hb.1
  exact ⟨n, by simpa using e1, by omega⟩
theorem bytes_cells {H : Type} {enc : TypeId × Value → H} {W : World} {base : Nat} {sp : Nat → Bool} {held : Bool} {fuel : Nat} {cs : List Value} {x : DataW H × List MemPlace}
    (hf : DataW.trod enc Tryd.prog W base sp held fuel 22 cs = some x) : ∃ v bs, cs = [v] ∧ BytesV v W bs ∧ Bytes bs ∧ bs.length ≤ maxLen := by
  rcases Go.Deep.open_slice1 Tryd.underlying22 cu8 hf with ⟨hcs, hx⟩ | ⟨a, len, cap, m, n, V, D, Pl, hcs, _, hl, hm, hmm, hx, hel⟩
  · exact ⟨_, [], hcs, ⟨none, 0, rfl, Nat.le_refl _, fun h => absurd rfl h⟩, fun i x hx => by simp at hx, Nat.zero_le _⟩
  · have hlm : len ≤ m := by rw [hmm]; split <;> omega
    have key : ∀ i, ∃ n : Nat, i < len → V i = .int .u8 (n : Int) ∧ n < 256 := fun i => by
      by_cases hi : i < len
      · obtain ⟨n, h1, h2⟩ := byte_cell (hel i (by omega)).2
        exact ⟨n, fun _ => ⟨h1, h2⟩⟩
      · exact ⟨0, fun h => absurd h hi⟩
    let f : Nat → Nat := fun i => Classical.choose (key i)
    have hk : ∀ i, i < len → V i = .int .u8 (f i : Int) ∧ f i < 256 := fun i => Classical.choose_spec (key i)
    have hget : ∀ (j x : Nat), ((List.range len).map f)[j]? = some x → j < len ∧ x = f j := fun j x hx => by
      rw [List.getElem?_map] at hx
      obtain ⟨y, hy, rfl⟩ := Option.map_eq_some_iff.1 hx
      obtain ⟨h1, h2⟩ := List.getElem?_eq_some_iff.1 hy
      simp at h1 h2
      exact ⟨h1, by rw [h2]⟩
    refine ⟨_, (List.range len).map f, hcs, ⟨some a, cap, by simp, by simpa using hl, fun hne => ⟨a, rfl, ?_, fun j x hx => ?_⟩⟩, fun j x hx => ?_, by simp; omega⟩
    · have h0 : 0 < len := by
        rcases Nat.eq_zero_or_pos len with h | h
        · subst h; exact absurd rfl hne
        · exact h
      have := World.block_lt_of_cell? _ _ (hel 0 (by omega)).1
      rwa [add_block] at this
    · obtain ⟨h1, rfl⟩ := hget j x hx
      rw [(hel j (by omega)).1, (hk j h1).1]
    · obtain ⟨h1, rfl⟩ := hget j x hx
      exact (hk j h1).2
theorem open_bytes {H : Type} {enc : TypeId × Value → H} {W : World} {r : Reach} {b0 base : Nat} {sp : Nat → Bool} {held : Bool} {v : Value} {d : DataW H} {p : List MemPlace}
    (hv : Value.okWide Tryd.prog W r b0 22 v) (h : DataW.Trod enc Tryd.prog W base sp held 22 v d p) : ∃ bs, BytesV v W bs ∧ Bytes bs ∧ bs.length ≤ maxLen := by
  obtain ⟨a0, len, cap, rfl⟩ := okWide_slice Tryd.underlying22 hv
  obtain ⟨fuel, hf⟩ := h
  obtain ⟨v', bs, h1, h2, h3, h4⟩ := bytes_cells hf
  simp [Value.cells] at h1
  subst h1
  exact ⟨bs, h2, h3, h4⟩

/-- Slices of bytes that a slice holds. -/
def RowsV (v : Value) (w : World) (V : Nat → Value) (ll : List (List Nat)) : Prop := ∃ p c, v = .slice p ll.length c ∧ ll.length ≤ c ∧ (ll ≠ [] → ∃ A, p = some A ∧ A.block < w.heap.size ∧ ∀ j, j < ll.length → w.cell? (A.add j) = some (V j)) ∧ ∀ (j : Nat) (bs : List Nat), ll[j]? = some bs → BytesV (V j) w bs ∧ Bytes bs ∧ bs.length ≤ maxLen
theorem RowsV.under {v : Value} {w w' : World} {V : Nat → Value} {ll : List (List Nat)} (h : RowsV v w V ll) (hb : Below w.heap.size w w') : RowsV v w' V ll := by
  obtain ⟨p, c, rfl, h2, h3, h4⟩ := h
  refine ⟨p, c, rfl, h2, fun hne => ?_, fun j bs hj => ⟨(h4 j bs hj).1.under hb, (h4 j bs hj).2⟩⟩
  obtain ⟨A, rfl, e2, e3⟩ := h3 hne
  exact ⟨A, rfl, Nat.lt_of_lt_of_le e2 hb.size, fun j hj => by rw [hb.cell (by rw [add_block]; exact e2)]; exact e3 j hj⟩
theorem open_rows {H : Type} {enc : TypeId × Value → H} {W : World} {r : Reach} {b0 base : Nat} {sp : Nat → Bool} {held : Bool} {v : Value} {d : DataW H} {p : List MemPlace}
    (hv : Value.okWide Tryd.prog W r b0 70 v) (h : DataW.Trod enc Tryd.prog W base sp held 70 v d p) : ∃ V ll, RowsV v W V ll ∧ ll.length ≤ maxLen := by
  obtain ⟨a0, len, cap, rfl⟩ := okWide_slice Tryd.underlying70 hv
  obtain ⟨fuel, hf⟩ := h
  rcases Go.Deep.open_slice1 Tryd.underlying70 cbytes hf with ⟨hcs, hx⟩ | ⟨a, len, cap, m, n, V, D, Pl, hcs, _, hl, hm, hmm, hx, hel⟩
  · simp [Value.cells] at hcs
    obtain ⟨rfl, rfl, rfl⟩ := hcs
    exact ⟨fun _ => undef, [], ⟨none, 0, rfl, Nat.le_refl _, fun h => absurd rfl h, fun j bs hj => by simp at hj⟩, Nat.zero_le _⟩
  · simp [Value.cells] at hcs
    obtain ⟨rfl, rfl, rfl⟩ := hcs
    have hlm : len ≤ m := by rw [hmm]; split <;> omega
    have key : ∀ i, ∃ bs : List Nat, i < len → BytesV (V i) W bs ∧ Bytes bs ∧ bs.length ≤ maxLen := fun i => by
      by_cases hi : i < len
      · obtain ⟨v', bs, h1, h2⟩ := bytes_cells (hel i (by omega)).2
        simp at h1
        subst h1
        exact ⟨bs, fun _ => h2⟩
      · exact ⟨[], fun h => absurd h hi⟩
    let f : Nat → List Nat := fun i => Classical.choose (key i)
    have hk : ∀ i, i < len → BytesV (V i) W (f i) ∧ Bytes (f i) ∧ (f i).length ≤ maxLen := fun i => Classical.choose_spec (key i)
    refine ⟨V, (List.range len).map f, ⟨some a, cap, by simp, by simpa using hl, fun hne => ⟨a, rfl, ?_, fun j hj => (hel j (by simp at hj; omega)).1⟩, fun j bs hj => ?_⟩, by simp; omega⟩
    · have h0 : 0 < len := by
        rcases Nat.eq_zero_or_pos len with h | h
        · subst h; exact absurd rfl hne
        · exact h
      have := World.block_lt_of_cell? _ _ (hel 0 (by omega)).1
      rwa [add_block] at this
    · rw [List.getElem?_map] at hj
      obtain ⟨y, hy, rfl⟩ := Option.map_eq_some_iff.1 hj
      obtain ⟨h1, h2⟩ := List.getElem?_eq_some_iff.1 hy
      simp at h1 h2
      subst h2
      exact hk j h1
end Go.Proofs.YthnkipicehppmaaDoor.sh
