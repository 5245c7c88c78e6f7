/-
  General pieces, joined: MO.
-/
import Derived.Test.YtjkdonjcngmjeaaGreatDoorRows
import Derived.Test.YtjkdonjcngmjeaaGreatDoorG38
import Derived.LaidMore
import Derived.Deep.Slices
/-
  What the condition on the listed variables gives the walks; an argument that is two texts, a number, and two texts more.
-/
namespace Go.Proofs.YtjkdonjcngmjeaaGreatDoor.sh
open Go Go.ChangeShapes Go.WideShapes Go.ChangeAt Go.RowKit
set_option linter.unusedVariables false
set_option linter.unusedSimpArgs false

theorem g1Roots : Tryz.prog.globalNamed "signetring/sha.roots" = some 0 := by kernel_rfl
theorem t1Roots : (Tryz.prog.globals[0]?).map (·.type) = some 132 := by kernel_rfl
theorem roots1_laid {H : Type} : (Rows.laid_signetring_sha_roots : DataW H) = .agg (rootsL.map fun n : Nat => .lit (.int .u32 (n : Int))) := by kernel_rfl
set_option maxRecDepth 100000 in
theorem of_roots1 {W : World} (h : laidMetH Tryz.prog [("signetring/sha.roots", Rows.laid_signetring_sha_roots)] W) : RootsAt W := by
  rw [MakeChecks.laidMetH_plain _ _ _ (by kernel_rfl)] at h
  obtain ⟨ps, ⟨g1, t1, cs1, f1, p1, q1, hg1, ht1, hv1, hd1, _, _⟩, _, _⟩ := h
  obtain rfl := Option.some.inj (g1Roots.symm.trans hg1)
  obtain rfl := Option.some.inj (t1Roots.symm.trans ht1)
  have hcell := fun j => World.var?_cell hg1 hv1 j
  obtain ⟨xs, m1, rfl, hx1, hlen, hn4, hel⟩ := DataW.trod_array Tryz.underlying132 hd1
  rw [roots1_laid] at hx1
  simp only [Prod.mk.injEq, DataW.agg.injEq] at hx1
  have key : ∀ (i : Nat) (n : Int), i < 64 → (xs.map (·.1))[i]? = some (.lit (.int .u32 n)) → W.cell? ⟨0, i, none⟩ = some (.int .u32 n) := by
    intro i n hi hn
    have h1 := hel i hi
    rw [cu32, Nat.mul_one] at h1
    have hxi : xs[i]? = some (xs[i]'(by omega)) := List.getElem?_eq_getElem _
    rw [hxi] at h1
    obtain ⟨k, e1, e2, _⟩ := DataW.trod_int Tryz.underlying72 h1
    have hk : k = n := by
      rw [List.getElem?_map, hxi, e2] at hn
      simpa using hn
    subst hk
    have hi' : i < cs1.toList.length := by rw [hlen, c64]; exact hi
    rw [List.drop_eq_getElem_cons hi'] at e1
    simp at e1
    have := hcell i
    rw [this]
    rw [Array.getElem?_eq_getElem (by simpa using hi')]
    exact congrArg some e1
  rw [← hx1.1] at key
  have hl : rootsL.length = 64 := by kernel_rfl
  have all : ∀ (i x : Nat), rootsL[i]? = some x → W.cell? ⟨0, i, none⟩ = some (.int .u32 (x : Int)) := fun i x hx => key i x (by have := (List.getElem?_eq_some_iff.1 hx).1; omega) (by rw [List.getElem?_map, hx]; rfl)
  refine ⟨?_, all⟩
  have h0 := all 0 _ (List.getElem?_eq_getElem (by omega))
  exact World.block_lt_of_cell? _ ⟨0, 0, none⟩ h0
set_option maxRecDepth 100000 in
theorem of_roots3 {W : World} (h : laidMetH Tryz.prog [("signetring/sha.roots", Rows.laid_signetring_sha_roots), ("unicode/utf8.acceptRanges", Rows.laid_unicode_utf8_acceptRanges), ("unicode/utf8.first", Rows.laid_unicode_utf8_first)] W) : RootsAt W := by
  rw [MakeChecks.laidMetH_plain _ _ _ (by kernel_rfl)] at h
  obtain ⟨ps, ⟨g1, t1, cs1, f1, p1, q1, hg1, ht1, hv1, hd1, _⟩, _, _⟩ := h
  obtain rfl := Option.some.inj (g1Roots.symm.trans hg1)
  obtain rfl := Option.some.inj (t1Roots.symm.trans ht1)
  have hcell := fun j => World.var?_cell hg1 hv1 j
  obtain ⟨xs, m1, rfl, hx1, hlen, hn4, hel⟩ := DataW.trod_array Tryz.underlying132 hd1
  rw [roots1_laid] at hx1
  simp only [Prod.mk.injEq, DataW.agg.injEq] at hx1
  have key : ∀ (i : Nat) (n : Int), i < 64 → (xs.map (·.1))[i]? = some (.lit (.int .u32 n)) → W.cell? ⟨0, i, none⟩ = some (.int .u32 n) := by
    intro i n hi hn
    have h1 := hel i hi
    rw [cu32, Nat.mul_one] at h1
    have hxi : xs[i]? = some (xs[i]'(by omega)) := List.getElem?_eq_getElem _
    rw [hxi] at h1
    obtain ⟨k, e1, e2, _⟩ := DataW.trod_int Tryz.underlying72 h1
    have hk : k = n := by
      rw [List.getElem?_map, hxi, e2] at hn
      simpa using hn
    subst hk
    have hi' : i < cs1.toList.length := by rw [hlen, c64]; exact hi
    rw [List.drop_eq_getElem_cons hi'] at e1
    simp at e1
    have := hcell i
    rw [this]
    rw [Array.getElem?_eq_getElem (by simpa using hi')]
    exact congrArg some e1
  rw [← hx1.1] at key
  have hl : rootsL.length = 64 := by kernel_rfl
  have all : ∀ (i x : Nat), rootsL[i]? = some x → W.cell? ⟨0, i, none⟩ = some (.int .u32 (x : Int)) := fun i x hx => key i x (by have := (List.getElem?_eq_some_iff.1 hx).1; omega) (by rw [List.getElem?_map, hx]; rfl)
  refine ⟨?_, all⟩
  have h0 := all 0 _ (List.getElem?_eq_getElem (by omega))
  exact World.block_lt_of_cell? _ ⟨0, 0, none⟩ h0

theorem c_two : Tryz.prog.cellsOf 24 = 5 := by kernel_rfl
theorem nat_of_u64T {y : Int} (h : (Lit.int .u64 y).wf = true) : ∃ a : Nat, y = (a : Int) ∧ a < 18446744073709551616 := by
  have := bounds_u64 h
  exact ⟨y.toNat, by omega, by omega⟩
set_option maxRecDepth 100000 in
theorem open_two5 {H : Type} {enc : TypeId × Value → H} {W : World} {r : Reach} {b0 base : Nat} {sp : Nat → Bool} {held : Bool} {v : Value} {d : DataW H} {p : List MemPlace}
    (hv : Value.okWide Tryz.prog W r b0 24 v) (h : DataW.Trod enc Tryz.prog W base sp held 24 v d p) : ∃ (A B C T : List Nat) (N : Nat), v = .agg #[.string (strOf A), .string (strOf B), .int .u64 (N : Int), .string (strOf C), .string (strOf T)] ∧ Bytes A ∧ Bytes B ∧ Bytes C ∧ Bytes T ∧ N < 18446744073709551616 := by
  unfold Value.okWide at hv
  rw [Tryz.underlying24] at hv
  obtain ⟨cs, rfl, hsz, _⟩ := hv
  rw [c_two] at hsz
  obtain ⟨fuel, hf⟩ := h
  obtain ⟨xs, m, _, hx, hl, hlen, hff⟩ := DataW.trod_struct Tryz.underlying24 hf
  have hx5 : xs.length = 5 := hlen
  have hl5 : cs.toList.length = 5 := by simpa using hsz
  obtain ⟨c0, c1, c2, c3, c4, hcs⟩ : ∃ a b c d e, cs.toList = [a, b, c, d, e] := by
    match cs.toList, hl5 with
    | [a, b, c, d, e], _ => exact ⟨a, b, c, d, e, rfl⟩
  obtain ⟨x0, x1, x2, x3, x4, rfl⟩ : ∃ a b c d e, xs = [a, b, c, d, e] := by
    match xs, hx5 with
    | [a, b, c, d, e], _ => exact ⟨a, b, c, d, e, rfl⟩
  have hcv : (Value.agg cs).cells.toList = [c0, c1, c2, c3, c4] := hcs
  rw [hcv] at hff
  have f0 : DataW.trod enc Tryz.prog W base sp held m 9 (([c0, c1, c2, c3, c4].drop 0).take (Tryz.prog.cellsOf 9)) = some x0 := hff 0 _ rfl
  have f1 : DataW.trod enc Tryz.prog W base sp held m 9 (([c0, c1, c2, c3, c4].drop 1).take (Tryz.prog.cellsOf 9)) = some x1 := hff 1 _ rfl
  have f2 : DataW.trod enc Tryz.prog W base sp held m 22 (([c0, c1, c2, c3, c4].drop 2).take (Tryz.prog.cellsOf 22)) = some x2 := hff 2 _ rfl
  have f3 : DataW.trod enc Tryz.prog W base sp held m 9 (([c0, c1, c2, c3, c4].drop 3).take (Tryz.prog.cellsOf 9)) = some x3 := hff 3 _ rfl
  have f4 : DataW.trod enc Tryz.prog W base sp held m 9 (([c0, c1, c2, c3, c4].drop 4).take (Tryz.prog.cellsOf 9)) = some x4 := hff 4 _ rfl
  rw [show Tryz.prog.cellsOf 9 = 1 by kernel_rfl] at f0 f1 f3 f4
  rw [show Tryz.prog.cellsOf 22 = 1 by kernel_rfl] at f2
  obtain ⟨a0, e0, _, _⟩ := DataW.trod_string Tryz.underlying9 f0
  obtain ⟨a1, e1, _, _⟩ := DataW.trod_string Tryz.underlying9 f1
  obtain ⟨a2, e2, _, w2⟩ := DataW.trod_int Tryz.underlying22 f2
  obtain ⟨a3, e3, _, _⟩ := DataW.trod_string Tryz.underlying9 f3
  obtain ⟨a4, e4, _, _⟩ := DataW.trod_string Tryz.underlying9 f4
  simp at e0 e1 e2 e3 e4
  obtain ⟨n, rfl, hn⟩ := nat_of_u64T w2
  subst e0 e1 e2 e3 e4
  refine ⟨strL a0, strL a1, strL a3, strL a4, n, ?_, strL_bytes _, strL_bytes _, strL_bytes _, strL_bytes _, hn⟩
  congr 1
  apply Array.toList_inj.1
  rw [hcs]
  simp [strOf_strL]
end Go.Proofs.YtjkdonjcngmjeaaGreatDoor.sh
