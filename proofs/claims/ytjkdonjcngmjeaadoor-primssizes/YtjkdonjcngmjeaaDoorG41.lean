/-
  General pieces, joined: MO.
-/
import Derived.Test.YtjkdonjcngmjeaaDoorRows
import Derived.Test.YtjkdonjcngmjeaaDoorG32
import Derived.LaidMore
import Derived.Deep.Slices
/-
  What the condition on the listed variables gives the walks; an argument that is two texts, a number, and two texts more.
-/
namespace Go.Proofs.YtjkdonjcngmjeaaDoor.sh
open Go Go.ChangeShapes Go.WideShapes Go.ChangeAt Go.RowKit
set_option linter.unusedVariables false
set_option linter.unusedSimpArgs false

theorem g1Roots : Tryd.prog.globalNamed "signetring/sha.roots" = some 0 := by kernel_rfl
theorem t1Roots : (Tryd.prog.globals[0]?).map (·.type) = some 59 := by kernel_rfl
theorem roots1_laid {H : Type} : (Rows.laid_signetring_sha_roots : DataW H) = .agg (rootsL.map fun n : Nat => .lit (.int .u32 (n : Int))) := by kernel_rfl
set_option maxRecDepth 100000 in
theorem of_roots1 {W : World} (h : laidMetH Tryd.prog [("signetring/sha.roots", Rows.laid_signetring_sha_roots)] W) : RootsAt W := by
  rw [MakeChecks.laidMetH_plain _ _ _ (by kernel_rfl)] at h
  obtain ⟨ps, ⟨g1, t1, cs1, f1, p1, q1, hg1, ht1, hv1, hd1, _, _⟩, _, _⟩ := h
  obtain rfl := Option.some.inj (g1Roots.symm.trans hg1)
  obtain rfl := Option.some.inj (t1Roots.symm.trans ht1)
  have hcell := fun j => World.var?_cell hg1 hv1 j
  obtain ⟨xs, m1, rfl, hx1, hlen, hn4, hel⟩ := DataW.trod_array Tryd.underlying59 hd1
  rw [roots1_laid] at hx1
  simp only [Prod.mk.injEq, DataW.agg.injEq] at hx1
  have key : ∀ (i : Nat) (n : Int), i < 64 → (xs.map (·.1))[i]? = some (.lit (.int .u32 n)) → W.cell? ⟨0, i, none⟩ = some (.int .u32 n) := by
    intro i n hi hn
    have h1 := hel i hi
    rw [cu32, Nat.mul_one] at h1
    have hxi : xs[i]? = some (xs[i]'(by omega)) := List.getElem?_eq_getElem _
    rw [hxi] at h1
    obtain ⟨k, e1, e2, _⟩ := DataW.trod_int Tryd.underlying45 h1
    have hk : k = n := by
      rw [List.getElem?_map, hxi, e2] at hn
      simpa using hn
    subst hk
    have hi' : i < cs1.toList.length := by rw [hlen, c64]; exact hi
    rw [List.drop_eq_getElem_cons hi'] at e1
    simp at e1
    have := hcell i
    rw [this]
    rw [Array.getElem?_eq_getElem (by simpa using hi')]
    exact congrArg some e1
  rw [← hx1.1] at key
  have hl : rootsL.length = 64 := by kernel_rfl
  have all : ∀ (i x : Nat), rootsL[i]? = some x → W.cell? ⟨0, i, none⟩ = some (.int .u32 (x : Int)) := fun i x hx => key i x (by have := (List.getElem?_eq_some_iff.1 hx).1; omega) (by rw [List.getElem?_map, hx]; rfl)
  refine ⟨?_, all⟩
  have h0 := all 0 _ (List.getElem?_eq_getElem (by omega))
  exact World.block_lt_of_cell? _ ⟨0, 0, none⟩ h0
end Go.Proofs.YtjkdonjcngmjeaaDoor.sh
