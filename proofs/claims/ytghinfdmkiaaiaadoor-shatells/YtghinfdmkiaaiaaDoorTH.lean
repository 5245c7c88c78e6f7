/-
  The roots that the reference reckons are the program's.
-/
import Derived.Test.YtghinfdmkiaaiaaDoorTG
namespace Go.Proofs.YtghinfdmkiaaiaaDoor.sh
open Go Go.RowKit
set_option linter.unusedVariables false
set_option linter.unusedSimpArgs false

theorem found311 : (found 311).length = 63 := by kernel_rfl
theorem found312 : (found 312).length = 64 := by kernel_rfl
theorem found19 : (found 19).length = 7 := by kernel_rfl
theorem found20 : (found 20).length = 8 := by kernel_rfl
theorem cubes : (found 312).map (rootOf 3) = rootsL := by kernel_rfl
theorem squares : (found 20).map (rootOf 2) = firstL := by kernel_rfl
theorem below312 (p : Nat) (h : p < 312) : (found p).length < 64 := by
  have := found_le (311 - p) p
  rw [show p + (311 - p) = 311 from by omega, found311] at this
  omega
theorem below20 (p : Nat) (h : p < 20) : (found p).length < 8 := by
  have := found_le (19 - p) p
  rw [show p + (19 - p) = 19 from by omega, found19] at this
  omega
theorem roots64 (w : World) : Calls Tryd.prog 13 #[.int .i64 64, .int .i64 3] w fun e w' => ∃ v, e = .returned v ∧ Row w.heap.size 26 .u32 rootsL v w' ∧ Below w.heap.size w w' := by
  rw [← cubes]
  exact roots_any 64 312 3 w (by decide) (by decide) (by decide) below312 found312 (by decide) (by decide)
theorem roots8 (w : World) : Calls Tryd.prog 13 #[.int .i64 8, .int .i64 2] w fun e w' => ∃ v, e = .returned v ∧ Row w.heap.size 26 .u32 firstL v w' ∧ Below w.heap.size w w' := by
  rw [← squares]
  exact roots_any 8 20 2 w (by decide) (by decide) (by decide) below20 found20 (by decide) (by decide)
end Go.Proofs.YtghinfdmkiaaiaaDoor.sh
