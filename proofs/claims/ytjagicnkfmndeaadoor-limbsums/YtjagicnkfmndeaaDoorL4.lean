/-
  What LimbSums answers, for whatever slice and byte come in.
-/
import Derived.Test.YtjagicnkfmndeaaDoorOpen2
namespace Go.Proofs.YtjagicnkfmndeaaDoor
open Go Go.RowKit

theorem sums_all (v : Value) (n : Int) (w : World) (hv : v = .slice none 0 0 ∨ ∃ A len cap f, v = .slice (some A) len cap ∧ (len = 0 ∨ Lies w A len f) ∧ ∀ i, i < len → f i < 115792089237316195423570985008687907853269984665640564039457584007913129639936)
    (hn : (Lit.int .u8 n).wf = true) (hp : PrimeAt w) : Calls Tryd.prog 5 #[v, .int .u8 n] w fun e w' => e = .returned (.bool true) ∧ Below w.heap.size w w' := by
  have hb := bounds_u8 hn
  obtain ⟨s, rfl⟩ := Int.eq_ofNat_of_zero_le hb.1
  rcases hv with rfl | ⟨A, len, cap, f, rfl, h0 | hl, hf⟩
  · exact sums_none none 0 s w (by omega) hp
  · subst h0; exact sums_none (some A) cap s w (by omega) hp
  · exact sums_any A len cap f s w hf hl (by omega) hp
end Go.Proofs.YtjagicnkfmndeaaDoor
