/-
  A digest of bytes, as a value; its calls' contracts in those words.
-/
import Derived.Test.YthnkipicehppmaaDoorSV
namespace Go.Proofs.YthnkipicehppmaaDoor.sh
open Go Go.RowKit
set_option linter.unusedVariables false
set_option linter.unusedSimpArgs false

/-- The cells of the digest that bytes come to. -/
def dgs (bs : List Nat) : Array Value := digOf (feed initD bs)
theorem dgs_good {bs : List Nat} (h : Bytes bs) : Good (feed initD bs) := init_good.feed bs h
theorem dgs_size {bs : List Nat} (h : Bytes bs) : (dgs bs).size = 73 := dig_size (dgs_good h)
theorem dgs_info {bs : List Nat} (h : Bytes bs) : (Tryd.prog.info? 53).map (·.size) = some (dgs bs).size := by rw [dgs_size h]; exact dig_info
theorem dgs_one (bs : List Nat) : (dgs bs).all (·.oneCell') = true := digA_one _ _ _
theorem dgs_n (bs : List Nat) : (feed initD bs).2.2 = bs.length := by rw [feed_n]; simp [initD]
theorem dgs_zero (w : World) : (zeroValue 53).run Tryd.prog w = .ok (.agg (dgs [])) w := by rw [show dgs [] = digOf initD from rfl, ← init_val]; kernel_rfl
theorem dgs_build (w : World) : (Instr.build 53 #[]).run Tryd.prog w = .ok (.agg (dgs [])) w := by rw [show dgs [] = digOf initD from rfl, ← init_val]; kernel_rfl
theorem nil_bytes : Bytes [] := fun i x hx => by simp at hx
theorem cWrite {bs cs : List Nat} {v : Value} {w : World} (hb : Bytes bs) (hc : Bytes cs) (hn : bs.length + cs.length < 1000000000) (hr : RootsAt w) (hv : BytesV v w cs) :
    Calls Tryd.prog 27 #[.agg (dgs bs), v] w fun e w' => e = .returned (.agg (dgs (bs ++ cs))) ∧ Below w.heap.size w w' := by
  unfold dgs
  rw [feed_append]
  exact Write_any _ cs v w (dgs_good hb) hc (by rw [dgs_n]; omega) hv hr
theorem cDSum {bs : List Nat} {w : World} (hb : Bytes bs) (hn : bs.length < 1000000000) (hr : RootsAt w) :
    Calls Tryd.prog 28 #[.agg (dgs bs)] w fun e w' => e = .returned (.agg (ints .u8 (sumL bs))) ∧ Below w.heap.size w w' :=
  DSum_any _ w (dgs_good hb) (by rw [dgs_n]; omega) hr
theorem cSum {bs : List Nat} {v : Value} {w : World} (hb : Bytes bs) (hn : bs.length < 1000000000) (hr : RootsAt w) (hv : BytesV v w bs) :
    Calls Tryd.prog 19 #[v] w fun e w' => e = .returned (.agg (ints .u8 (sumL bs))) ∧ Below w.heap.size w w' :=
  Sum_any bs v w hb (by omega) hv hr
theorem RootsAt.under {w w' : World} (h : RootsAt w) (hb : Below w.heap.size w w') : RootsAt w' := h.below h.1 hb
theorem ag_bytes (w : World) : (isAgg 22).run Tryd.prog w = .ok false w := by kernel_rfl
theorem sz_bytes (w : World) : (sizeOf 22).run Tryd.prog w = .ok 1 w := by kernel_rfl
theorem grown_below0 {w w' : World} {v : Value} {B : Nat} (h : w.grownBy w' (blkOf v)) (hB : B ≤ w.heap.size) (hr : ∀ b, blkOf v = some b → B ≤ b) : Below B w w' := grown_mono h hB hr
end Go.Proofs.YthnkipicehppmaaDoor.sh
