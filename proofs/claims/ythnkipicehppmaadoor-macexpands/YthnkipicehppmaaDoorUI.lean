/-
  mac.Expand; mac.Keys where it is refused.
-/
import Derived.Test.YthnkipicehppmaaDoorUH
namespace Go.Proofs.YthnkipicehppmaaDoor.sh
open Go Go.RowKit
set_option linter.unusedVariables false
set_option linter.unusedSimpArgs false

set_option maxRecDepth 100000 in
set_option maxHeartbeats 1000000 in
theorem Expand_ok (key info : List Nat) (n : Nat) (vi : Value) (w : World) (hk : key.length = 32) (hy : Bytes key) (hi : Bytes info) (hin : info.length < 800000000) (hn : n ≤ 8160) (hr : RootsAt w) (hvi : BytesV vi w info) :
    Calls Tryd.prog 14 #[.agg (ints .u8 key), vi, .int .i64 (n : Int)] w fun e w' => ∃ v, e = .returned (.tuple #[v, .int .i64 0]) ∧ Row w.heap.size 5 .u8 (expL key info n) v w' ∧ Below w.heap.size w w' := by
  have A0 : Blk (w.alloc (.cells (ints .u8 key) 24)) w.heap.size 24 (ints .u8 key) := blk_new w _ _
  have Q0 : Below w.heap.size w (w.alloc (.cells (ints .u8 key) 24)) := (Below.refl _ _).alloc (Nat.le_refl _) _
  have LK : Kept _ := ⟨hk⟩
  obtain ⟨X, hX⟩ : ∃ X, X = expL key info n := ⟨_, rfl⟩
  rw [← hX]
  have C0 : Kept (Calls Tryd.prog 24 #[.agg (ints .u8 key), vi, .int .i64 (n : Int)] (w.alloc (.cells (ints .u8 key) 24)) fun e w' => ∃ v, e = .returned v ∧ Row (w.alloc (.cells (ints .u8 key) 24)).heap.size 5 .u8 X v w' ∧ Below (w.alloc (.cells (ints .u8 key) 24)).heap.size (w.alloc (.cells (ints .u8 key) 24)) w') := ⟨by rw [hX]; exact expanded_any key info n vi _ hk hy hi hin hn (hr.below hr.1 Q0) (hvi.under Q0)⟩
  clear hk hy hi hin hr hvi hX
  have h0 : ¬ (n : Int) < 0 := by omega
  have h1 : ¬ (8160 : Int) < (n : Int) := by omega
  go_enter Tryd.func14, Tryd.ntmps14
  go_wp2_with (first | ((with_reducible refine wv_row (d := 14) ?hd ?hw 24 (.tmp 3) ?ho (w.heap.size) ?hx (t' := 24) (ints .u8 key) _ _ Tryd.underlying24 ?hs ?hg ?_); (case hd => rfl); (case hw => kernel_rfl); (case ho => rfl); (case hx => kernel_rfl); (case hs => rw [ints_size, LK.out]; exact t32_info); (case hg => exact A0); simp only [Act.put, List.setIfInBounds_toArray, List.set_cons_succ, List.set_cons_zero]))
  refine C0.out.mono ?_
  rintro e w1 ⟨v, rfl, RX, hb1⟩
  have RX' := Row.mono RX Q0.size
  have Q1 := Q0.trans (hb1.mono Q0.size)
  clear RX C0 A0 Q0 hb1
  go_wp2_with fail
  go_ret2
  exact ⟨_, rfl, RX', Q1⟩
set_option maxRecDepth 100000 in
set_option maxHeartbeats 1000000 in
theorem Expand_bad (C : Array Value) (z : Int) (vi : Value) (w : World) (hz : z < 0 ∨ 8160 < z) :
    Calls Tryd.prog 14 #[.agg C, vi, .int .i64 z] w fun e w' => e = .returned (.tuple #[.slice none 0 0, .int .i64 2]) ∧ Below w.heap.size w w' := by
  have Q0 : Below w.heap.size w (w.alloc (.cells C 24)) := (Below.refl _ _).alloc (Nat.le_refl _) _
  rcases hz with h | h
  · go_enter Tryd.func14, Tryd.ntmps14
    go_wp2_with fail
    go_ret2
    exact ⟨rfl, Q0⟩
  · have h0 : ¬ z < 0 := by omega
    go_enter Tryd.func14, Tryd.ntmps14
    go_wp2_with fail
    go_ret2
    exact ⟨rfl, Q0⟩
set_option maxRecDepth 100000 in
set_option maxHeartbeats 1000000 in
theorem Keys_bad (C : Array Value) (z : Int) (vi : Value) (w : World) (hz : z < 1 ∨ 3 < z) :
    Calls Tryd.prog 16 #[.agg C, vi, .int .i64 z] w fun e w' => e = .returned (.tuple #[.slice none 0 0, .int .i64 2]) ∧ Below w.heap.size w w' := by
  have Q0 : Below w.heap.size w (w.alloc (.cells C 24)) := (Below.refl _ _).alloc (Nat.le_refl _) _
  rcases hz with h | h
  · go_enter Tryd.func16, Tryd.ntmps16
    go_wp2_with fail
    go_ret2
    exact ⟨rfl, Q0⟩
  · have h0 : ¬ z < 1 := by omega
    go_enter Tryd.func16, Tryd.ntmps16
    go_wp2_with fail
    go_ret2
    exact ⟨rfl, Q0⟩
end Go.Proofs.YthnkipicehppmaaDoor.sh
