/-
  What ShaTells answers.
-/
import Derived.Test.YtghinfdmkiaaiaaDoorTN
namespace Go.Proofs.YtghinfdmkiaaiaaDoor.sh
open Go Go.RowKit
set_option linter.unusedVariables false
set_option linter.unusedSimpArgs false


theorem cWrite0 {cs : List Nat} {v : Value} {w : World} (hc : Bytes cs) (hn : cs.length < 1000000000) (hr : RootsAt w) (hv : BytesV v w cs) :
    Calls Tryd.prog 11 #[.agg (dgs []), v] w fun e w' => e = .returned (.agg (dgs cs)) ∧ Below w.heap.size w w' := by
  have h := cWrite nil_bytes hc (by simpa using hn) hr hv
  rw [List.nil_append] at h
  exact h
set_option maxRecDepth 100000 in
set_option maxHeartbeats 4000000 in
theorem tells_any (v0 : Value) (bs : List Nat) (w : World) (hv0 : BytesV v0 w bs) (hy0 : Bytes bs) (hl0 : bs.length ≤ maxLen) (hr : RootsAt w) :
    Calls Tryd.prog 3 #[v0] w fun e w' => e = .returned (.bool true) ∧ Below w.heap.size w w' := by
  have KB0 : Kept _ := ⟨hv0⟩
  obtain ⟨p0, c0, rfl, _, _⟩ := hv0
  have KR : Kept _ := ⟨hr⟩
  have YB : Kept _ := ⟨hy0⟩
  have h0 := hr.1
  obtain ⟨n0, hn0⟩ : ∃ n, n = bs.length := ⟨_, rfl⟩
  rw [← hn0] at KB0 hl0
  have EN0 : Kept _ := ⟨hn0⟩
  have l0 : n0 < 9223372036854775808 := by unfold maxLen at hl0; omega
  rw [← hn0]
  clear hy0 hn0 hl0
  go_enter Tryd.func3, Tryd.ntmps3
  go_wp2_with fail
  refine (alive3_any w hr).mono ?_
  rintro e w1 ⟨rfl, hb1⟩
  have R1 : Kept (RootsAt w1) := ⟨KR.out.under hb1⟩
  have B1 : Kept (BytesV (.slice p0 n0 c0) w1 bs) := ⟨KB0.out.under hb1⟩
  clear hr KB0
  by_cases hb : 1000 < n0
  · have hb' : (1000 : Int) < (n0 : Int) := by omega
    go_wp2_with fail
    go_ret
    exact ⟨rfl, hb1⟩
  have hb' : ¬ (1000 : Int) < (n0 : Int) := by omega
  have L1 : Kept (bs.length ≤ 1000) := ⟨by have := EN0.out; omega⟩
  have L9 : Kept (bs.length < 1000000000) := ⟨by have := L1.out; omega⟩
  go_wp2_with fail
  refine (cSum YB.out L9.out R1.out B1.out).mono ?_
  rintro e w2 ⟨rfl, hb2⟩
  have B2 : Kept _ := ⟨B1.out.under hb2⟩
  have R2 : Kept _ := ⟨R1.out.under hb2⟩
  have HB2 := hb1.trans (hb2.mono hb1.size)
  clear B1 R1 hb1 hb2
  go_wp2_with fail
  refine (rSum_any bs _ w2 B2.out YB.out L1.out).mono ?_
  rintro e w3 ⟨rfl, hb3⟩
  have B3 : Kept _ := ⟨B2.out.under hb3⟩
  have R3 : Kept _ := ⟨R2.out.under hb3⟩
  have HB3 := HB2.trans (hb3.mono HB2.size)
  clear B2 R2 HB2 hb3
  go_wp2_with (first | ((with_reducible refine wv_val (d := 12) ?hd ?hw (.bool true) ?hr ?_); (case hd => rfl); (case hw => kernel_rfl); (case hr => intro w; rw [run_eql_row (sumL bs) (sumL bs) rfl (by kernel_rfl) (by kernel_rfl) (sumL_len _) (sumL_len _) Tryd.underlying24 Tryd.underlying5 sz_u8 ag_u8 eg32]; rw [decide_eq_true rfl]); simp only [Act.put, List.setIfInBounds_toArray, List.set_cons_succ, List.set_cons_zero]) | ((with_reducible refine wv_val (d := 14) ?hd ?hw (.agg (dgs [])) ?hr ?_); (case hd => rfl); (case hw => kernel_rfl); (case hr => intro w; exact build_run rfl dgs_build w); simp only [Act.put, List.setIfInBounds_toArray, List.set_cons_succ, List.set_cons_zero]))
  refine (cWrite0 YB.out L9.out R3.out B3.out).mono ?_
  rintro e w4 ⟨rfl, hb4⟩
  have B4 : Kept _ := ⟨B3.out.under hb4⟩
  have R4 : Kept _ := ⟨R3.out.under hb4⟩
  have HB4 := HB3.trans (hb4.mono HB3.size)
  clear B3 R3 HB3 hb4
  go_wp2_with fail
  refine (cDSum YB.out L9.out R4.out).mono ?_
  rintro e w5 ⟨rfl, hb5⟩
  have B5 : Kept _ := ⟨B4.out.under hb5⟩
  have HB5 := HB4.trans (hb5.mono HB4.size)
  clear B4 R4 HB4 hb5
  go_wp2_with fail
  refine (rSum_any bs _ w5 B5.out YB.out L1.out).mono ?_
  rintro e w6 ⟨rfl, hb6⟩
  have HB6 := HB5.trans (hb6.mono HB5.size)
  clear B5 HB5 hb6
  go_wp2_with (first | ((with_reducible refine wv_val (d := 20) ?hd ?hw (.bool true) ?hr ?_); (case hd => rfl); (case hw => kernel_rfl); (case hr => intro w; rw [run_eql_row (sumL bs) (sumL bs) rfl (by kernel_rfl) (by kernel_rfl) (sumL_len _) (sumL_len _) Tryd.underlying24 Tryd.underlying5 sz_u8 ag_u8 eg32]; rw [decide_eq_true rfl]); simp only [Act.put, List.setIfInBounds_toArray, List.set_cons_succ, List.set_cons_zero]))
  go_ret
  exact ⟨rfl, HB6⟩
end Go.Proofs.YtghinfdmkiaaiaaDoor.sh
