/-
  General pieces, joined: MM.
-/
import Derived.Test.YtjkdonjcngmjeaaGreatDoorG41
/-
  PrimsBack, walked.
-/
namespace Go.Proofs.YtjkdonjcngmjeaaGreatDoor.sh
open Go Go.RowKit
set_option linter.unusedVariables false
set_option linter.unusedSimpArgs false

section
variable {h : List Oper} {A0 A : Act} {W0 : World} {S : Nat → Option (Value → World → Prop)} {sp O : List Nat} {E : List (Nat × Nat)} {i : Nat} {o : Oper}
theorem run_mk32 (w : World) : (Instr.makeSlice 34 (.int .i64 32) (.int .i64 32)).run Tryz.prog w = .ok (.slice (some ⟨w.heap.size, 0, none⟩) 32 32) (w.alloc (.cells (ints .u8 (List.replicate 32 0)) 5)) := by kernel_rfl
theorem ow_make32 (hA : Full h A0 A S sp) (hw : Wants h A0 A S O E W0.heap.size i o) (d : Nat) (hd : o.dst = some d) (ho : o.op = .makeSlice 34 (.const (.int .i64 32)) (.const (.int .i64 32))) (Z : List Nat) (hZ : Z = List.replicate 32 0) (hO : O.contains d = false) (hp : S d = some (fun v w => BytesV v w Z)) : OwnOk Tryz.prog h A0 W0 (relR A S) O E i o :=
  ow_run hw d hd fun a w hF hB hgot => by
    have hv : BytesV (.slice (some ⟨w.heap.size, 0, none⟩) 32 32) (w.alloc (.cells (ints .u8 (List.replicate 32 0)) 5)) (List.replicate 32 0) := blk_bytes (blk_new w _ _) (by simp)
    rw [← hZ] at hv
    refine ⟨_, _, none, ?_, rel_spec _ hp hv, grown_none ((Below.refl _ _).alloc (Nat.le_refl _) _), fun b hb => (by cases hb), fun h3 => by rw [hO] at h3; cases h3⟩
    unfold execOp
    simp only [ho, Act.eval]
    simp [run_mk32, hZ]
theorem ow_strS (hA : Full h A0 A S sp) (hw : Wants h A0 A S O E W0.heap.size i o) (d : Nat) (v : Value) (s : Nat) (hd : o.dst = some d) (hds : sp.contains d = false) (hv : A.tmps[d]? = some v) (ho : o.op = .convert 34 9 (.tmp s)) (hws : waitsFor h o s = true) (Z : List Nat) (hp : S s = some (fun v w => BytesV v w Z)) (hvS : v = .string (strOf Z)) (hEs : (E.all fun q => q.2 != s || q.1 == i) = true) (hO : O.contains d = false) : OwnOk Tryz.prog h A0 W0 (relR A S) O E i o :=
  ow_run hw d hd fun a w hF hB hgot => by
    obtain ⟨e2, _⟩ := gotE_spec hgot (d := s) _ hws hEs hp
    refine ⟨v, w, none, by rw [hvS]; exact run_str ho rfl e2, ?_, grown_none (Below.refl _ _), fun b hb => (by cases hb), fun h3 => by rw [hO] at h3; cases h3⟩
    unfold relR
    rw [hA.spec d (not_mem_of hds)]
    exact hv
end
theorem run_bsP (tb : Nat) (w : World) : (Instr.buildSlice 60 2 #[(0, .iface 64 (.agg #[])), (1, .iface 90 (.agg #[.pointer (some ⟨tb, 0, none⟩)]))]).run Tryz.prog w = .ok (.slice (some ⟨w.heap.size, 0, none⟩) 2 2) (w.alloc (.cells #[.iface 64 (.agg #[]), .iface 90 (.agg #[.pointer (some ⟨tb, 0, none⟩)])] 27)) := by kernel_rfl
theorem wl_bsP {ops : Array Oper} {rest : List Oper} {o : Oper} {a : Act} {w : World} {Q : Exit → Act → World → Prop} (hgd : o.guard = none) (tb : Nat) (x0 x1 : Operand) (ho : o.op = .buildSlice 60 2 #[(0, x0), (1, x1)]) (h0 : a.eval x0 = .iface 64 (.agg #[])) (h1 : a.eval x1 = .iface 90 (.agg #[.pointer (some ⟨tb, 0, none⟩)]))
    (h : wpList Tryz.prog ops Q rest (a.put o.dst (.slice (some ⟨w.heap.size, 0, none⟩) 2 2)) (w.alloc (.cells #[.iface 64 (.agg #[]), .iface 90 (.agg #[.pointer (some ⟨tb, 0, none⟩)])] 27))) : wpList Tryz.prog ops Q (o :: rest) a w :=
  wpList_plain hgd fun K hK => by
    have hrun : (execOp a.eval o).run Tryz.prog w = .ok (.value (.slice (some ⟨w.heap.size, 0, none⟩) 2 2)) (w.alloc (.cells #[.iface 64 (.agg #[]), .iface 90 (.agg #[.pointer (some ⟨tb, 0, none⟩)])] 27)) := by
      unfold execOp
      simp only [ho]
      simp [h0, h1, run_bsP]
    unfold Oper.wp
    rw [hrun]
    exact hK _ _ h
theorem run_eqN {o : Oper} {a : Act} {x y : Operand} {m n : Nat} {b : Bool} (ho : o.op = .binOp .eql 22 x y 22) (hx : a.eval x = .int .u64 (m : Int)) (hy : a.eval y = .int .u64 (n : Int)) (hb : b = decide (m = n)) (w : World) : (execOp a.eval o).run Tryz.prog w = .ok (.value (.bool b)) w := by
  unfold execOp
  simp only [ho, hx, hy]
  subst hb
  by_cases h : m = n
  · subst h; simp [go_sem]
  · have h2 : ¬ (m : Int) = (n : Int) := by omega
    simp [go_sem, h, h2]
theorem put_part {ts us : List TermL} {t : TermL} {N : List Nat} (h : putL ts t = (us, N)) (hF : Fits t.2) (hl : us.length < 18446744073709551615) : partX us N = some t := by
  obtain ⟨h1, h2⟩ := putL_name (ts := ts) hF
  rw [h] at h1 h2
  simp only at h1 h2
  rw [h1]
  exact partX_name h2 hl
theorem numL_one {n m : Nat} (hn : n < 18446744073709551616) (hm : m < 18446744073709551616) (e : numL n = numL m) : n = m := by
  have h := congrArg readT e
  rwa [numL_read n hn, numL_read m hm] at h
def noW : List Nat := [110, 111]
def boxW : List Nat := [98, 111, 120]
theorem noW_ok : Bytes noW ∧ Bytes boxW := ⟨bytes_of_all (by decide), bytes_of_all (by decide)⟩

set_option maxRecDepth 100000 in
set_option maxHeartbeats 2000000 in
theorem back_big1 {A B C T A2 B2 C2 U2 : List Nat} {N N2 : Nat} {w : World} (hA : Bytes A) (hC : Bytes C) (hT : Bytes T) (hA2 : Bytes A2) (hC2 : Bytes C2) (hN : N < 18446744073709551616) (hN2 : N2 < 18446744073709551616) (hr : RootsAt w) (hf : decide (Few A B C T) = false) : Calls Tryz.prog 6 #[.agg #[.string (strOf A), .string (strOf B), .int .u64 (N : Int), .string (strOf C), .string (strOf T)], .agg #[.string (strOf A2), .string (strOf B2), .int .u64 (N2 : Int), .string (strOf C2), .string (strOf U2)]] w fun e w' => e = .returned (.bool true) ∧ Below w.heap.size w w' := by
  obtain ⟨gx, hgx⟩ : ∃ g, g = w.heap.size := ⟨_, rfl⟩
  obtain ⟨gy, hgy⟩ : ∃ g, g = w.heap.size + 1 := ⟨_, rfl⟩
  obtain ⟨w0, hw0⟩ : ∃ v, v = (w.alloc (.cells #[.string (strOf A), .string (strOf B), .int .u64 (N : Int), .string (strOf C), .string (strOf T)] 24)).alloc (.cells #[.string (strOf A2), .string (strOf B2), .int .u64 (N2 : Int), .string (strOf C2), .string (strOf U2)] 24) := ⟨_, rfl⟩
  have BX : Kept (Blk w0 gx 24 #[.string (strOf A), .string (strOf B), .int .u64 (N : Int), .string (strOf C), .string (strOf T)]) := ⟨by rw [hw0, hgx]; exact (blk_new w _ _).under ((Below.refl _ _).alloc (Nat.le_refl _) _)⟩
  have BY : Kept (Blk w0 gy 24 #[.string (strOf A2), .string (strOf B2), .int .u64 (N2 : Int), .string (strOf C2), .string (strOf U2)]) := ⟨by
    have := blk_new (w.alloc (.cells #[.string (strOf A), .string (strOf B), .int .u64 (N : Int), .string (strOf C), .string (strOf T)] 24)) 24 #[.string (strOf A2), .string (strOf B2), .int .u64 (N2 : Int), .string (strOf C2), .string (strOf U2)]
    rw [show (w.alloc (.cells #[.string (strOf A), .string (strOf B), .int .u64 (N : Int), .string (strOf C), .string (strOf T)] 24)).heap.size = w.heap.size + 1 by simp] at this
    rw [hw0, hgy]
    exact this⟩
  have q0 := (Below.refl w.heap.size w).alloc (Nat.le_refl _) (.cells #[.string (strOf A), .string (strOf B), .int .u64 (N : Int), .string (strOf C), .string (strOf T)] 24)
  have Q0 : Kept (Below w.heap.size w w0) := ⟨by rw [hw0]; exact q0.alloc q0.size _⟩
  have KX : Kept (∀ w', Below w0.heap.size w0 w' → ∀ (k : Nat) (v : Value), (#[.string (strOf A), .string (strOf B), .int .u64 (N : Int), .string (strOf C), .string (strOf T)] : Array Value)[k]? = some v → w'.cell? ⟨gx, k, none⟩ = some v) := ⟨fun w' hb k v hk => (BX.out.under hb).cell hk⟩
  have KY : Kept (∀ w', Below w0.heap.size w0 w' → ∀ (k : Nat) (v : Value), (#[.string (strOf A2), .string (strOf B2), .int .u64 (N2 : Int), .string (strOf C2), .string (strOf U2)] : Array Value)[k]? = some v → w'.cell? ⟨gy, k, none⟩ = some v) := ⟨fun w' hb k v hk => (BY.out.under hb).cell hk⟩
  have IX : Kept ((Tryz.prog.info? 24).map (·.size) = some (#[.string (strOf A), .string (strOf B), .int .u64 (N : Int), .string (strOf C), .string (strOf T)] : Array Value).size) := ⟨by kernel_rfl⟩
  have IY : Kept ((Tryz.prog.info? 24).map (·.size) = some (#[.string (strOf A2), .string (strOf B2), .int .u64 (N2 : Int), .string (strOf C2), .string (strOf U2)] : Array Value).size) := ⟨by kernel_rfl⟩
  have KR : Kept (RootsAt w0) := ⟨hr.under Q0.out⟩
  have CF : Kept (∀ w, Calls Tryz.prog 10 #[.agg #[.string (strOf A), .string (strOf B), .int .u64 (N : Int), .string (strOf C), .string (strOf T)]] w fun e w' => e = .returned (.bool false) ∧ Below w.heap.size w w') := ⟨fun w => by
    have h9 := few11 (A := A) (B := B) (C := C) (T := T) (N := N) (w := w)
    rw [show decide (Few A B C T) = false from hf] at h9
    exact h9⟩
  have Kw0 : Kept _ := ⟨hw0⟩
  have Kgx : Kept _ := ⟨hgx⟩
  have Kgy : Kept _ := ⟨hgy⟩
  clear hw0 hgx hgy hr hf q0
  go_enter Tryz.func6, Tryz.ntmps6
  go_wp2_with (first | ((with_reducible refine wv_rowS (d := 18) ?hd ?hw 24 (.tmp 2) ?ho (w.heap.size) ?hx (t' := 24) (#[.string (strOf A), .string (strOf B), .int .u64 (N : Int), .string (strOf C), .string (strOf T)]) _ Tryz.underlying24 ?hs ?hg ?_); (case hd => rfl); (case hw => kernel_rfl); (case ho => rfl); (case hx => kernel_rfl); (case hs => exact IX.out); (case hg => exact (by have h := BX.out; rw [Kw0.out, Kgx.out] at h; exact h)); simp only [Act.put, List.setIfInBounds_toArray, List.set_cons_succ, List.set_cons_zero]))
  rw [← Kw0.out, ← Kgy.out, ← Kgx.out]
  refine (CF.out _).mono ?_
  rintro e w1 ⟨rfl, q1⟩
  have KP1 : Kept (Below w0.heap.size w0 w1) := ⟨q1⟩
  clear q1
  go_wp2_with fail
  refine (alive11 (KR.out.under KP1.out)).mono ?_
  rintro e w2 ⟨rfl, q2⟩
  have KP2 : Kept (Below w0.heap.size w0 w2) := ⟨KP1.out.trans (q2.mono KP1.out.size)⟩
  clear q2 KP1
  go_wp2_with fail
  go_ret
  exact ⟨rfl, Q0.out.trans (KP2.out.mono Q0.out.size)⟩
set_option maxRecDepth 100000 in
set_option maxHeartbeats 2000000 in
theorem back_big2 {A B C T A2 B2 C2 U2 : List Nat} {N N2 : Nat} {w : World} (hA : Bytes A) (hC : Bytes C) (hT : Bytes T) (hA2 : Bytes A2) (hC2 : Bytes C2) (hN : N < 18446744073709551616) (hN2 : N2 < 18446744073709551616) (hr : RootsAt w) (hf : decide (Few A B C T) = true) (hf2 : decide (Few A2 B2 C2 U2) = false) : Calls Tryz.prog 6 #[.agg #[.string (strOf A), .string (strOf B), .int .u64 (N : Int), .string (strOf C), .string (strOf T)], .agg #[.string (strOf A2), .string (strOf B2), .int .u64 (N2 : Int), .string (strOf C2), .string (strOf U2)]] w fun e w' => e = .returned (.bool true) ∧ Below w.heap.size w w' := by
  obtain ⟨gx, hgx⟩ : ∃ g, g = w.heap.size := ⟨_, rfl⟩
  obtain ⟨gy, hgy⟩ : ∃ g, g = w.heap.size + 1 := ⟨_, rfl⟩
  obtain ⟨w0, hw0⟩ : ∃ v, v = (w.alloc (.cells #[.string (strOf A), .string (strOf B), .int .u64 (N : Int), .string (strOf C), .string (strOf T)] 24)).alloc (.cells #[.string (strOf A2), .string (strOf B2), .int .u64 (N2 : Int), .string (strOf C2), .string (strOf U2)] 24) := ⟨_, rfl⟩
  have BX : Kept (Blk w0 gx 24 #[.string (strOf A), .string (strOf B), .int .u64 (N : Int), .string (strOf C), .string (strOf T)]) := ⟨by rw [hw0, hgx]; exact (blk_new w _ _).under ((Below.refl _ _).alloc (Nat.le_refl _) _)⟩
  have BY : Kept (Blk w0 gy 24 #[.string (strOf A2), .string (strOf B2), .int .u64 (N2 : Int), .string (strOf C2), .string (strOf U2)]) := ⟨by
    have := blk_new (w.alloc (.cells #[.string (strOf A), .string (strOf B), .int .u64 (N : Int), .string (strOf C), .string (strOf T)] 24)) 24 #[.string (strOf A2), .string (strOf B2), .int .u64 (N2 : Int), .string (strOf C2), .string (strOf U2)]
    rw [show (w.alloc (.cells #[.string (strOf A), .string (strOf B), .int .u64 (N : Int), .string (strOf C), .string (strOf T)] 24)).heap.size = w.heap.size + 1 by simp] at this
    rw [hw0, hgy]
    exact this⟩
  have q0 := (Below.refl w.heap.size w).alloc (Nat.le_refl _) (.cells #[.string (strOf A), .string (strOf B), .int .u64 (N : Int), .string (strOf C), .string (strOf T)] 24)
  have Q0 : Kept (Below w.heap.size w w0) := ⟨by rw [hw0]; exact q0.alloc q0.size _⟩
  have KX : Kept (∀ w', Below w0.heap.size w0 w' → ∀ (k : Nat) (v : Value), (#[.string (strOf A), .string (strOf B), .int .u64 (N : Int), .string (strOf C), .string (strOf T)] : Array Value)[k]? = some v → w'.cell? ⟨gx, k, none⟩ = some v) := ⟨fun w' hb k v hk => (BX.out.under hb).cell hk⟩
  have KY : Kept (∀ w', Below w0.heap.size w0 w' → ∀ (k : Nat) (v : Value), (#[.string (strOf A2), .string (strOf B2), .int .u64 (N2 : Int), .string (strOf C2), .string (strOf U2)] : Array Value)[k]? = some v → w'.cell? ⟨gy, k, none⟩ = some v) := ⟨fun w' hb k v hk => (BY.out.under hb).cell hk⟩
  have IX : Kept ((Tryz.prog.info? 24).map (·.size) = some (#[.string (strOf A), .string (strOf B), .int .u64 (N : Int), .string (strOf C), .string (strOf T)] : Array Value).size) := ⟨by kernel_rfl⟩
  have IY : Kept ((Tryz.prog.info? 24).map (·.size) = some (#[.string (strOf A2), .string (strOf B2), .int .u64 (N2 : Int), .string (strOf C2), .string (strOf U2)] : Array Value).size) := ⟨by kernel_rfl⟩
  have KR : Kept (RootsAt w0) := ⟨hr.under Q0.out⟩
  have CF : Kept (∀ w, Calls Tryz.prog 10 #[.agg #[.string (strOf A), .string (strOf B), .int .u64 (N : Int), .string (strOf C), .string (strOf T)]] w fun e w' => e = .returned (.bool true) ∧ Below w.heap.size w w') := ⟨fun w => by
    have h9 := few11 (A := A) (B := B) (C := C) (T := T) (N := N) (w := w)
    rw [show decide (Few A B C T) = true from hf] at h9
    exact h9⟩
  have CF2 : Kept (∀ w, Calls Tryz.prog 10 #[.agg #[.string (strOf A2), .string (strOf B2), .int .u64 (N2 : Int), .string (strOf C2), .string (strOf U2)]] w fun e w' => e = .returned (.bool false) ∧ Below w.heap.size w w') := ⟨fun w => by
    have h9 := few11 (A := A2) (B := B2) (C := C2) (T := U2) (N := N2) (w := w)
    rw [show decide (Few A2 B2 C2 U2) = false from hf2] at h9
    exact h9⟩
  have Kw0 : Kept _ := ⟨hw0⟩
  have Kgx : Kept _ := ⟨hgx⟩
  have Kgy : Kept _ := ⟨hgy⟩
  clear hw0 hgx hgy hr hf q0 hf2
  go_enter Tryz.func6, Tryz.ntmps6
  go_wp2_with (first | ((with_reducible refine wv_rowS (d := 18) ?hd ?hw 24 (.tmp 2) ?ho (w.heap.size) ?hx (t' := 24) (#[.string (strOf A), .string (strOf B), .int .u64 (N : Int), .string (strOf C), .string (strOf T)]) _ Tryz.underlying24 ?hs ?hg ?_); (case hd => rfl); (case hw => kernel_rfl); (case ho => rfl); (case hx => kernel_rfl); (case hs => exact IX.out); (case hg => exact (by have h := BX.out; rw [Kw0.out, Kgx.out] at h; exact h)); simp only [Act.put, List.setIfInBounds_toArray, List.set_cons_succ, List.set_cons_zero]))
  rw [← Kw0.out, ← Kgy.out, ← Kgx.out]
  refine (CF.out _).mono ?_
  rintro e w1 ⟨rfl, q1⟩
  have KP1 : Kept (Below w0.heap.size w0 w1) := ⟨q1⟩
  clear q1
  go_wp2_with (first | ((with_reducible refine wv_rowS (d := 22) ?hd ?hw 24 (.tmp 3) ?ho (gy) ?hx (t' := 24) (#[.string (strOf A2), .string (strOf B2), .int .u64 (N2 : Int), .string (strOf C2), .string (strOf U2)]) _ Tryz.underlying24 ?hs ?hg ?_); (case hd => rfl); (case hw => kernel_rfl); (case ho => rfl); (case hx => kernel_rfl); (case hs => exact IY.out); (case hg => exact (BY.out.under KP1.out)); simp only [Act.put, List.setIfInBounds_toArray, List.set_cons_succ, List.set_cons_zero]))
  refine (CF2.out _).mono ?_
  rintro e w2 ⟨rfl, q2⟩
  have KP2 : Kept (Below w0.heap.size w0 w2) := ⟨KP1.out.trans (q2.mono KP1.out.size)⟩
  clear q2 KP1
  go_wp2_with fail
  refine (alive11 (KR.out.under KP2.out)).mono ?_
  rintro e w3 ⟨rfl, q3⟩
  have KP3 : Kept (Below w0.heap.size w0 w3) := ⟨KP2.out.trans (q3.mono KP2.out.size)⟩
  clear q3 KP2
  go_wp2_with fail
  go_ret
  exact ⟨rfl, Q0.out.trans (KP3.out.mono Q0.out.size)⟩
set_option maxRecDepth 100000 in
set_option maxHeartbeats 8000000 in
theorem back_same {A B C T A2 B2 C2 U2 : List Nat} {N N2 : Nat} {w : World} (hA : Bytes A) (hC : Bytes C) (hT : Bytes T) (hA2 : Bytes A2) (hC2 : Bytes C2) (hN : N < 18446744073709551616) (hN2 : N2 < 18446744073709551616) (hr : RootsAt w) (hf : decide (Few A B C T) = true) (hf2 : decide (Few A2 B2 C2 U2) = true) (hs : A = A2 ∧ N = N2 ∧ C = C2) : Calls Tryz.prog 6 #[.agg #[.string (strOf A), .string (strOf B), .int .u64 (N : Int), .string (strOf C), .string (strOf T)], .agg #[.string (strOf A2), .string (strOf B2), .int .u64 (N2 : Int), .string (strOf C2), .string (strOf U2)]] w fun e w' => e = .returned (.bool true) ∧ Below w.heap.size w w' := by
  have KF : Kept (Few A B C T) := ⟨of_decide_eq_true hf⟩
  have KF2 : Kept (Few A2 B2 C2 U2) := ⟨of_decide_eq_true hf2⟩
  have h8 : 4000 ≤ maxLen := by decide
  obtain ⟨Z, hZ⟩ : ∃ z : List Nat, z = List.replicate 32 0 := ⟨_, rfl⟩
  obtain ⟨AZ, hAZ⟩ : ∃ z, z = A ++ Z := ⟨_, rfl⟩
  obtain ⟨k, hk⟩ : ∃ z, z = AZ.take 32 := ⟨_, rfl⟩
  have lZ : Z.length = 32 := by rw [hZ]; simp
  have lAZ : AZ.length = A.length + 32 := by rw [hAZ, List.length_append, lZ]
  have lk : k.length = 32 := by rw [hk, List.length_take]; omega
  have bZ : Bytes Z := by rw [hZ]; exact bytes_zero 32
  have bk : Bytes k := by rw [hk, hAZ]; exact (hA.append bZ).take 32
  have KZ : Kept (Z = List.replicate 32 0) := ⟨hZ⟩
  have KAZ : Kept (A.length + Z.length < 4611686018427387904 ∧ AZ = A ++ Z ∧ 32 ≤ AZ.length ∧ k = AZ.take 32) := ⟨⟨by have := KF.out.1; omega, hAZ, by omega, hk⟩⟩
  have KNil : Kept (Bytes []) := ⟨fun i x h => by simp at h⟩
  obtain ⟨X0, hX0⟩ : ∃ x, x = sealL k N C T := ⟨_, rfl⟩
  have lX0 : X0.length = T.length + 16 := by rw [hX0, sealL_len]
  have YX0 : Kept (Bytes X0 ∧ false = decide (X0 = [])) := ⟨⟨by rw [hX0]; exact sealL_bytes _ _ _ hT, by rw [decide_eq_false (fun e => by rw [e] at lX0; simp at lX0)]⟩⟩
  have CSr : Kept (∀ w, Calls Tryz.prog 171 #[.agg #[], .string (strOf k), .int .u64 (N : Int), .string (strOf C), .string (strOf T)] w fun e w' => e = .returned (.string (strOf X0)) ∧ Below w.heap.size w w') := ⟨fun w => by
    have h9 := SealR (w := w) bk lk hN hC hT
    rw [sealP_ok _ _ _ _ (by have := KF.out.2.2.1; omega) (by have := KF.out.2.2.2; omega), ← hX0] at h9
    exact h9⟩
  have COr : Kept (∀ w, Calls Tryz.prog 169 #[.agg #[], .string (strOf k), .int .u64 (N : Int), .string (strOf C), .string (strOf X0)] w fun e w' => e = .returned (.tuple #[.string (strOf T), .int .i64 0]) ∧ Below w.heap.size w w') := ⟨fun w => by
    have h9 := OpenR (w := w) bk lk hN hC YX0.out.1
    rw [hX0, openP_seal _ _ _ _ (by have := KF.out.2.2.1; omega) (by have := KF.out.2.2.2; omega), ← hX0] at h9
    exact h9⟩
  have jl := numL_len N
  have f1 : Fits ((5, [k, numL N, C, T]) : TermL).2 := fits_any (by simp) (by
    intro l hl
    have := KF.out
    simp only [List.mem_cons, List.not_mem_nil, or_false] at hl
    rcases hl with rfl | rfl | rfl | rfl
    · omega
    · omega
    · have := this.2.2.1; omega
    · have := this.2.2.2; omega)
  have f2 : Fits ((5, [A, numL N, C, T]) : TermL).2 := fits_any (by simp) (by
    intro l hl
    have := KF.out
    simp only [List.mem_cons, List.not_mem_nil, or_false] at hl
    rcases hl with rfl | rfl | rfl | rfl
    · have := this.1; omega
    · omega
    · have := this.2.2.1; omega
    · have := this.2.2.2; omega)
  have f3 : Fits ((4, [hashW, noW, boxW]) : TermL).2 := fits_any (by simp) (by
    intro l hl
    simp only [List.mem_cons, List.not_mem_nil, or_false] at hl
    rcases hl with rfl | rfl | rfl <;> decide)
  obtain ⟨T1, X1, g1⟩ : ∃ T1 X1, putL [] (5, [k, numL N, C, T]) = (T1, X1) := ⟨_, _, rfl⟩
  obtain ⟨T2, X2, g2⟩ : ∃ T2 X2, putL [] (5, [A, numL N, C, T]) = (T2, X2) := ⟨_, _, rfl⟩
  obtain ⟨T3, H, g3⟩ : ∃ T3 H, putL T2 (4, [hashW, noW, boxW]) = (T3, H) := ⟨_, _, rfl⟩
  have l0 : ([] : List TermL).length = 0 := rfl
  have l1 := putL_len [] (5, [k, numL N, C, T])
  rw [g1] at l1
  have l2 := putL_len [] (5, [A, numL N, C, T])
  rw [g2] at l2
  have l3 := putL_len T2 (4, [hashW, noW, boxW])
  rw [g3] at l3
  simp only at l1 l2 l3
  have KLt : Kept (T1.length < 1000000 ∧ T2.length < 1000000 ∧ T3.length < 1000000) := ⟨⟨by omega, by omega, by omega⟩⟩
  have G1 : Kept _ := ⟨g1⟩
  have G2 : Kept _ := ⟨g2⟩
  have Gx1 : Kept (partX T1 X1 = some (5, [k, numL N, C, T])) := ⟨put_part g1 f1 (by omega)⟩
  have Gx2 : Kept (partX T2 X2 = some (5, [A, numL N, C, T])) := ⟨put_part g2 f2 (by omega)⟩
  have Gx3 : Kept (partX T3 H = some (4, [hashW, noW, boxW])) := ⟨put_part g3 f3 (by omega)⟩
  have n1 := putL_ne (ts := []) f1
  have b1 := putL_bytes [] (5, [k, numL N, C, T])
  rw [g1] at n1 b1
  simp only at n1 b1
  have n2 := putL_ne (ts := []) f2
  have b2 := putL_bytes [] (5, [A, numL N, C, T])
  rw [g2] at n2 b2
  simp only at n2 b2
  have n3 := putL_ne (ts := T2) f3
  have b3 := putL_bytes T2 (4, [hashW, noW, boxW])
  rw [g3] at n3 b3
  simp only at n3 b3
  have YX1 : Kept (Bytes X1 ∧ X1.length ≤ maxLen ∧ false = decide (X1 = [])) := ⟨⟨b1, by omega, by rw [decide_eq_false n1.1]⟩⟩
  have Yk : Kept (Bytes k ∧ k.length ≤ maxLen) := ⟨⟨bk, by omega⟩⟩
  have Kf : Kept (A.length ≤ maxLen ∧ B.length ≤ maxLen ∧ C.length ≤ maxLen ∧ T.length ≤ maxLen) := ⟨by have := KF.out; exact ⟨by have := this.1; omega, by have := this.2.1; omega, by have := this.2.2.1; omega, by have := this.2.2.2; omega⟩⟩
  have CHh : Kept (∀ (tb B0 : Nat) (M0 : Nat → Prop) (W : World) (M : Nat → Prop) (w : World), CT tb B0 T2 M0 W M w → Calls Tryz.prog 173 (.agg #[.pointer (some ⟨tb, 0, none⟩)] :: [.string ⟨#[110, 111]⟩, .string ⟨#[98, 111, 120]⟩]).toArray w fun e w' => e = .returned (.string (strOf H)) ∧ ∃ M', CT tb B0 T3 M0 W M' w' ∧ Turn M w M' w') := ⟨fun tb B0 M0 W M w h => (HashT (x := noW) (y := boxW) h.1 noW_ok.1 noW_ok.2 (by decide) (by decide) KLt.out.2.1 g3).mono fun e w' hh => ⟨hh.1, h.puts hh.2⟩⟩
  have COh : Kept (∀ (tb B0 : Nat) (M0 : Nat → Prop) (W : World) (M : Nat → Prop) (w : World), CT tb B0 T3 M0 W M w → Calls Tryz.prog 175 (.agg #[.pointer (some ⟨tb, 0, none⟩)] :: [.string (strOf A), .int .u64 (N : Int), .string (strOf C), .string (strOf H)]).toArray w fun e w' => e = .returned (.tuple #[.string ⟨#[]⟩, .int .i64 5]) ∧ ∃ M', CT tb B0 T3 M0 W M' w' ∧ Turn M w M' w') := ⟨fun tb B0 M0 W M w h => (OpenT_kind h.1 b3 (by omega) KLt.out.2.2 Gx3.out (by decide)).mono fun e w' hh => ⟨hh.1, M, h.under hh.2, Turn.of_below hh.2⟩⟩
  have YA : Kept _ := ⟨hA⟩
  have YC : Kept _ := ⟨hC⟩
  have YT : Kept _ := ⟨hT⟩
  have YA2 : Kept _ := ⟨hA2⟩
  have YC2 : Kept _ := ⟨hC2⟩
  have KN : Kept _ := ⟨hN⟩
  have Kb1 : Kept (true = decide (A = A2)) := ⟨by rw [decide_eq_true hs.1]⟩
  have Kb2 : Kept (true = decide (N = N2)) := ⟨by rw [decide_eq_true hs.2.1]⟩
  have Kb3 : Kept (true = decide (C = C2)) := ⟨by rw [decide_eq_true hs.2.2]⟩
  have COx : Kept (∀ (tb B0 : Nat) (M : Nat → Prop) (w : World), Tab tb B0 T2 M w → Calls Tryz.prog 175 #[.agg #[.pointer (some ⟨tb, 0, none⟩)], .string (strOf A2), .int .u64 (N2 : Int), .string (strOf C2), .string (strOf X2)] w fun e w' => e = .returned (.tuple #[.string (strOf T), .int .i64 0]) ∧ Below w.heap.size w w') := ⟨fun tb B0 M w h => OpenT_yes h b2 (by omega) hA2 hC2 hN2 KLt.out.2.1 Gx2.out ⟨hA, numL_bytes _, hC, hT⟩ (by obtain ⟨h1, h2, h3⟩ := hs; rw [h1, h2, h3]; simp)⟩
  clear hA hC hT hA2 hC2 hN hN2 h8 hZ hAZ hk lZ lAZ lk bZ bk hX0 lX0 jl f1 f2 f3 g1 g2 g3 l0 l1 l2 l3 n1 n2 n3 b1 b2 b3
  clear hs
  obtain ⟨gx, hgx⟩ : ∃ g, g = w.heap.size := ⟨_, rfl⟩
  obtain ⟨gy, hgy⟩ : ∃ g, g = w.heap.size + 1 := ⟨_, rfl⟩
  obtain ⟨w0, hw0⟩ : ∃ v, v = (w.alloc (.cells #[.string (strOf A), .string (strOf B), .int .u64 (N : Int), .string (strOf C), .string (strOf T)] 24)).alloc (.cells #[.string (strOf A2), .string (strOf B2), .int .u64 (N2 : Int), .string (strOf C2), .string (strOf U2)] 24) := ⟨_, rfl⟩
  have BX : Kept (Blk w0 gx 24 #[.string (strOf A), .string (strOf B), .int .u64 (N : Int), .string (strOf C), .string (strOf T)]) := ⟨by rw [hw0, hgx]; exact (blk_new w _ _).under ((Below.refl _ _).alloc (Nat.le_refl _) _)⟩
  have BY : Kept (Blk w0 gy 24 #[.string (strOf A2), .string (strOf B2), .int .u64 (N2 : Int), .string (strOf C2), .string (strOf U2)]) := ⟨by
    have := blk_new (w.alloc (.cells #[.string (strOf A), .string (strOf B), .int .u64 (N : Int), .string (strOf C), .string (strOf T)] 24)) 24 #[.string (strOf A2), .string (strOf B2), .int .u64 (N2 : Int), .string (strOf C2), .string (strOf U2)]
    rw [show (w.alloc (.cells #[.string (strOf A), .string (strOf B), .int .u64 (N : Int), .string (strOf C), .string (strOf T)] 24)).heap.size = w.heap.size + 1 by simp] at this
    rw [hw0, hgy]
    exact this⟩
  have q0 := (Below.refl w.heap.size w).alloc (Nat.le_refl _) (.cells #[.string (strOf A), .string (strOf B), .int .u64 (N : Int), .string (strOf C), .string (strOf T)] 24)
  have Q0 : Kept (Below w.heap.size w w0) := ⟨by rw [hw0]; exact q0.alloc q0.size _⟩
  have KX : Kept (∀ w', Below w0.heap.size w0 w' → ∀ (k : Nat) (v : Value), (#[.string (strOf A), .string (strOf B), .int .u64 (N : Int), .string (strOf C), .string (strOf T)] : Array Value)[k]? = some v → w'.cell? ⟨gx, k, none⟩ = some v) := ⟨fun w' hb k v hk => (BX.out.under hb).cell hk⟩
  have KY : Kept (∀ w', Below w0.heap.size w0 w' → ∀ (k : Nat) (v : Value), (#[.string (strOf A2), .string (strOf B2), .int .u64 (N2 : Int), .string (strOf C2), .string (strOf U2)] : Array Value)[k]? = some v → w'.cell? ⟨gy, k, none⟩ = some v) := ⟨fun w' hb k v hk => (BY.out.under hb).cell hk⟩
  have IX : Kept ((Tryz.prog.info? 24).map (·.size) = some (#[.string (strOf A), .string (strOf B), .int .u64 (N : Int), .string (strOf C), .string (strOf T)] : Array Value).size) := ⟨by kernel_rfl⟩
  have IY : Kept ((Tryz.prog.info? 24).map (·.size) = some (#[.string (strOf A2), .string (strOf B2), .int .u64 (N2 : Int), .string (strOf C2), .string (strOf U2)] : Array Value).size) := ⟨by kernel_rfl⟩
  have KR : Kept (RootsAt w0) := ⟨hr.under Q0.out⟩
  have CF : Kept (∀ w, Calls Tryz.prog 10 #[.agg #[.string (strOf A), .string (strOf B), .int .u64 (N : Int), .string (strOf C), .string (strOf T)]] w fun e w' => e = .returned (.bool true) ∧ Below w.heap.size w w') := ⟨fun w => by
    have h9 := few11 (A := A) (B := B) (C := C) (T := T) (N := N) (w := w)
    rw [show decide (Few A B C T) = true from hf] at h9
    exact h9⟩
  have CF2 : Kept (∀ w, Calls Tryz.prog 10 #[.agg #[.string (strOf A2), .string (strOf B2), .int .u64 (N2 : Int), .string (strOf C2), .string (strOf U2)]] w fun e w' => e = .returned (.bool true) ∧ Below w.heap.size w w') := ⟨fun w => by
    have h9 := few11 (A := A2) (B := B2) (C := C2) (T := U2) (N := N2) (w := w)
    rw [show decide (Few A2 B2 C2 U2) = true from hf2] at h9
    exact h9⟩
  have Kw0 : Kept _ := ⟨hw0⟩
  have Kgx : Kept _ := ⟨hgx⟩
  have Kgy : Kept _ := ⟨hgy⟩
  clear hw0 hgx hgy hr hf q0 hf2
  go_enter Tryz.func6, Tryz.ntmps6
  go_wp2_with (first | ((with_reducible refine wv_rowS (d := 18) ?hd ?hw 24 (.tmp 2) ?ho (w.heap.size) ?hx (t' := 24) (#[.string (strOf A), .string (strOf B), .int .u64 (N : Int), .string (strOf C), .string (strOf T)]) _ Tryz.underlying24 ?hs ?hg ?_); (case hd => rfl); (case hw => kernel_rfl); (case ho => rfl); (case hx => kernel_rfl); (case hs => exact IX.out); (case hg => exact (by have h := BX.out; rw [Kw0.out, Kgx.out] at h; exact h)); simp only [Act.put, List.setIfInBounds_toArray, List.set_cons_succ, List.set_cons_zero]))
  rw [← Kw0.out, ← Kgy.out, ← Kgx.out]
  refine (CF.out _).mono ?_
  rintro e w1 ⟨rfl, q1⟩
  have KP1 : Kept (Below w0.heap.size w0 w1) := ⟨q1⟩
  clear q1
  go_wp2_with (first | ((with_reducible refine wv_rowS (d := 22) ?hd ?hw 24 (.tmp 3) ?ho (gy) ?hx (t' := 24) (#[.string (strOf A2), .string (strOf B2), .int .u64 (N2 : Int), .string (strOf C2), .string (strOf U2)]) _ Tryz.underlying24 ?hs ?hg ?_); (case hd => rfl); (case hw => kernel_rfl); (case ho => rfl); (case hx => kernel_rfl); (case hs => exact IY.out); (case hg => exact (BY.out.under KP1.out)); simp only [Act.put, List.setIfInBounds_toArray, List.set_cons_succ, List.set_cons_zero]))
  refine (CF2.out _).mono ?_
  rintro e w2 ⟨rfl, q2⟩
  have KP2 : Kept (Below w0.heap.size w0 w2) := ⟨KP1.out.trans (q2.mono KP1.out.size)⟩
  clear q2 KP1
  go_wp2_with fail
  refine (alive11 (KR.out.under KP2.out)).mono ?_
  rintro e w3 ⟨rfl, q3⟩
  have KP3 : Kept (Below w0.heap.size w0 w3) := ⟨KP2.out.trans (q3.mono KP2.out.size)⟩
  clear q3 KP2
  go_wp2_with fail
  refine region_ownNL w3 7 [(31, .pointer (some ⟨gx, 0, none⟩)), (32, .string (strOf A)), (34, .string (strOf Z)), (35, .string (strOf AZ)), (36, .string (strOf k)), (5, .string (strOf k))] [(33, fun v w => BytesV v w Z)] [] [] rfl (by kernel_rfl) (by kernel_rfl) (by kernel_rfl) (by kernel_rfl) (by kernel_rfl) (by kernel_rfl) (by kernel_rfl) (by kernel_rfl) (by kernel_rfl) (by kernel_rfl) (by kernel_rfl) ?hst1 ?hst2 (Below.refl _ _) (fun hA => ⟨ow_val hA (wants_none rfl) 31 (.pointer (some ⟨gx, 0, none⟩)) (by kernel_rfl) rfl rfl rfl rfl (by kernel_rfl) (fun w => by kernel_rfl), ow_elem hA (wants_none rfl) 32 (.string (strOf A)) (by kernel_rfl) rfl rfl rfl rfl (by kernel_rfl) 9 ag_str (.tmp 31) rfl (⟨gx, 0, none⟩) (by kernel_rfl) (fun w1 hb => KX.out _ (KP3.out.trans (hb.mono KP3.out.size)) 0 _ rfl), ow_make32 hA (wants_none rfl) 33 rfl rfl Z KZ.out rfl rfl, ow_strS hA (wants_none rfl) 34 (.string (strOf Z)) 33 rfl rfl (by kernel_rfl) rfl (by kernel_rfl) Z rfl rfl rfl rfl, ow_val hA (wants_none rfl) 35 (.string (strOf AZ)) (by kernel_rfl) rfl rfl rfl rfl (by kernel_rfl) (fun w => run_scat rfl (by kernel_rfl) (by kernel_rfl) KAZ.out.1 KAZ.out.2.1 w), ow_val hA (wants_none rfl) 36 (.string (strOf k)) (by kernel_rfl) rfl rfl rfl rfl (by kernel_rfl) (fun w => run_scutT (j := 32) rfl (by kernel_rfl) (by kernel_rfl) KAZ.out.2.2.1 KAZ.out.2.2.2 w), ow_val hA (wants_none rfl) 5 (.string (strOf k)) (by kernel_rfl) rfl rfl rfl rfl (by kernel_rfl) (fun w => by kernel_rfl), trivial⟩) ?_
  case hst1 => intro q hq h0 v w w' h1 h2 h3 h9; simp only [List.mem_singleton] at hq; subst hq; exact BytesV.under h1 (h9 rfl)
  case hst2 => intro q hq h0; simp at h0
  intro fv w4 hf hD hb4
  simp only [putR, List.foldl_cons, List.foldl_nil, List.map_cons, List.map_nil, Act.put, List.setIfInBounds_toArray, List.set_cons_succ, List.set_cons_zero]
  refine wpList_nil ?_
  have KP4 : Kept (Below w0.heap.size w0 w4) := ⟨KP3.out.trans (hb4.mono KP3.out.size)⟩
  clear hf hD hb4 KP3
  go_wp2_with fail
  refine RealD.mono ?_
  rintro e w5 ⟨rfl, q5⟩
  have KP5 : Kept (Below w0.heap.size w0 w5) := ⟨KP4.out.trans (q5.mono KP4.out.size)⟩
  clear q5 KP4
  go_wp2_with fail
  refine NewD.mono ?_
  rintro e w6 ⟨⟨tb, M0, rfl, hT6⟩, q6⟩
  obtain ⟨B0, hB0⟩ : ∃ b, b = w5.heap.size := ⟨_, rfl⟩
  rw [← hB0] at hT6
  have KB0 : Kept (w0.heap.size ≤ B0) := ⟨by rw [hB0]; exact KP5.out.size⟩
  have KT6 : Kept (Tab tb B0 [] M0 w6) := ⟨hT6⟩
  have KP6 : Kept (Below w0.heap.size w0 w6) := ⟨KP5.out.trans (q6.mono KP5.out.size)⟩
  clear q6 KP5 hT6 hB0
  go_wp2_with fail
  refine SymbolD.mono ?_
  rintro e w7 ⟨rfl, q7⟩
  have KT7 : Kept (Tab tb B0 [] M0 w7) := ⟨KT6.out.under q7⟩
  have KP7 : Kept (Below w0.heap.size w0 w7) := ⟨KP6.out.trans (q7.mono KP6.out.size)⟩
  clear q7 KP6 KT6
  obtain ⟨w8, hw8⟩ : ∃ z, z = w7.alloc (.cells #[.iface 64 (.agg #[]), .iface 90 (.agg #[.pointer (some ⟨tb, 0, none⟩)])] 27) := ⟨_, rfl⟩
  obtain ⟨gs, hgs⟩ : ∃ z, z = w7.heap.size := ⟨_, rfl⟩
  have q8 : Below w7.heap.size w7 w8 := by rw [hw8]; exact (Below.refl _ _).alloc (Nat.le_refl _) _
  have KS : Kept (Blk w8 gs 27 #[.iface 64 (.agg #[]), .iface 90 (.agg #[.pointer (some ⟨tb, 0, none⟩)])]) := ⟨by rw [hw8, hgs]; exact blk_new w7 _ _⟩
  have KP8 : Kept (Below w0.heap.size w0 w8) := ⟨KP7.out.trans (q8.mono KP7.out.size)⟩
  have KT8 : Kept (Tab tb B0 [] M0 w8) := ⟨KT7.out.under q8⟩
  have Kw8 : Kept _ := ⟨hw8⟩
  have Kgs : Kept _ := ⟨hgs⟩
  clear q8 hw8 hgs KT7 KP7
  go_wp2_with (first | (refine wl_bsP rfl tb (.tmp 37) (.tmp 39) rfl (by kernel_rfl) (by kernel_rfl) ?_; rw [← Kw8.out, ← Kgs.out]; simp only [Act.put, List.setIfInBounds_toArray, List.set_cons_succ, List.set_cons_zero]))
  refine wp_loop_rounds 3 ?_
  rw [rounds_succ]
  go_wp2_with (first | ((with_reducible refine wv_val (d := 44) ?hd ?hw (.pointer (some ⟨gs, 0, none⟩)) ?hr ?_); (case hd => rfl); (case hw => kernel_rfl); (case hr => intro w; exact run_idxG0 (i := 0) (l := 2) (c := 2) (g := gs) rfl (by kernel_rfl) (by kernel_rfl) Tryz.underlying60 (by decide) Tryz.sizeOf27 w); simp only [Act.put, List.setIfInBounds_toArray, List.set_cons_succ, List.set_cons_zero]) | ((with_reducible refine wv_elem (d := 45) ?hd ?hw 27 Tryz.isAgg27 (.tmp 44) ?ho (⟨gs, 0, none⟩) ?hx (.iface 64 (.agg #[])) ?hc ?_); (case hd => rfl); (case hw => kernel_rfl); (case ho => rfl); (case hx => kernel_rfl); (case hc => exact KS.out.cell rfl); simp only [Act.put, List.setIfInBounds_toArray, List.set_cons_succ, List.set_cons_zero]) | ((with_reducible refine wv_elem (d := 49) ?hd ?hw 22 Tryz.isAgg22 (.tmp 48) ?ho (⟨gx, 2, none⟩) ?hx (.int .u64 (N : Int)) ?hc ?_); (case hd => rfl); (case hw => kernel_rfl); (case ho => rfl); (case hx => kernel_rfl); (case hc => exact KX.out _ (KP8.out) 2 _ rfl); simp only [Act.put, List.setIfInBounds_toArray, List.set_cons_succ, List.set_cons_zero]) | ((with_reducible refine wv_elem (d := 51) ?hd ?hw 9 ag_str (.tmp 50) ?ho (⟨gx, 3, none⟩) ?hx (.string (strOf C)) ?hc ?_); (case hd => rfl); (case hw => kernel_rfl); (case ho => rfl); (case hx => kernel_rfl); (case hc => exact KX.out _ (KP8.out) 3 _ rfl); simp only [Act.put, List.setIfInBounds_toArray, List.set_cons_succ, List.set_cons_zero]) | ((with_reducible refine wv_elem (d := 53) ?hd ?hw 9 ag_str (.tmp 52) ?ho (⟨gx, 4, none⟩) ?hx (.string (strOf T)) ?hc ?_); (case hd => rfl); (case hw => kernel_rfl); (case ho => rfl); (case hx => kernel_rfl); (case hc => exact KX.out _ (KP8.out) 4 _ rfl); simp only [Act.put, List.setIfInBounds_toArray, List.set_cons_succ, List.set_cons_zero]))
  refine (CSr.out _).mono ?_
  rintro e w9 ⟨rfl, q9⟩
  have KT9 : Kept (Tab tb B0 [] M0 w9) := ⟨KT8.out.under q9⟩
  have KP9 : Kept (Below w0.heap.size w0 w9) := ⟨KP8.out.trans (q9.mono KP8.out.size)⟩
  have KS9 : Kept _ := ⟨KS.out.under q9⟩
  clear q9 KT8 KP8 KS
  go_wp2_with (first | ((with_reducible refine wv_elem (d := 59) ?hd ?hw 22 Tryz.isAgg22 (.tmp 58) ?ho (⟨gx, 2, none⟩) ?hx (.int .u64 (N : Int)) ?hc ?_); (case hd => rfl); (case hw => kernel_rfl); (case ho => rfl); (case hx => kernel_rfl); (case hc => exact KX.out _ (KP9.out) 2 _ rfl); simp only [Act.put, List.setIfInBounds_toArray, List.set_cons_succ, List.set_cons_zero]) | ((with_reducible refine wv_elem (d := 61) ?hd ?hw 9 ag_str (.tmp 60) ?ho (⟨gx, 3, none⟩) ?hx (.string (strOf C)) ?hc ?_); (case hd => rfl); (case hw => kernel_rfl); (case ho => rfl); (case hx => kernel_rfl); (case hc => exact KX.out _ (KP9.out) 3 _ rfl); simp only [Act.put, List.setIfInBounds_toArray, List.set_cons_succ, List.set_cons_zero]))
  refine (COr.out _).mono ?_
  rintro e w10 ⟨rfl, q10⟩
  have KT10 : Kept (Tab tb B0 [] M0 w10) := ⟨KT9.out.under q10⟩
  have KP10 : Kept (Below w0.heap.size w0 w10) := ⟨KP9.out.trans (q10.mono KP9.out.size)⟩
  have KS10 : Kept _ := ⟨KS9.out.under q10⟩
  clear q10 KT9 KP9 KS9
  go_wp2_with (first | ((with_reducible refine wv_val (d := 67) ?hd ?hw (.bool false) ?hr ?_); (case hd => rfl); (case hw => kernel_rfl); (case hr => intro w; exact run_seq (l := X0) (m := []) rfl (by kernel_rfl) (by kernel_rfl) YX0.out.1 KNil.out YX0.out.2 w); simp only [Act.put, List.setIfInBounds_toArray, List.set_cons_succ, List.set_cons_zero]) | ((with_reducible refine wv_elem (d := 71) ?hd ?hw 9 ag_str (.tmp 70) ?ho (⟨gx, 4, none⟩) ?hx (.string (strOf T)) ?hc ?_); (case hd => rfl); (case hw => kernel_rfl); (case ho => rfl); (case hx => kernel_rfl); (case hc => exact KX.out _ (KP10.out) 4 _ rfl); simp only [Act.put, List.setIfInBounds_toArray, List.set_cons_succ, List.set_cons_zero]) | ((with_reducible refine wv_val (d := 72) ?hd ?hw (.bool false) ?hr ?_); (case hd => rfl); (case hw => kernel_rfl); (case hr => intro w; exact run_sneq (l := T) (m := T) rfl (by kernel_rfl) (by kernel_rfl) YT.out YT.out (by simp) w); simp only [Act.put, List.setIfInBounds_toArray, List.set_cons_succ, List.set_cons_zero]))
  rw [rounds_succ]
  go_wp2_with (first | ((with_reducible refine wv_val (d := 44) ?hd ?hw (.pointer (some ⟨gs, 1, none⟩)) ?hr ?_); (case hd => rfl); (case hw => kernel_rfl); (case hr => intro w; exact run_idxG0 (i := 1) (l := 2) (c := 2) (g := gs) rfl (by kernel_rfl) (by kernel_rfl) Tryz.underlying60 (by decide) Tryz.sizeOf27 w); simp only [Act.put, List.setIfInBounds_toArray, List.set_cons_succ, List.set_cons_zero]) | ((with_reducible refine wv_elem (d := 45) ?hd ?hw 27 Tryz.isAgg27 (.tmp 44) ?ho (⟨gs, 1, none⟩) ?hx (.iface 90 (.agg #[.pointer (some ⟨tb, 0, none⟩)])) ?hc ?_); (case hd => rfl); (case hw => kernel_rfl); (case ho => rfl); (case hx => kernel_rfl); (case hc => exact KS10.out.cell rfl); simp only [Act.put, List.setIfInBounds_toArray, List.set_cons_succ, List.set_cons_zero]) | ((with_reducible refine wv_elem (d := 49) ?hd ?hw 22 Tryz.isAgg22 (.tmp 48) ?ho (⟨gx, 2, none⟩) ?hx (.int .u64 (N : Int)) ?hc ?_); (case hd => rfl); (case hw => kernel_rfl); (case ho => rfl); (case hx => kernel_rfl); (case hc => exact KX.out _ (KP10.out) 2 _ rfl); simp only [Act.put, List.setIfInBounds_toArray, List.set_cons_succ, List.set_cons_zero]) | ((with_reducible refine wv_elem (d := 51) ?hd ?hw 9 ag_str (.tmp 50) ?ho (⟨gx, 3, none⟩) ?hx (.string (strOf C)) ?hc ?_); (case hd => rfl); (case hw => kernel_rfl); (case ho => rfl); (case hx => kernel_rfl); (case hc => exact KX.out _ (KP10.out) 3 _ rfl); simp only [Act.put, List.setIfInBounds_toArray, List.set_cons_succ, List.set_cons_zero]) | ((with_reducible refine wv_elem (d := 53) ?hd ?hw 9 ag_str (.tmp 52) ?ho (⟨gx, 4, none⟩) ?hx (.string (strOf T)) ?hc ?_); (case hd => rfl); (case hw => kernel_rfl); (case ho => rfl); (case hx => kernel_rfl); (case hc => exact KX.out _ (KP10.out) 4 _ rfl); simp only [Act.put, List.setIfInBounds_toArray, List.set_cons_succ, List.set_cons_zero]))
  refine (SealE KT10.out KN.out Yk.out.1 YC.out YT.out Yk.out.2 Kf.out.2.2.1 Kf.out.2.2.2 (by decide) G1.out).mono ?_
  rintro e w11 ⟨rfl, M11, hT11, ht11⟩
  have KT11 : Kept (Tab tb B0 T1 M11 w11) := ⟨hT11⟩
  have KP11 : Kept (Below w0.heap.size w0 w11) := ⟨KP10.out.trans ((KT10.out.below ht11).mono KB0.out)⟩
  clear hT11 ht11 KT10 KP10 KS10
  go_wp2_with (first | ((with_reducible refine wv_elem (d := 59) ?hd ?hw 22 Tryz.isAgg22 (.tmp 58) ?ho (⟨gx, 2, none⟩) ?hx (.int .u64 (N : Int)) ?hc ?_); (case hd => rfl); (case hw => kernel_rfl); (case ho => rfl); (case hx => kernel_rfl); (case hc => exact KX.out _ (KP11.out) 2 _ rfl); simp only [Act.put, List.setIfInBounds_toArray, List.set_cons_succ, List.set_cons_zero]) | ((with_reducible refine wv_elem (d := 61) ?hd ?hw 9 ag_str (.tmp 60) ?ho (⟨gx, 3, none⟩) ?hx (.string (strOf C)) ?hc ?_); (case hd => rfl); (case hw => kernel_rfl); (case ho => rfl); (case hx => kernel_rfl); (case hc => exact KX.out _ (KP11.out) 3 _ rfl); simp only [Act.put, List.setIfInBounds_toArray, List.set_cons_succ, List.set_cons_zero]))
  refine (OpenT_yes KT11.out YX1.out.1 YX1.out.2.1 Yk.out.1 YC.out KN.out KLt.out.1 Gx1.out ⟨Yk.out.1, numL_bytes _, YC.out, YT.out⟩ (by simp)).mono ?_
  rintro e w12 ⟨rfl, q12⟩
  have KP12 : Kept (Below w0.heap.size w0 w12) := ⟨KP11.out.trans (q12.mono KP11.out.size)⟩
  clear q12 KT11 KP11
  go_wp2_with (first | ((with_reducible refine wv_val (d := 67) ?hd ?hw (.bool false) ?hr ?_); (case hd => rfl); (case hw => kernel_rfl); (case hr => intro w; exact run_seq (l := X1) (m := []) rfl (by kernel_rfl) (by kernel_rfl) YX1.out.1 KNil.out YX1.out.2.2 w); simp only [Act.put, List.setIfInBounds_toArray, List.set_cons_succ, List.set_cons_zero]) | ((with_reducible refine wv_elem (d := 71) ?hd ?hw 9 ag_str (.tmp 70) ?ho (⟨gx, 4, none⟩) ?hx (.string (strOf T)) ?hc ?_); (case hd => rfl); (case hw => kernel_rfl); (case ho => rfl); (case hx => kernel_rfl); (case hc => exact KX.out _ (KP12.out) 4 _ rfl); simp only [Act.put, List.setIfInBounds_toArray, List.set_cons_succ, List.set_cons_zero]) | ((with_reducible refine wv_val (d := 72) ?hd ?hw (.bool false) ?hr ?_); (case hd => rfl); (case hw => kernel_rfl); (case hr => intro w; exact run_sneq (l := T) (m := T) rfl (by kernel_rfl) (by kernel_rfl) YT.out YT.out (by simp) w); simp only [Act.put, List.setIfInBounds_toArray, List.set_cons_succ, List.set_cons_zero]))
  rw [rounds_succ]
  go_wp2_with fail
  refine NewD.mono ?_
  rintro e wA ⟨⟨td, Md, rfl, hTd⟩, qA⟩
  obtain ⟨Bd, hBd⟩ : ∃ b, b = w12.heap.size := ⟨_, rfl⟩
  rw [← hBd] at hTd
  have KBd : Kept (w0.heap.size ≤ Bd) := ⟨by rw [hBd]; exact KP12.out.size⟩
  have KTA : Kept (Tab td Bd [] Md wA) := ⟨hTd⟩
  have KPA : Kept (Below w0.heap.size w0 wA) := ⟨KP12.out.trans (qA.mono KP12.out.size)⟩
  clear qA KP12 hTd hBd
  go_wp2_with fail
  refine SymbolD.mono ?_
  rintro e wB ⟨rfl, qB⟩
  have KTd : Kept (Tab td Bd [] Md wB) := ⟨KTA.out.under qB⟩
  have KPb : Kept (Below w0.heap.size w0 wB) := ⟨KPA.out.trans (qB.mono KPA.out.size)⟩
  have KG : Kept (gx < wB.heap.size ∧ ¬ Md gx) := ⟨⟨(BX.out.under KPb.out).lt, fun hM => by have := (KTd.out.range hM).1; have := BX.out.lt; have := KBd.out; omega⟩⟩
  clear qB KPA KTA
  go_wp2_with (first | ((with_reducible refine wv_elem (d := 83) ?hd ?hw 9 ag_str (.tmp 82) ?ho (⟨gx, 0, none⟩) ?hx (.string (strOf A)) ?hc ?_); (case hd => rfl); (case hw => kernel_rfl); (case ho => rfl); (case hx => kernel_rfl); (case hc => exact KX.out _ (KPb.out) 0 _ rfl); simp only [Act.put, List.setIfInBounds_toArray, List.set_cons_succ, List.set_cons_zero]) | ((with_reducible refine wv_elem (d := 85) ?hd ?hw 22 Tryz.isAgg22 (.tmp 84) ?ho (⟨gx, 2, none⟩) ?hx (.int .u64 (N : Int)) ?hc ?_); (case hd => rfl); (case hw => kernel_rfl); (case ho => rfl); (case hx => kernel_rfl); (case hc => exact KX.out _ (KPb.out) 2 _ rfl); simp only [Act.put, List.setIfInBounds_toArray, List.set_cons_succ, List.set_cons_zero]) | ((with_reducible refine wv_elem (d := 87) ?hd ?hw 9 ag_str (.tmp 86) ?ho (⟨gx, 3, none⟩) ?hx (.string (strOf C)) ?hc ?_); (case hd => rfl); (case hw => kernel_rfl); (case ho => rfl); (case hx => kernel_rfl); (case hc => exact KX.out _ (KPb.out) 3 _ rfl); simp only [Act.put, List.setIfInBounds_toArray, List.set_cons_succ, List.set_cons_zero]) | ((with_reducible refine wv_elem (d := 89) ?hd ?hw 9 ag_str (.tmp 88) ?ho (⟨gx, 4, none⟩) ?hx (.string (strOf T)) ?hc ?_); (case hd => rfl); (case hw => kernel_rfl); (case ho => rfl); (case hx => kernel_rfl); (case hc => exact KX.out _ (KPb.out) 4 _ rfl); simp only [Act.put, List.setIfInBounds_toArray, List.set_cons_succ, List.set_cons_zero]))
  refine (SealE KTd.out KN.out YA.out YC.out YT.out Kf.out.1 Kf.out.2.2.1 Kf.out.2.2.2 (by decide) G2.out).mono ?_
  rintro e wC ⟨rfl, Mc, hTc, htc⟩
  have KTc : Kept (Tab td Bd T2 Mc wC) := ⟨hTc⟩
  have Ptc : Kept (Turn Md wB Mc wC) := ⟨htc⟩
  have KPc : Kept (Below w0.heap.size w0 wC) := ⟨KPb.out.trans ((KTd.out.below htc).mono KBd.out)⟩
  clear hTc htc
  go_wp2_with (first | ((with_reducible refine wv_elem (d := 94) ?hd ?hw 9 ag_str (.tmp 93) ?ho (⟨gy, 0, none⟩) ?hx (.string (strOf A2)) ?hc ?_); (case hd => rfl); (case hw => kernel_rfl); (case ho => rfl); (case hx => kernel_rfl); (case hc => exact KY.out _ (KPc.out) 0 _ rfl); simp only [Act.put, List.setIfInBounds_toArray, List.set_cons_succ, List.set_cons_zero]) | ((with_reducible refine wv_elem (d := 96) ?hd ?hw 22 Tryz.isAgg22 (.tmp 95) ?ho (⟨gy, 2, none⟩) ?hx (.int .u64 (N2 : Int)) ?hc ?_); (case hd => rfl); (case hw => kernel_rfl); (case ho => rfl); (case hx => kernel_rfl); (case hc => exact KY.out _ (KPc.out) 2 _ rfl); simp only [Act.put, List.setIfInBounds_toArray, List.set_cons_succ, List.set_cons_zero]) | ((with_reducible refine wv_elem (d := 98) ?hd ?hw 9 ag_str (.tmp 97) ?ho (⟨gy, 3, none⟩) ?hx (.string (strOf C2)) ?hc ?_); (case hd => rfl); (case hw => kernel_rfl); (case ho => rfl); (case hx => kernel_rfl); (case hc => exact KY.out _ (KPc.out) 3 _ rfl); simp only [Act.put, List.setIfInBounds_toArray, List.set_cons_succ, List.set_cons_zero]))
  refine (COx.out _ _ _ _ KTc.out).mono ?_
  rintro e wS ⟨rfl, qS⟩
  have KTs : Kept (Tab td Bd T2 Mc wS) := ⟨KTc.out.under qS⟩
  have Pts : Kept (Turn Md wB Mc wS) := ⟨Ptc.out.trans (Turn.of_below qS)⟩
  have KPs : Kept (Below w0.heap.size w0 wS) := ⟨KPc.out.trans (qS.mono KPc.out.size)⟩
  clear qS KTc Ptc KPc
  generalize Mc = Ms at *
  go_wp2_with (first | ((with_reducible refine wv_elem (d := 104) ?hd ?hw 9 ag_str (.tmp 103) ?ho (⟨gx, 0, none⟩) ?hx (.string (strOf A)) ?hc ?_); (case hd => rfl); (case hw => kernel_rfl); (case ho => rfl); (case hx => kernel_rfl); (case hc => exact KX.out _ (KPs.out) 0 _ rfl); simp only [Act.put, List.setIfInBounds_toArray, List.set_cons_succ, List.set_cons_zero]) | ((with_reducible refine wv_elem (d := 106) ?hd ?hw 9 ag_str (.tmp 105) ?ho (⟨gy, 0, none⟩) ?hx (.string (strOf A2)) ?hc ?_); (case hd => rfl); (case hw => kernel_rfl); (case ho => rfl); (case hx => kernel_rfl); (case hc => exact KY.out _ (KPs.out) 0 _ rfl); simp only [Act.put, List.setIfInBounds_toArray, List.set_cons_succ, List.set_cons_zero]) | ((with_reducible refine wv_elem (d := 110) ?hd ?hw 22 Tryz.isAgg22 (.tmp 109) ?ho (⟨gx, 2, none⟩) ?hx (.int .u64 (N : Int)) ?hc ?_); (case hd => rfl); (case hw => kernel_rfl); (case ho => rfl); (case hx => kernel_rfl); (case hc => exact KX.out _ (KPs.out) 2 _ rfl); simp only [Act.put, List.setIfInBounds_toArray, List.set_cons_succ, List.set_cons_zero]) | ((with_reducible refine wv_elem (d := 112) ?hd ?hw 22 Tryz.isAgg22 (.tmp 111) ?ho (⟨gy, 2, none⟩) ?hx (.int .u64 (N2 : Int)) ?hc ?_); (case hd => rfl); (case hw => kernel_rfl); (case ho => rfl); (case hx => kernel_rfl); (case hc => exact KY.out _ (KPs.out) 2 _ rfl); simp only [Act.put, List.setIfInBounds_toArray, List.set_cons_succ, List.set_cons_zero]) | ((with_reducible refine wv_elem (d := 117) ?hd ?hw 9 ag_str (.tmp 116) ?ho (⟨gx, 3, none⟩) ?hx (.string (strOf C)) ?hc ?_); (case hd => rfl); (case hw => kernel_rfl); (case ho => rfl); (case hx => kernel_rfl); (case hc => exact KX.out _ (KPs.out) 3 _ rfl); simp only [Act.put, List.setIfInBounds_toArray, List.set_cons_succ, List.set_cons_zero]) | ((with_reducible refine wv_elem (d := 119) ?hd ?hw 9 ag_str (.tmp 118) ?ho (⟨gy, 3, none⟩) ?hx (.string (strOf C2)) ?hc ?_); (case hd => rfl); (case hw => kernel_rfl); (case ho => rfl); (case hx => kernel_rfl); (case hc => exact KY.out _ (KPs.out) 3 _ rfl); simp only [Act.put, List.setIfInBounds_toArray, List.set_cons_succ, List.set_cons_zero]) | ((with_reducible refine wv_elem (d := 131) ?hd ?hw 9 ag_str (.tmp 130) ?ho (⟨gx, 4, none⟩) ?hx (.string (strOf T)) ?hc ?_); (case hd => rfl); (case hw => kernel_rfl); (case ho => rfl); (case hx => kernel_rfl); (case hc => exact KX.out _ (KPs.out) 4 _ rfl); simp only [Act.put, List.setIfInBounds_toArray, List.set_cons_succ, List.set_cons_zero]) | ((with_reducible refine wv_val (d := 107) ?hd ?hw (.bool true) ?hr ?_); (case hd => rfl); (case hw => kernel_rfl); (case hr => intro w; exact run_seq (l := A) (m := A2) rfl (by kernel_rfl) (by kernel_rfl) YA.out YA2.out Kb1.out w); simp only [Act.put, List.setIfInBounds_toArray, List.set_cons_succ, List.set_cons_zero]) | ((with_reducible refine wv_val (d := 113) ?hd ?hw (.bool true) ?hr ?_); (case hd => rfl); (case hw => kernel_rfl); (case hr => intro w; exact run_eqN (m := N) (n := N2) rfl (by kernel_rfl) (by kernel_rfl) Kb2.out w); simp only [Act.put, List.setIfInBounds_toArray, List.set_cons_succ, List.set_cons_zero]) | ((with_reducible refine wv_val (d := 120) ?hd ?hw (.bool true) ?hr ?_); (case hd => rfl); (case hw => kernel_rfl); (case hr => intro w; exact run_seq (l := C) (m := C2) rfl (by kernel_rfl) (by kernel_rfl) YC.out YC2.out Kb3.out w); simp only [Act.put, List.setIfInBounds_toArray, List.set_cons_succ, List.set_cons_zero]) | ((with_reducible refine wv_val (d := 132) ?hd ?hw (.bool false) ?hr ?_); (case hd => rfl); (case hw => kernel_rfl); (case hr => intro w; exact run_sneq (l := T) (m := T) rfl (by kernel_rfl) (by kernel_rfl) YT.out YT.out (by simp) w); simp only [Act.put, List.setIfInBounds_toArray, List.set_cons_succ, List.set_cons_zero]))
  refine region_phaseL (G := Nat → Prop) 18 [8, 12] [(148, .iface 90 (.agg #[.pointer (some ⟨td, 0, none⟩)])), (149, .pointer (some ⟨gx, 0, none⟩)), (150, .string (strOf A)), (151, .pointer (some ⟨gx, 2, none⟩)), (152, .int .u64 (N : Int)), (153, .pointer (some ⟨gx, 3, none⟩)), (154, .string (strOf C)), (155, .iface 90 (.agg #[.pointer (some ⟨td, 0, none⟩)])), (156, .string (strOf H)), (157, .func (.method "Open") #[.iface 90 (.agg #[.pointer (some ⟨td, 0, none⟩)])] #[]), (158, .func (.method "Open") #[.iface 90 (.agg #[.pointer (some ⟨td, 0, none⟩)])] #[]), (159, .iface 90 (.agg #[.pointer (some ⟨td, 0, none⟩)])), (160, .tuple #[.string ⟨#[]⟩, .int .i64 5]), (147, .tuple #[.string ⟨#[]⟩, .int .i64 5]), (161, .string ⟨#[]⟩), (162, .int .i64 5), (16, .string ⟨#[]⟩), (17, .int .i64 5)] (LN []) (fun k => CT td Bd (([T2, T3, T3] : List (List TermL)).getD k []) Md wB) rfl (by kernel_rfl) (by kernel_rfl) (by kernel_rfl) (by kernel_rfl) (by kernel_rfl) (by kernel_rfl) (by kernel_rfl) (by kernel_rfl) (by kernel_rfl) (by kernel_rfl) LN_under (fun k g w w' h hb => CT.under h hb) Ms ⟨KTs.out, Pts.out⟩ (fun hA => ⟨.inl ⟨rfl, fun k M W1 hC1 => (fun hA => ow_val hA (wants_none rfl) 148 (.iface 90 (.agg #[.pointer (some ⟨td, 0, none⟩)])) (by kernel_rfl) rfl rfl rfl rfl (by kernel_rfl) (fun w => by kernel_rfl)) (hA M)⟩, .inl ⟨rfl, fun k M W1 hC1 => (fun hA => ow_val hA (wants_none rfl) 149 (.pointer (some ⟨gx, 0, none⟩)) (by kernel_rfl) rfl rfl rfl rfl (by kernel_rfl) (fun w => by kernel_rfl)) (hA M)⟩, .inl ⟨rfl, fun k M W1 hC1 => (fun hA => ow_elem hA (wants_none rfl) 150 (.string (strOf A)) (by kernel_rfl) rfl rfl rfl rfl (by kernel_rfl) 9 ag_str (.tmp 149) rfl (⟨gx, 0, none⟩) (by kernel_rfl) (fun w1 hb => hC1.cell hb (KX.out _ KPb.out 0 _ rfl) KG.out.1 KG.out.2)) (hA M)⟩, .inl ⟨rfl, fun k M W1 hC1 => (fun hA => ow_val hA (wants_none rfl) 151 (.pointer (some ⟨gx, 2, none⟩)) (by kernel_rfl) rfl rfl rfl rfl (by kernel_rfl) (fun w => by kernel_rfl)) (hA M)⟩, .inl ⟨rfl, fun k M W1 hC1 => (fun hA => ow_elem hA (wants_none rfl) 152 (.int .u64 (N : Int)) (by kernel_rfl) rfl rfl rfl rfl (by kernel_rfl) 22 Tryz.isAgg22 (.tmp 151) rfl (⟨gx, 2, none⟩) (by kernel_rfl) (fun w1 hb => hC1.cell hb (KX.out _ KPb.out 2 _ rfl) KG.out.1 KG.out.2)) (hA M)⟩, .inl ⟨rfl, fun k M W1 hC1 => (fun hA => ow_val hA (wants_none rfl) 153 (.pointer (some ⟨gx, 3, none⟩)) (by kernel_rfl) rfl rfl rfl rfl (by kernel_rfl) (fun w => by kernel_rfl)) (hA M)⟩, .inl ⟨rfl, fun k M W1 hC1 => (fun hA => ow_elem hA (wants_none rfl) 154 (.string (strOf C)) (by kernel_rfl) rfl rfl rfl rfl (by kernel_rfl) 9 ag_str (.tmp 153) rfl (⟨gx, 3, none⟩) (by kernel_rfl) (fun w1 hb => hC1.cell hb (KX.out _ KPb.out 3 _ rfl) KG.out.1 KG.out.2)) (hA M)⟩, .inl ⟨rfl, fun k M W1 hC1 => (fun hA => ow_val hA (wants_none rfl) 155 (.iface 90 (.agg #[.pointer (some ⟨td, 0, none⟩)])) (by kernel_rfl) rfl rfl rfl rfl (by kernel_rfl) (fun w => by kernel_rfl)) (hA M)⟩, .inr ⟨0, rfl, ph_invoke hA (fun M => (fun hA => (wants_none rfl)) (hA M)) 156 (.string (strOf H)) rfl rfl (by kernel_rfl) LN_turn (by kernel_rfl) (.tmp 155) "Hash" [.const (.string ⟨#[110, 111]⟩), .const (.string ⟨#[98, 111, 120]⟩)] _ 90 (.agg #[.pointer (some ⟨td, 0, none⟩)]) 173 (.agg #[.pointer (some ⟨td, 0, none⟩)]) Tryz.f173 _ [.string ⟨#[110, 111]⟩, .string ⟨#[98, 111, 120]⟩] rfl (by kernel_rfl) (by kernel_rfl) (fun w => by kernel_rfl) Tryz.func173 (by kernel_rfl) rfl (CHh.out _ _ _ _)⟩, .inl ⟨rfl, fun k M W1 hC1 => (fun hA => ow_val hA (wants_none rfl) 157 (.func (.method "Open") #[.iface 90 (.agg #[.pointer (some ⟨td, 0, none⟩)])] #[]) (by kernel_rfl) rfl rfl rfl rfl (by kernel_rfl) (fun w => by kernel_rfl)) (hA M)⟩, .inl ⟨rfl, fun k M W1 hC1 => (fun hA => ow_val hA (wants_none rfl) 158 (.func (.method "Open") #[.iface 90 (.agg #[.pointer (some ⟨td, 0, none⟩)])] #[]) (by kernel_rfl) rfl rfl rfl rfl (by kernel_rfl) (fun w => by kernel_rfl)) (hA M)⟩, .inl ⟨rfl, fun k M W1 hC1 => (fun hA => ow_val hA (wants_none rfl) 159 (.iface 90 (.agg #[.pointer (some ⟨td, 0, none⟩)])) (by kernel_rfl) rfl rfl rfl rfl (by kernel_rfl) (fun w => by kernel_rfl)) (hA M)⟩, .inr ⟨1, rfl, ph_invoke hA (fun M => (fun hA => (wants_none rfl)) (hA M)) 160 (.tuple #[.string ⟨#[]⟩, .int .i64 5]) rfl rfl (by kernel_rfl) LN_turn (by kernel_rfl) (.tmp 159) "Open" [.tmp 150, .tmp 152, .tmp 154, .tmp 156] _ 90 (.agg #[.pointer (some ⟨td, 0, none⟩)]) 175 (.agg #[.pointer (some ⟨td, 0, none⟩)]) Tryz.f175 _ [.string (strOf A), .int .u64 (N : Int), .string (strOf C), .string (strOf H)] rfl (by kernel_rfl) (by kernel_rfl) (fun w => by kernel_rfl) Tryz.func175 (by kernel_rfl) rfl (COh.out _ _ _ _)⟩, .inl ⟨rfl, fun k M W1 hC1 => (fun hA => ow_val hA (wants_none rfl) 147 (.tuple #[.string ⟨#[]⟩, .int .i64 5]) (by kernel_rfl) rfl rfl rfl rfl (by kernel_rfl) (fun w => by kernel_rfl)) (hA M)⟩, .inl ⟨rfl, fun k M W1 hC1 => (fun hA => ow_val hA (wants_none rfl) 161 (.string ⟨#[]⟩) (by kernel_rfl) rfl rfl rfl rfl (by kernel_rfl) (fun w => by kernel_rfl)) (hA M)⟩, .inl ⟨rfl, fun k M W1 hC1 => (fun hA => ow_val hA (wants_none rfl) 162 (.int .i64 5) (by kernel_rfl) rfl rfl rfl rfl (by kernel_rfl) (fun w => by kernel_rfl)) (hA M)⟩, .inl ⟨rfl, fun k M W1 hC1 => (fun hA => ow_val hA (wants_none rfl) 16 (.string ⟨#[]⟩) (by kernel_rfl) rfl rfl rfl rfl (by kernel_rfl) (fun w => by kernel_rfl)) (hA M)⟩, .inl ⟨rfl, fun k M W1 hC1 => (fun hA => ow_val hA (wants_none rfl) 17 (.int .i64 5) (by kernel_rfl) rfl rfl rfl rfl (by kernel_rfl) (fun w => by kernel_rfl)) (hA M)⟩, trivial⟩) ?_
  intro fv M20 w20 hf hC20
  simp only [LN, putR, List.foldl_cons, List.foldl_nil, List.map_cons, List.map_nil, Act.put, List.setIfInBounds_toArray, List.set_cons_succ, List.set_cons_zero]
  refine wpList_nil ?_
  have KP20 : Kept (Below w0.heap.size w0 w20) := ⟨KPb.out.trans ((KTd.out.below hC20.2).mono KBd.out)⟩
  clear hf hC20
  go_wp2_with fail
  go_ret
  exact ⟨rfl, Q0.out.trans (KP20.out.mono Q0.out.size)⟩
set_option maxRecDepth 100000 in
set_option maxHeartbeats 8000000 in
theorem back_diff {A B C T A2 B2 C2 U2 : List Nat} {N N2 : Nat} {w : World} (hA : Bytes A) (hC : Bytes C) (hT : Bytes T) (hA2 : Bytes A2) (hC2 : Bytes C2) (hN : N < 18446744073709551616) (hN2 : N2 < 18446744073709551616) (hr : RootsAt w) (hf : decide (Few A B C T) = true) (hf2 : decide (Few A2 B2 C2 U2) = true) (hs : ¬ (A = A2 ∧ N = N2 ∧ C = C2)) : Calls Tryz.prog 6 #[.agg #[.string (strOf A), .string (strOf B), .int .u64 (N : Int), .string (strOf C), .string (strOf T)], .agg #[.string (strOf A2), .string (strOf B2), .int .u64 (N2 : Int), .string (strOf C2), .string (strOf U2)]] w fun e w' => e = .returned (.bool true) ∧ Below w.heap.size w w' := by
  have KF : Kept (Few A B C T) := ⟨of_decide_eq_true hf⟩
  have KF2 : Kept (Few A2 B2 C2 U2) := ⟨of_decide_eq_true hf2⟩
  have h8 : 4000 ≤ maxLen := by decide
  obtain ⟨Z, hZ⟩ : ∃ z : List Nat, z = List.replicate 32 0 := ⟨_, rfl⟩
  obtain ⟨AZ, hAZ⟩ : ∃ z, z = A ++ Z := ⟨_, rfl⟩
  obtain ⟨k, hk⟩ : ∃ z, z = AZ.take 32 := ⟨_, rfl⟩
  have lZ : Z.length = 32 := by rw [hZ]; simp
  have lAZ : AZ.length = A.length + 32 := by rw [hAZ, List.length_append, lZ]
  have lk : k.length = 32 := by rw [hk, List.length_take]; omega
  have bZ : Bytes Z := by rw [hZ]; exact bytes_zero 32
  have bk : Bytes k := by rw [hk, hAZ]; exact (hA.append bZ).take 32
  have KZ : Kept (Z = List.replicate 32 0) := ⟨hZ⟩
  have KAZ : Kept (A.length + Z.length < 4611686018427387904 ∧ AZ = A ++ Z ∧ 32 ≤ AZ.length ∧ k = AZ.take 32) := ⟨⟨by have := KF.out.1; omega, hAZ, by omega, hk⟩⟩
  have KNil : Kept (Bytes []) := ⟨fun i x h => by simp at h⟩
  obtain ⟨X0, hX0⟩ : ∃ x, x = sealL k N C T := ⟨_, rfl⟩
  have lX0 : X0.length = T.length + 16 := by rw [hX0, sealL_len]
  have YX0 : Kept (Bytes X0 ∧ false = decide (X0 = [])) := ⟨⟨by rw [hX0]; exact sealL_bytes _ _ _ hT, by rw [decide_eq_false (fun e => by rw [e] at lX0; simp at lX0)]⟩⟩
  have CSr : Kept (∀ w, Calls Tryz.prog 171 #[.agg #[], .string (strOf k), .int .u64 (N : Int), .string (strOf C), .string (strOf T)] w fun e w' => e = .returned (.string (strOf X0)) ∧ Below w.heap.size w w') := ⟨fun w => by
    have h9 := SealR (w := w) bk lk hN hC hT
    rw [sealP_ok _ _ _ _ (by have := KF.out.2.2.1; omega) (by have := KF.out.2.2.2; omega), ← hX0] at h9
    exact h9⟩
  have COr : Kept (∀ w, Calls Tryz.prog 169 #[.agg #[], .string (strOf k), .int .u64 (N : Int), .string (strOf C), .string (strOf X0)] w fun e w' => e = .returned (.tuple #[.string (strOf T), .int .i64 0]) ∧ Below w.heap.size w w') := ⟨fun w => by
    have h9 := OpenR (w := w) bk lk hN hC YX0.out.1
    rw [hX0, openP_seal _ _ _ _ (by have := KF.out.2.2.1; omega) (by have := KF.out.2.2.2; omega), ← hX0] at h9
    exact h9⟩
  have jl := numL_len N
  have f1 : Fits ((5, [k, numL N, C, T]) : TermL).2 := fits_any (by simp) (by
    intro l hl
    have := KF.out
    simp only [List.mem_cons, List.not_mem_nil, or_false] at hl
    rcases hl with rfl | rfl | rfl | rfl
    · omega
    · omega
    · have := this.2.2.1; omega
    · have := this.2.2.2; omega)
  have f2 : Fits ((5, [A, numL N, C, T]) : TermL).2 := fits_any (by simp) (by
    intro l hl
    have := KF.out
    simp only [List.mem_cons, List.not_mem_nil, or_false] at hl
    rcases hl with rfl | rfl | rfl | rfl
    · have := this.1; omega
    · omega
    · have := this.2.2.1; omega
    · have := this.2.2.2; omega)
  have f3 : Fits ((4, [hashW, noW, boxW]) : TermL).2 := fits_any (by simp) (by
    intro l hl
    simp only [List.mem_cons, List.not_mem_nil, or_false] at hl
    rcases hl with rfl | rfl | rfl <;> decide)
  obtain ⟨T1, X1, g1⟩ : ∃ T1 X1, putL [] (5, [k, numL N, C, T]) = (T1, X1) := ⟨_, _, rfl⟩
  obtain ⟨T2, X2, g2⟩ : ∃ T2 X2, putL [] (5, [A, numL N, C, T]) = (T2, X2) := ⟨_, _, rfl⟩
  obtain ⟨T3, H, g3⟩ : ∃ T3 H, putL T2 (4, [hashW, noW, boxW]) = (T3, H) := ⟨_, _, rfl⟩
  have l0 : ([] : List TermL).length = 0 := rfl
  have l1 := putL_len [] (5, [k, numL N, C, T])
  rw [g1] at l1
  have l2 := putL_len [] (5, [A, numL N, C, T])
  rw [g2] at l2
  have l3 := putL_len T2 (4, [hashW, noW, boxW])
  rw [g3] at l3
  simp only at l1 l2 l3
  have KLt : Kept (T1.length < 1000000 ∧ T2.length < 1000000 ∧ T3.length < 1000000) := ⟨⟨by omega, by omega, by omega⟩⟩
  have G1 : Kept _ := ⟨g1⟩
  have G2 : Kept _ := ⟨g2⟩
  have Gx1 : Kept (partX T1 X1 = some (5, [k, numL N, C, T])) := ⟨put_part g1 f1 (by omega)⟩
  have Gx2 : Kept (partX T2 X2 = some (5, [A, numL N, C, T])) := ⟨put_part g2 f2 (by omega)⟩
  have Gx3 : Kept (partX T3 H = some (4, [hashW, noW, boxW])) := ⟨put_part g3 f3 (by omega)⟩
  have n1 := putL_ne (ts := []) f1
  have b1 := putL_bytes [] (5, [k, numL N, C, T])
  rw [g1] at n1 b1
  simp only at n1 b1
  have n2 := putL_ne (ts := []) f2
  have b2 := putL_bytes [] (5, [A, numL N, C, T])
  rw [g2] at n2 b2
  simp only at n2 b2
  have n3 := putL_ne (ts := T2) f3
  have b3 := putL_bytes T2 (4, [hashW, noW, boxW])
  rw [g3] at n3 b3
  simp only at n3 b3
  have YX1 : Kept (Bytes X1 ∧ X1.length ≤ maxLen ∧ false = decide (X1 = [])) := ⟨⟨b1, by omega, by rw [decide_eq_false n1.1]⟩⟩
  have Yk : Kept (Bytes k ∧ k.length ≤ maxLen) := ⟨⟨bk, by omega⟩⟩
  have Kf : Kept (A.length ≤ maxLen ∧ B.length ≤ maxLen ∧ C.length ≤ maxLen ∧ T.length ≤ maxLen) := ⟨by have := KF.out; exact ⟨by have := this.1; omega, by have := this.2.1; omega, by have := this.2.2.1; omega, by have := this.2.2.2; omega⟩⟩
  have CHh : Kept (∀ (tb B0 : Nat) (M0 : Nat → Prop) (W : World) (M : Nat → Prop) (w : World), CT tb B0 T2 M0 W M w → Calls Tryz.prog 173 (.agg #[.pointer (some ⟨tb, 0, none⟩)] :: [.string ⟨#[110, 111]⟩, .string ⟨#[98, 111, 120]⟩]).toArray w fun e w' => e = .returned (.string (strOf H)) ∧ ∃ M', CT tb B0 T3 M0 W M' w' ∧ Turn M w M' w') := ⟨fun tb B0 M0 W M w h => (HashT (x := noW) (y := boxW) h.1 noW_ok.1 noW_ok.2 (by decide) (by decide) KLt.out.2.1 g3).mono fun e w' hh => ⟨hh.1, h.puts hh.2⟩⟩
  have COh : Kept (∀ (tb B0 : Nat) (M0 : Nat → Prop) (W : World) (M : Nat → Prop) (w : World), CT tb B0 T3 M0 W M w → Calls Tryz.prog 175 (.agg #[.pointer (some ⟨tb, 0, none⟩)] :: [.string (strOf A), .int .u64 (N : Int), .string (strOf C), .string (strOf H)]).toArray w fun e w' => e = .returned (.tuple #[.string ⟨#[]⟩, .int .i64 5]) ∧ ∃ M', CT tb B0 T3 M0 W M' w' ∧ Turn M w M' w') := ⟨fun tb B0 M0 W M w h => (OpenT_kind h.1 b3 (by omega) KLt.out.2.2 Gx3.out (by decide)).mono fun e w' hh => ⟨hh.1, M, h.under hh.2, Turn.of_below hh.2⟩⟩
  have YA : Kept _ := ⟨hA⟩
  have YC : Kept _ := ⟨hC⟩
  have YT : Kept _ := ⟨hT⟩
  have YA2 : Kept _ := ⟨hA2⟩
  have YC2 : Kept _ := ⟨hC2⟩
  have KN : Kept _ := ⟨hN⟩
  have COx : Kept (∀ (tb B0 : Nat) (M : Nat → Prop) (w : World), Tab tb B0 T2 M w → Calls Tryz.prog 175 #[.agg #[.pointer (some ⟨tb, 0, none⟩)], .string (strOf A2), .int .u64 (N2 : Int), .string (strOf C2), .string (strOf X2)] w fun e w' => e = .returned (.tuple #[.string ⟨#[]⟩, .int .i64 5]) ∧ Below w.heap.size w w') := ⟨fun tb B0 M w h => OpenT_not h b2 (by omega) hA2 hC2 hN2 KLt.out.2.1 Gx2.out ⟨hA, numL_bytes _, hC, hT⟩ (decide_eq_false (fun e => hs (by simp only [List.cons.injEq, and_true] at e; exact ⟨e.1, numL_one hN hN2 e.2.1, e.2.2⟩)))⟩
  clear hA hC hT hA2 hC2 hN hN2 h8 hZ hAZ hk lZ lAZ lk bZ bk hX0 lX0 jl f1 f2 f3 g1 g2 g3 l0 l1 l2 l3 n1 n2 n3 b1 b2 b3
  have Ks : Kept _ := ⟨hs⟩
  clear hs
  obtain ⟨gx, hgx⟩ : ∃ g, g = w.heap.size := ⟨_, rfl⟩
  obtain ⟨gy, hgy⟩ : ∃ g, g = w.heap.size + 1 := ⟨_, rfl⟩
  obtain ⟨w0, hw0⟩ : ∃ v, v = (w.alloc (.cells #[.string (strOf A), .string (strOf B), .int .u64 (N : Int), .string (strOf C), .string (strOf T)] 24)).alloc (.cells #[.string (strOf A2), .string (strOf B2), .int .u64 (N2 : Int), .string (strOf C2), .string (strOf U2)] 24) := ⟨_, rfl⟩
  have BX : Kept (Blk w0 gx 24 #[.string (strOf A), .string (strOf B), .int .u64 (N : Int), .string (strOf C), .string (strOf T)]) := ⟨by rw [hw0, hgx]; exact (blk_new w _ _).under ((Below.refl _ _).alloc (Nat.le_refl _) _)⟩
  have BY : Kept (Blk w0 gy 24 #[.string (strOf A2), .string (strOf B2), .int .u64 (N2 : Int), .string (strOf C2), .string (strOf U2)]) := ⟨by
    have := blk_new (w.alloc (.cells #[.string (strOf A), .string (strOf B), .int .u64 (N : Int), .string (strOf C), .string (strOf T)] 24)) 24 #[.string (strOf A2), .string (strOf B2), .int .u64 (N2 : Int), .string (strOf C2), .string (strOf U2)]
    rw [show (w.alloc (.cells #[.string (strOf A), .string (strOf B), .int .u64 (N : Int), .string (strOf C), .string (strOf T)] 24)).heap.size = w.heap.size + 1 by simp] at this
    rw [hw0, hgy]
    exact this⟩
  have q0 := (Below.refl w.heap.size w).alloc (Nat.le_refl _) (.cells #[.string (strOf A), .string (strOf B), .int .u64 (N : Int), .string (strOf C), .string (strOf T)] 24)
  have Q0 : Kept (Below w.heap.size w w0) := ⟨by rw [hw0]; exact q0.alloc q0.size _⟩
  have KX : Kept (∀ w', Below w0.heap.size w0 w' → ∀ (k : Nat) (v : Value), (#[.string (strOf A), .string (strOf B), .int .u64 (N : Int), .string (strOf C), .string (strOf T)] : Array Value)[k]? = some v → w'.cell? ⟨gx, k, none⟩ = some v) := ⟨fun w' hb k v hk => (BX.out.under hb).cell hk⟩
  have KY : Kept (∀ w', Below w0.heap.size w0 w' → ∀ (k : Nat) (v : Value), (#[.string (strOf A2), .string (strOf B2), .int .u64 (N2 : Int), .string (strOf C2), .string (strOf U2)] : Array Value)[k]? = some v → w'.cell? ⟨gy, k, none⟩ = some v) := ⟨fun w' hb k v hk => (BY.out.under hb).cell hk⟩
  have IX : Kept ((Tryz.prog.info? 24).map (·.size) = some (#[.string (strOf A), .string (strOf B), .int .u64 (N : Int), .string (strOf C), .string (strOf T)] : Array Value).size) := ⟨by kernel_rfl⟩
  have IY : Kept ((Tryz.prog.info? 24).map (·.size) = some (#[.string (strOf A2), .string (strOf B2), .int .u64 (N2 : Int), .string (strOf C2), .string (strOf U2)] : Array Value).size) := ⟨by kernel_rfl⟩
  have KR : Kept (RootsAt w0) := ⟨hr.under Q0.out⟩
  have CF : Kept (∀ w, Calls Tryz.prog 10 #[.agg #[.string (strOf A), .string (strOf B), .int .u64 (N : Int), .string (strOf C), .string (strOf T)]] w fun e w' => e = .returned (.bool true) ∧ Below w.heap.size w w') := ⟨fun w => by
    have h9 := few11 (A := A) (B := B) (C := C) (T := T) (N := N) (w := w)
    rw [show decide (Few A B C T) = true from hf] at h9
    exact h9⟩
  have CF2 : Kept (∀ w, Calls Tryz.prog 10 #[.agg #[.string (strOf A2), .string (strOf B2), .int .u64 (N2 : Int), .string (strOf C2), .string (strOf U2)]] w fun e w' => e = .returned (.bool true) ∧ Below w.heap.size w w') := ⟨fun w => by
    have h9 := few11 (A := A2) (B := B2) (C := C2) (T := U2) (N := N2) (w := w)
    rw [show decide (Few A2 B2 C2 U2) = true from hf2] at h9
    exact h9⟩
  have Kw0 : Kept _ := ⟨hw0⟩
  have Kgx : Kept _ := ⟨hgx⟩
  have Kgy : Kept _ := ⟨hgy⟩
  clear hw0 hgx hgy hr hf q0 hf2
  go_enter Tryz.func6, Tryz.ntmps6
  go_wp2_with (first | ((with_reducible refine wv_rowS (d := 18) ?hd ?hw 24 (.tmp 2) ?ho (w.heap.size) ?hx (t' := 24) (#[.string (strOf A), .string (strOf B), .int .u64 (N : Int), .string (strOf C), .string (strOf T)]) _ Tryz.underlying24 ?hs ?hg ?_); (case hd => rfl); (case hw => kernel_rfl); (case ho => rfl); (case hx => kernel_rfl); (case hs => exact IX.out); (case hg => exact (by have h := BX.out; rw [Kw0.out, Kgx.out] at h; exact h)); simp only [Act.put, List.setIfInBounds_toArray, List.set_cons_succ, List.set_cons_zero]))
  rw [← Kw0.out, ← Kgy.out, ← Kgx.out]
  refine (CF.out _).mono ?_
  rintro e w1 ⟨rfl, q1⟩
  have KP1 : Kept (Below w0.heap.size w0 w1) := ⟨q1⟩
  clear q1
  go_wp2_with (first | ((with_reducible refine wv_rowS (d := 22) ?hd ?hw 24 (.tmp 3) ?ho (gy) ?hx (t' := 24) (#[.string (strOf A2), .string (strOf B2), .int .u64 (N2 : Int), .string (strOf C2), .string (strOf U2)]) _ Tryz.underlying24 ?hs ?hg ?_); (case hd => rfl); (case hw => kernel_rfl); (case ho => rfl); (case hx => kernel_rfl); (case hs => exact IY.out); (case hg => exact (BY.out.under KP1.out)); simp only [Act.put, List.setIfInBounds_toArray, List.set_cons_succ, List.set_cons_zero]))
  refine (CF2.out _).mono ?_
  rintro e w2 ⟨rfl, q2⟩
  have KP2 : Kept (Below w0.heap.size w0 w2) := ⟨KP1.out.trans (q2.mono KP1.out.size)⟩
  clear q2 KP1
  go_wp2_with fail
  refine (alive11 (KR.out.under KP2.out)).mono ?_
  rintro e w3 ⟨rfl, q3⟩
  have KP3 : Kept (Below w0.heap.size w0 w3) := ⟨KP2.out.trans (q3.mono KP2.out.size)⟩
  clear q3 KP2
  go_wp2_with fail
  refine region_ownNL w3 7 [(31, .pointer (some ⟨gx, 0, none⟩)), (32, .string (strOf A)), (34, .string (strOf Z)), (35, .string (strOf AZ)), (36, .string (strOf k)), (5, .string (strOf k))] [(33, fun v w => BytesV v w Z)] [] [] rfl (by kernel_rfl) (by kernel_rfl) (by kernel_rfl) (by kernel_rfl) (by kernel_rfl) (by kernel_rfl) (by kernel_rfl) (by kernel_rfl) (by kernel_rfl) (by kernel_rfl) (by kernel_rfl) ?hst1 ?hst2 (Below.refl _ _) (fun hA => ⟨ow_val hA (wants_none rfl) 31 (.pointer (some ⟨gx, 0, none⟩)) (by kernel_rfl) rfl rfl rfl rfl (by kernel_rfl) (fun w => by kernel_rfl), ow_elem hA (wants_none rfl) 32 (.string (strOf A)) (by kernel_rfl) rfl rfl rfl rfl (by kernel_rfl) 9 ag_str (.tmp 31) rfl (⟨gx, 0, none⟩) (by kernel_rfl) (fun w1 hb => KX.out _ (KP3.out.trans (hb.mono KP3.out.size)) 0 _ rfl), ow_make32 hA (wants_none rfl) 33 rfl rfl Z KZ.out rfl rfl, ow_strS hA (wants_none rfl) 34 (.string (strOf Z)) 33 rfl rfl (by kernel_rfl) rfl (by kernel_rfl) Z rfl rfl rfl rfl, ow_val hA (wants_none rfl) 35 (.string (strOf AZ)) (by kernel_rfl) rfl rfl rfl rfl (by kernel_rfl) (fun w => run_scat rfl (by kernel_rfl) (by kernel_rfl) KAZ.out.1 KAZ.out.2.1 w), ow_val hA (wants_none rfl) 36 (.string (strOf k)) (by kernel_rfl) rfl rfl rfl rfl (by kernel_rfl) (fun w => run_scutT (j := 32) rfl (by kernel_rfl) (by kernel_rfl) KAZ.out.2.2.1 KAZ.out.2.2.2 w), ow_val hA (wants_none rfl) 5 (.string (strOf k)) (by kernel_rfl) rfl rfl rfl rfl (by kernel_rfl) (fun w => by kernel_rfl), trivial⟩) ?_
  case hst1 => intro q hq h0 v w w' h1 h2 h3 h9; simp only [List.mem_singleton] at hq; subst hq; exact BytesV.under h1 (h9 rfl)
  case hst2 => intro q hq h0; simp at h0
  intro fv w4 hf hD hb4
  simp only [putR, List.foldl_cons, List.foldl_nil, List.map_cons, List.map_nil, Act.put, List.setIfInBounds_toArray, List.set_cons_succ, List.set_cons_zero]
  refine wpList_nil ?_
  have KP4 : Kept (Below w0.heap.size w0 w4) := ⟨KP3.out.trans (hb4.mono KP3.out.size)⟩
  clear hf hD hb4 KP3
  go_wp2_with fail
  refine RealD.mono ?_
  rintro e w5 ⟨rfl, q5⟩
  have KP5 : Kept (Below w0.heap.size w0 w5) := ⟨KP4.out.trans (q5.mono KP4.out.size)⟩
  clear q5 KP4
  go_wp2_with fail
  refine NewD.mono ?_
  rintro e w6 ⟨⟨tb, M0, rfl, hT6⟩, q6⟩
  obtain ⟨B0, hB0⟩ : ∃ b, b = w5.heap.size := ⟨_, rfl⟩
  rw [← hB0] at hT6
  have KB0 : Kept (w0.heap.size ≤ B0) := ⟨by rw [hB0]; exact KP5.out.size⟩
  have KT6 : Kept (Tab tb B0 [] M0 w6) := ⟨hT6⟩
  have KP6 : Kept (Below w0.heap.size w0 w6) := ⟨KP5.out.trans (q6.mono KP5.out.size)⟩
  clear q6 KP5 hT6 hB0
  go_wp2_with fail
  refine SymbolD.mono ?_
  rintro e w7 ⟨rfl, q7⟩
  have KT7 : Kept (Tab tb B0 [] M0 w7) := ⟨KT6.out.under q7⟩
  have KP7 : Kept (Below w0.heap.size w0 w7) := ⟨KP6.out.trans (q7.mono KP6.out.size)⟩
  clear q7 KP6 KT6
  obtain ⟨w8, hw8⟩ : ∃ z, z = w7.alloc (.cells #[.iface 64 (.agg #[]), .iface 90 (.agg #[.pointer (some ⟨tb, 0, none⟩)])] 27) := ⟨_, rfl⟩
  obtain ⟨gs, hgs⟩ : ∃ z, z = w7.heap.size := ⟨_, rfl⟩
  have q8 : Below w7.heap.size w7 w8 := by rw [hw8]; exact (Below.refl _ _).alloc (Nat.le_refl _) _
  have KS : Kept (Blk w8 gs 27 #[.iface 64 (.agg #[]), .iface 90 (.agg #[.pointer (some ⟨tb, 0, none⟩)])]) := ⟨by rw [hw8, hgs]; exact blk_new w7 _ _⟩
  have KP8 : Kept (Below w0.heap.size w0 w8) := ⟨KP7.out.trans (q8.mono KP7.out.size)⟩
  have KT8 : Kept (Tab tb B0 [] M0 w8) := ⟨KT7.out.under q8⟩
  have Kw8 : Kept _ := ⟨hw8⟩
  have Kgs : Kept _ := ⟨hgs⟩
  clear q8 hw8 hgs KT7 KP7
  go_wp2_with (first | (refine wl_bsP rfl tb (.tmp 37) (.tmp 39) rfl (by kernel_rfl) (by kernel_rfl) ?_; rw [← Kw8.out, ← Kgs.out]; simp only [Act.put, List.setIfInBounds_toArray, List.set_cons_succ, List.set_cons_zero]))
  refine wp_loop_rounds 3 ?_
  rw [rounds_succ]
  go_wp2_with (first | ((with_reducible refine wv_val (d := 44) ?hd ?hw (.pointer (some ⟨gs, 0, none⟩)) ?hr ?_); (case hd => rfl); (case hw => kernel_rfl); (case hr => intro w; exact run_idxG0 (i := 0) (l := 2) (c := 2) (g := gs) rfl (by kernel_rfl) (by kernel_rfl) Tryz.underlying60 (by decide) Tryz.sizeOf27 w); simp only [Act.put, List.setIfInBounds_toArray, List.set_cons_succ, List.set_cons_zero]) | ((with_reducible refine wv_elem (d := 45) ?hd ?hw 27 Tryz.isAgg27 (.tmp 44) ?ho (⟨gs, 0, none⟩) ?hx (.iface 64 (.agg #[])) ?hc ?_); (case hd => rfl); (case hw => kernel_rfl); (case ho => rfl); (case hx => kernel_rfl); (case hc => exact KS.out.cell rfl); simp only [Act.put, List.setIfInBounds_toArray, List.set_cons_succ, List.set_cons_zero]) | ((with_reducible refine wv_elem (d := 49) ?hd ?hw 22 Tryz.isAgg22 (.tmp 48) ?ho (⟨gx, 2, none⟩) ?hx (.int .u64 (N : Int)) ?hc ?_); (case hd => rfl); (case hw => kernel_rfl); (case ho => rfl); (case hx => kernel_rfl); (case hc => exact KX.out _ (KP8.out) 2 _ rfl); simp only [Act.put, List.setIfInBounds_toArray, List.set_cons_succ, List.set_cons_zero]) | ((with_reducible refine wv_elem (d := 51) ?hd ?hw 9 ag_str (.tmp 50) ?ho (⟨gx, 3, none⟩) ?hx (.string (strOf C)) ?hc ?_); (case hd => rfl); (case hw => kernel_rfl); (case ho => rfl); (case hx => kernel_rfl); (case hc => exact KX.out _ (KP8.out) 3 _ rfl); simp only [Act.put, List.setIfInBounds_toArray, List.set_cons_succ, List.set_cons_zero]) | ((with_reducible refine wv_elem (d := 53) ?hd ?hw 9 ag_str (.tmp 52) ?ho (⟨gx, 4, none⟩) ?hx (.string (strOf T)) ?hc ?_); (case hd => rfl); (case hw => kernel_rfl); (case ho => rfl); (case hx => kernel_rfl); (case hc => exact KX.out _ (KP8.out) 4 _ rfl); simp only [Act.put, List.setIfInBounds_toArray, List.set_cons_succ, List.set_cons_zero]))
  refine (CSr.out _).mono ?_
  rintro e w9 ⟨rfl, q9⟩
  have KT9 : Kept (Tab tb B0 [] M0 w9) := ⟨KT8.out.under q9⟩
  have KP9 : Kept (Below w0.heap.size w0 w9) := ⟨KP8.out.trans (q9.mono KP8.out.size)⟩
  have KS9 : Kept _ := ⟨KS.out.under q9⟩
  clear q9 KT8 KP8 KS
  go_wp2_with (first | ((with_reducible refine wv_elem (d := 59) ?hd ?hw 22 Tryz.isAgg22 (.tmp 58) ?ho (⟨gx, 2, none⟩) ?hx (.int .u64 (N : Int)) ?hc ?_); (case hd => rfl); (case hw => kernel_rfl); (case ho => rfl); (case hx => kernel_rfl); (case hc => exact KX.out _ (KP9.out) 2 _ rfl); simp only [Act.put, List.setIfInBounds_toArray, List.set_cons_succ, List.set_cons_zero]) | ((with_reducible refine wv_elem (d := 61) ?hd ?hw 9 ag_str (.tmp 60) ?ho (⟨gx, 3, none⟩) ?hx (.string (strOf C)) ?hc ?_); (case hd => rfl); (case hw => kernel_rfl); (case ho => rfl); (case hx => kernel_rfl); (case hc => exact KX.out _ (KP9.out) 3 _ rfl); simp only [Act.put, List.setIfInBounds_toArray, List.set_cons_succ, List.set_cons_zero]))
  refine (COr.out _).mono ?_
  rintro e w10 ⟨rfl, q10⟩
  have KT10 : Kept (Tab tb B0 [] M0 w10) := ⟨KT9.out.under q10⟩
  have KP10 : Kept (Below w0.heap.size w0 w10) := ⟨KP9.out.trans (q10.mono KP9.out.size)⟩
  have KS10 : Kept _ := ⟨KS9.out.under q10⟩
  clear q10 KT9 KP9 KS9
  go_wp2_with (first | ((with_reducible refine wv_val (d := 67) ?hd ?hw (.bool false) ?hr ?_); (case hd => rfl); (case hw => kernel_rfl); (case hr => intro w; exact run_seq (l := X0) (m := []) rfl (by kernel_rfl) (by kernel_rfl) YX0.out.1 KNil.out YX0.out.2 w); simp only [Act.put, List.setIfInBounds_toArray, List.set_cons_succ, List.set_cons_zero]) | ((with_reducible refine wv_elem (d := 71) ?hd ?hw 9 ag_str (.tmp 70) ?ho (⟨gx, 4, none⟩) ?hx (.string (strOf T)) ?hc ?_); (case hd => rfl); (case hw => kernel_rfl); (case ho => rfl); (case hx => kernel_rfl); (case hc => exact KX.out _ (KP10.out) 4 _ rfl); simp only [Act.put, List.setIfInBounds_toArray, List.set_cons_succ, List.set_cons_zero]) | ((with_reducible refine wv_val (d := 72) ?hd ?hw (.bool false) ?hr ?_); (case hd => rfl); (case hw => kernel_rfl); (case hr => intro w; exact run_sneq (l := T) (m := T) rfl (by kernel_rfl) (by kernel_rfl) YT.out YT.out (by simp) w); simp only [Act.put, List.setIfInBounds_toArray, List.set_cons_succ, List.set_cons_zero]))
  rw [rounds_succ]
  go_wp2_with (first | ((with_reducible refine wv_val (d := 44) ?hd ?hw (.pointer (some ⟨gs, 1, none⟩)) ?hr ?_); (case hd => rfl); (case hw => kernel_rfl); (case hr => intro w; exact run_idxG0 (i := 1) (l := 2) (c := 2) (g := gs) rfl (by kernel_rfl) (by kernel_rfl) Tryz.underlying60 (by decide) Tryz.sizeOf27 w); simp only [Act.put, List.setIfInBounds_toArray, List.set_cons_succ, List.set_cons_zero]) | ((with_reducible refine wv_elem (d := 45) ?hd ?hw 27 Tryz.isAgg27 (.tmp 44) ?ho (⟨gs, 1, none⟩) ?hx (.iface 90 (.agg #[.pointer (some ⟨tb, 0, none⟩)])) ?hc ?_); (case hd => rfl); (case hw => kernel_rfl); (case ho => rfl); (case hx => kernel_rfl); (case hc => exact KS10.out.cell rfl); simp only [Act.put, List.setIfInBounds_toArray, List.set_cons_succ, List.set_cons_zero]) | ((with_reducible refine wv_elem (d := 49) ?hd ?hw 22 Tryz.isAgg22 (.tmp 48) ?ho (⟨gx, 2, none⟩) ?hx (.int .u64 (N : Int)) ?hc ?_); (case hd => rfl); (case hw => kernel_rfl); (case ho => rfl); (case hx => kernel_rfl); (case hc => exact KX.out _ (KP10.out) 2 _ rfl); simp only [Act.put, List.setIfInBounds_toArray, List.set_cons_succ, List.set_cons_zero]) | ((with_reducible refine wv_elem (d := 51) ?hd ?hw 9 ag_str (.tmp 50) ?ho (⟨gx, 3, none⟩) ?hx (.string (strOf C)) ?hc ?_); (case hd => rfl); (case hw => kernel_rfl); (case ho => rfl); (case hx => kernel_rfl); (case hc => exact KX.out _ (KP10.out) 3 _ rfl); simp only [Act.put, List.setIfInBounds_toArray, List.set_cons_succ, List.set_cons_zero]) | ((with_reducible refine wv_elem (d := 53) ?hd ?hw 9 ag_str (.tmp 52) ?ho (⟨gx, 4, none⟩) ?hx (.string (strOf T)) ?hc ?_); (case hd => rfl); (case hw => kernel_rfl); (case ho => rfl); (case hx => kernel_rfl); (case hc => exact KX.out _ (KP10.out) 4 _ rfl); simp only [Act.put, List.setIfInBounds_toArray, List.set_cons_succ, List.set_cons_zero]))
  refine (SealE KT10.out KN.out Yk.out.1 YC.out YT.out Yk.out.2 Kf.out.2.2.1 Kf.out.2.2.2 (by decide) G1.out).mono ?_
  rintro e w11 ⟨rfl, M11, hT11, ht11⟩
  have KT11 : Kept (Tab tb B0 T1 M11 w11) := ⟨hT11⟩
  have KP11 : Kept (Below w0.heap.size w0 w11) := ⟨KP10.out.trans ((KT10.out.below ht11).mono KB0.out)⟩
  clear hT11 ht11 KT10 KP10 KS10
  go_wp2_with (first | ((with_reducible refine wv_elem (d := 59) ?hd ?hw 22 Tryz.isAgg22 (.tmp 58) ?ho (⟨gx, 2, none⟩) ?hx (.int .u64 (N : Int)) ?hc ?_); (case hd => rfl); (case hw => kernel_rfl); (case ho => rfl); (case hx => kernel_rfl); (case hc => exact KX.out _ (KP11.out) 2 _ rfl); simp only [Act.put, List.setIfInBounds_toArray, List.set_cons_succ, List.set_cons_zero]) | ((with_reducible refine wv_elem (d := 61) ?hd ?hw 9 ag_str (.tmp 60) ?ho (⟨gx, 3, none⟩) ?hx (.string (strOf C)) ?hc ?_); (case hd => rfl); (case hw => kernel_rfl); (case ho => rfl); (case hx => kernel_rfl); (case hc => exact KX.out _ (KP11.out) 3 _ rfl); simp only [Act.put, List.setIfInBounds_toArray, List.set_cons_succ, List.set_cons_zero]))
  refine (OpenT_yes KT11.out YX1.out.1 YX1.out.2.1 Yk.out.1 YC.out KN.out KLt.out.1 Gx1.out ⟨Yk.out.1, numL_bytes _, YC.out, YT.out⟩ (by simp)).mono ?_
  rintro e w12 ⟨rfl, q12⟩
  have KP12 : Kept (Below w0.heap.size w0 w12) := ⟨KP11.out.trans (q12.mono KP11.out.size)⟩
  clear q12 KT11 KP11
  go_wp2_with (first | ((with_reducible refine wv_val (d := 67) ?hd ?hw (.bool false) ?hr ?_); (case hd => rfl); (case hw => kernel_rfl); (case hr => intro w; exact run_seq (l := X1) (m := []) rfl (by kernel_rfl) (by kernel_rfl) YX1.out.1 KNil.out YX1.out.2.2 w); simp only [Act.put, List.setIfInBounds_toArray, List.set_cons_succ, List.set_cons_zero]) | ((with_reducible refine wv_elem (d := 71) ?hd ?hw 9 ag_str (.tmp 70) ?ho (⟨gx, 4, none⟩) ?hx (.string (strOf T)) ?hc ?_); (case hd => rfl); (case hw => kernel_rfl); (case ho => rfl); (case hx => kernel_rfl); (case hc => exact KX.out _ (KP12.out) 4 _ rfl); simp only [Act.put, List.setIfInBounds_toArray, List.set_cons_succ, List.set_cons_zero]) | ((with_reducible refine wv_val (d := 72) ?hd ?hw (.bool false) ?hr ?_); (case hd => rfl); (case hw => kernel_rfl); (case hr => intro w; exact run_sneq (l := T) (m := T) rfl (by kernel_rfl) (by kernel_rfl) YT.out YT.out (by simp) w); simp only [Act.put, List.setIfInBounds_toArray, List.set_cons_succ, List.set_cons_zero]))
  rw [rounds_succ]
  go_wp2_with fail
  refine NewD.mono ?_
  rintro e wA ⟨⟨td, Md, rfl, hTd⟩, qA⟩
  obtain ⟨Bd, hBd⟩ : ∃ b, b = w12.heap.size := ⟨_, rfl⟩
  rw [← hBd] at hTd
  have KBd : Kept (w0.heap.size ≤ Bd) := ⟨by rw [hBd]; exact KP12.out.size⟩
  have KTA : Kept (Tab td Bd [] Md wA) := ⟨hTd⟩
  have KPA : Kept (Below w0.heap.size w0 wA) := ⟨KP12.out.trans (qA.mono KP12.out.size)⟩
  clear qA KP12 hTd hBd
  go_wp2_with fail
  refine SymbolD.mono ?_
  rintro e wB ⟨rfl, qB⟩
  have KTd : Kept (Tab td Bd [] Md wB) := ⟨KTA.out.under qB⟩
  have KPb : Kept (Below w0.heap.size w0 wB) := ⟨KPA.out.trans (qB.mono KPA.out.size)⟩
  have KG : Kept (gx < wB.heap.size ∧ ¬ Md gx) := ⟨⟨(BX.out.under KPb.out).lt, fun hM => by have := (KTd.out.range hM).1; have := BX.out.lt; have := KBd.out; omega⟩⟩
  clear qB KPA KTA
  go_wp2_with (first | ((with_reducible refine wv_elem (d := 83) ?hd ?hw 9 ag_str (.tmp 82) ?ho (⟨gx, 0, none⟩) ?hx (.string (strOf A)) ?hc ?_); (case hd => rfl); (case hw => kernel_rfl); (case ho => rfl); (case hx => kernel_rfl); (case hc => exact KX.out _ (KPb.out) 0 _ rfl); simp only [Act.put, List.setIfInBounds_toArray, List.set_cons_succ, List.set_cons_zero]) | ((with_reducible refine wv_elem (d := 85) ?hd ?hw 22 Tryz.isAgg22 (.tmp 84) ?ho (⟨gx, 2, none⟩) ?hx (.int .u64 (N : Int)) ?hc ?_); (case hd => rfl); (case hw => kernel_rfl); (case ho => rfl); (case hx => kernel_rfl); (case hc => exact KX.out _ (KPb.out) 2 _ rfl); simp only [Act.put, List.setIfInBounds_toArray, List.set_cons_succ, List.set_cons_zero]) | ((with_reducible refine wv_elem (d := 87) ?hd ?hw 9 ag_str (.tmp 86) ?ho (⟨gx, 3, none⟩) ?hx (.string (strOf C)) ?hc ?_); (case hd => rfl); (case hw => kernel_rfl); (case ho => rfl); (case hx => kernel_rfl); (case hc => exact KX.out _ (KPb.out) 3 _ rfl); simp only [Act.put, List.setIfInBounds_toArray, List.set_cons_succ, List.set_cons_zero]) | ((with_reducible refine wv_elem (d := 89) ?hd ?hw 9 ag_str (.tmp 88) ?ho (⟨gx, 4, none⟩) ?hx (.string (strOf T)) ?hc ?_); (case hd => rfl); (case hw => kernel_rfl); (case ho => rfl); (case hx => kernel_rfl); (case hc => exact KX.out _ (KPb.out) 4 _ rfl); simp only [Act.put, List.setIfInBounds_toArray, List.set_cons_succ, List.set_cons_zero]))
  refine (SealE KTd.out KN.out YA.out YC.out YT.out Kf.out.1 Kf.out.2.2.1 Kf.out.2.2.2 (by decide) G2.out).mono ?_
  rintro e wC ⟨rfl, Mc, hTc, htc⟩
  have KTc : Kept (Tab td Bd T2 Mc wC) := ⟨hTc⟩
  have Ptc : Kept (Turn Md wB Mc wC) := ⟨htc⟩
  have KPc : Kept (Below w0.heap.size w0 wC) := ⟨KPb.out.trans ((KTd.out.below htc).mono KBd.out)⟩
  clear hTc htc
  go_wp2_with (first | ((with_reducible refine wv_elem (d := 94) ?hd ?hw 9 ag_str (.tmp 93) ?ho (⟨gy, 0, none⟩) ?hx (.string (strOf A2)) ?hc ?_); (case hd => rfl); (case hw => kernel_rfl); (case ho => rfl); (case hx => kernel_rfl); (case hc => exact KY.out _ (KPc.out) 0 _ rfl); simp only [Act.put, List.setIfInBounds_toArray, List.set_cons_succ, List.set_cons_zero]) | ((with_reducible refine wv_elem (d := 96) ?hd ?hw 22 Tryz.isAgg22 (.tmp 95) ?ho (⟨gy, 2, none⟩) ?hx (.int .u64 (N2 : Int)) ?hc ?_); (case hd => rfl); (case hw => kernel_rfl); (case ho => rfl); (case hx => kernel_rfl); (case hc => exact KY.out _ (KPc.out) 2 _ rfl); simp only [Act.put, List.setIfInBounds_toArray, List.set_cons_succ, List.set_cons_zero]) | ((with_reducible refine wv_elem (d := 98) ?hd ?hw 9 ag_str (.tmp 97) ?ho (⟨gy, 3, none⟩) ?hx (.string (strOf C2)) ?hc ?_); (case hd => rfl); (case hw => kernel_rfl); (case ho => rfl); (case hx => kernel_rfl); (case hc => exact KY.out _ (KPc.out) 3 _ rfl); simp only [Act.put, List.setIfInBounds_toArray, List.set_cons_succ, List.set_cons_zero]))
  refine (COx.out _ _ _ _ KTc.out).mono ?_
  rintro e wS ⟨rfl, qS⟩
  have KTs : Kept (Tab td Bd T2 Mc wS) := ⟨KTc.out.under qS⟩
  have Pts : Kept (Turn Md wB Mc wS) := ⟨Ptc.out.trans (Turn.of_below qS)⟩
  have KPs : Kept (Below w0.heap.size w0 wS) := ⟨KPc.out.trans (qS.mono KPc.out.size)⟩
  clear qS KTc Ptc KPc
  generalize Mc = Ms at *
  by_cases e1 : A = A2
  · have Kb1 : Kept (true = decide (A = A2)) := ⟨by rw [decide_eq_true e1]⟩
    by_cases e2 : N = N2
    · have Kb2 : Kept (true = decide (N = N2)) := ⟨by rw [decide_eq_true e2]⟩
      have Kb3 : Kept (false = decide (C = C2)) := ⟨by rw [decide_eq_false (fun e3 => Ks.out ⟨e1, e2, e3⟩)]⟩
      clear e1 e2
      go_wp2_with (first | ((with_reducible refine wv_elem (d := 104) ?hd ?hw 9 ag_str (.tmp 103) ?ho (⟨gx, 0, none⟩) ?hx (.string (strOf A)) ?hc ?_); (case hd => rfl); (case hw => kernel_rfl); (case ho => rfl); (case hx => kernel_rfl); (case hc => exact KX.out _ (KPs.out) 0 _ rfl); simp only [Act.put, List.setIfInBounds_toArray, List.set_cons_succ, List.set_cons_zero]) | ((with_reducible refine wv_elem (d := 106) ?hd ?hw 9 ag_str (.tmp 105) ?ho (⟨gy, 0, none⟩) ?hx (.string (strOf A2)) ?hc ?_); (case hd => rfl); (case hw => kernel_rfl); (case ho => rfl); (case hx => kernel_rfl); (case hc => exact KY.out _ (KPs.out) 0 _ rfl); simp only [Act.put, List.setIfInBounds_toArray, List.set_cons_succ, List.set_cons_zero]) | ((with_reducible refine wv_elem (d := 110) ?hd ?hw 22 Tryz.isAgg22 (.tmp 109) ?ho (⟨gx, 2, none⟩) ?hx (.int .u64 (N : Int)) ?hc ?_); (case hd => rfl); (case hw => kernel_rfl); (case ho => rfl); (case hx => kernel_rfl); (case hc => exact KX.out _ (KPs.out) 2 _ rfl); simp only [Act.put, List.setIfInBounds_toArray, List.set_cons_succ, List.set_cons_zero]) | ((with_reducible refine wv_elem (d := 112) ?hd ?hw 22 Tryz.isAgg22 (.tmp 111) ?ho (⟨gy, 2, none⟩) ?hx (.int .u64 (N2 : Int)) ?hc ?_); (case hd => rfl); (case hw => kernel_rfl); (case ho => rfl); (case hx => kernel_rfl); (case hc => exact KY.out _ (KPs.out) 2 _ rfl); simp only [Act.put, List.setIfInBounds_toArray, List.set_cons_succ, List.set_cons_zero]) | ((with_reducible refine wv_elem (d := 117) ?hd ?hw 9 ag_str (.tmp 116) ?ho (⟨gx, 3, none⟩) ?hx (.string (strOf C)) ?hc ?_); (case hd => rfl); (case hw => kernel_rfl); (case ho => rfl); (case hx => kernel_rfl); (case hc => exact KX.out _ (KPs.out) 3 _ rfl); simp only [Act.put, List.setIfInBounds_toArray, List.set_cons_succ, List.set_cons_zero]) | ((with_reducible refine wv_elem (d := 119) ?hd ?hw 9 ag_str (.tmp 118) ?ho (⟨gy, 3, none⟩) ?hx (.string (strOf C2)) ?hc ?_); (case hd => rfl); (case hw => kernel_rfl); (case ho => rfl); (case hx => kernel_rfl); (case hc => exact KY.out _ (KPs.out) 3 _ rfl); simp only [Act.put, List.setIfInBounds_toArray, List.set_cons_succ, List.set_cons_zero]) | ((with_reducible refine wv_elem (d := 131) ?hd ?hw 9 ag_str (.tmp 130) ?ho (⟨gx, 4, none⟩) ?hx (.string (strOf T)) ?hc ?_); (case hd => rfl); (case hw => kernel_rfl); (case ho => rfl); (case hx => kernel_rfl); (case hc => exact KX.out _ (KPs.out) 4 _ rfl); simp only [Act.put, List.setIfInBounds_toArray, List.set_cons_succ, List.set_cons_zero]) | ((with_reducible refine wv_val (d := 107) ?hd ?hw (.bool true) ?hr ?_); (case hd => rfl); (case hw => kernel_rfl); (case hr => intro w; exact run_seq (l := A) (m := A2) rfl (by kernel_rfl) (by kernel_rfl) YA.out YA2.out Kb1.out w); simp only [Act.put, List.setIfInBounds_toArray, List.set_cons_succ, List.set_cons_zero]) | ((with_reducible refine wv_val (d := 113) ?hd ?hw (.bool true) ?hr ?_); (case hd => rfl); (case hw => kernel_rfl); (case hr => intro w; exact run_eqN (m := N) (n := N2) rfl (by kernel_rfl) (by kernel_rfl) Kb2.out w); simp only [Act.put, List.setIfInBounds_toArray, List.set_cons_succ, List.set_cons_zero]) | ((with_reducible refine wv_val (d := 120) ?hd ?hw (.bool false) ?hr ?_); (case hd => rfl); (case hw => kernel_rfl); (case hr => intro w; exact run_seq (l := C) (m := C2) rfl (by kernel_rfl) (by kernel_rfl) YC.out YC2.out Kb3.out w); simp only [Act.put, List.setIfInBounds_toArray, List.set_cons_succ, List.set_cons_zero]) | ((with_reducible refine wv_val (d := 140) ?hd ?hw (.bool false) ?hr ?_); (case hd => rfl); (case hw => kernel_rfl); (case hr => intro w; exact run_sneq (l := []) (m := []) rfl (by kernel_rfl) (by kernel_rfl) KNil.out KNil.out (by simp) w); simp only [Act.put, List.setIfInBounds_toArray, List.set_cons_succ, List.set_cons_zero]))
      refine region_phaseL (G := Nat → Prop) 18 [8, 12] [(148, .iface 90 (.agg #[.pointer (some ⟨td, 0, none⟩)])), (149, .pointer (some ⟨gx, 0, none⟩)), (150, .string (strOf A)), (151, .pointer (some ⟨gx, 2, none⟩)), (152, .int .u64 (N : Int)), (153, .pointer (some ⟨gx, 3, none⟩)), (154, .string (strOf C)), (155, .iface 90 (.agg #[.pointer (some ⟨td, 0, none⟩)])), (156, .string (strOf H)), (157, .func (.method "Open") #[.iface 90 (.agg #[.pointer (some ⟨td, 0, none⟩)])] #[]), (158, .func (.method "Open") #[.iface 90 (.agg #[.pointer (some ⟨td, 0, none⟩)])] #[]), (159, .iface 90 (.agg #[.pointer (some ⟨td, 0, none⟩)])), (160, .tuple #[.string ⟨#[]⟩, .int .i64 5]), (147, .tuple #[.string ⟨#[]⟩, .int .i64 5]), (161, .string ⟨#[]⟩), (162, .int .i64 5), (16, .string ⟨#[]⟩), (17, .int .i64 5)] (LN []) (fun k => CT td Bd (([T2, T3, T3] : List (List TermL)).getD k []) Md wB) rfl (by kernel_rfl) (by kernel_rfl) (by kernel_rfl) (by kernel_rfl) (by kernel_rfl) (by kernel_rfl) (by kernel_rfl) (by kernel_rfl) (by kernel_rfl) (by kernel_rfl) LN_under (fun k g w w' h hb => CT.under h hb) Ms ⟨KTs.out, Pts.out⟩ (fun hA => ⟨.inl ⟨rfl, fun k M W1 hC1 => (fun hA => ow_val hA (wants_none rfl) 148 (.iface 90 (.agg #[.pointer (some ⟨td, 0, none⟩)])) (by kernel_rfl) rfl rfl rfl rfl (by kernel_rfl) (fun w => by kernel_rfl)) (hA M)⟩, .inl ⟨rfl, fun k M W1 hC1 => (fun hA => ow_val hA (wants_none rfl) 149 (.pointer (some ⟨gx, 0, none⟩)) (by kernel_rfl) rfl rfl rfl rfl (by kernel_rfl) (fun w => by kernel_rfl)) (hA M)⟩, .inl ⟨rfl, fun k M W1 hC1 => (fun hA => ow_elem hA (wants_none rfl) 150 (.string (strOf A)) (by kernel_rfl) rfl rfl rfl rfl (by kernel_rfl) 9 ag_str (.tmp 149) rfl (⟨gx, 0, none⟩) (by kernel_rfl) (fun w1 hb => hC1.cell hb (KX.out _ KPb.out 0 _ rfl) KG.out.1 KG.out.2)) (hA M)⟩, .inl ⟨rfl, fun k M W1 hC1 => (fun hA => ow_val hA (wants_none rfl) 151 (.pointer (some ⟨gx, 2, none⟩)) (by kernel_rfl) rfl rfl rfl rfl (by kernel_rfl) (fun w => by kernel_rfl)) (hA M)⟩, .inl ⟨rfl, fun k M W1 hC1 => (fun hA => ow_elem hA (wants_none rfl) 152 (.int .u64 (N : Int)) (by kernel_rfl) rfl rfl rfl rfl (by kernel_rfl) 22 Tryz.isAgg22 (.tmp 151) rfl (⟨gx, 2, none⟩) (by kernel_rfl) (fun w1 hb => hC1.cell hb (KX.out _ KPb.out 2 _ rfl) KG.out.1 KG.out.2)) (hA M)⟩, .inl ⟨rfl, fun k M W1 hC1 => (fun hA => ow_val hA (wants_none rfl) 153 (.pointer (some ⟨gx, 3, none⟩)) (by kernel_rfl) rfl rfl rfl rfl (by kernel_rfl) (fun w => by kernel_rfl)) (hA M)⟩, .inl ⟨rfl, fun k M W1 hC1 => (fun hA => ow_elem hA (wants_none rfl) 154 (.string (strOf C)) (by kernel_rfl) rfl rfl rfl rfl (by kernel_rfl) 9 ag_str (.tmp 153) rfl (⟨gx, 3, none⟩) (by kernel_rfl) (fun w1 hb => hC1.cell hb (KX.out _ KPb.out 3 _ rfl) KG.out.1 KG.out.2)) (hA M)⟩, .inl ⟨rfl, fun k M W1 hC1 => (fun hA => ow_val hA (wants_none rfl) 155 (.iface 90 (.agg #[.pointer (some ⟨td, 0, none⟩)])) (by kernel_rfl) rfl rfl rfl rfl (by kernel_rfl) (fun w => by kernel_rfl)) (hA M)⟩, .inr ⟨0, rfl, ph_invoke hA (fun M => (fun hA => (wants_none rfl)) (hA M)) 156 (.string (strOf H)) rfl rfl (by kernel_rfl) LN_turn (by kernel_rfl) (.tmp 155) "Hash" [.const (.string ⟨#[110, 111]⟩), .const (.string ⟨#[98, 111, 120]⟩)] _ 90 (.agg #[.pointer (some ⟨td, 0, none⟩)]) 173 (.agg #[.pointer (some ⟨td, 0, none⟩)]) Tryz.f173 _ [.string ⟨#[110, 111]⟩, .string ⟨#[98, 111, 120]⟩] rfl (by kernel_rfl) (by kernel_rfl) (fun w => by kernel_rfl) Tryz.func173 (by kernel_rfl) rfl (CHh.out _ _ _ _)⟩, .inl ⟨rfl, fun k M W1 hC1 => (fun hA => ow_val hA (wants_none rfl) 157 (.func (.method "Open") #[.iface 90 (.agg #[.pointer (some ⟨td, 0, none⟩)])] #[]) (by kernel_rfl) rfl rfl rfl rfl (by kernel_rfl) (fun w => by kernel_rfl)) (hA M)⟩, .inl ⟨rfl, fun k M W1 hC1 => (fun hA => ow_val hA (wants_none rfl) 158 (.func (.method "Open") #[.iface 90 (.agg #[.pointer (some ⟨td, 0, none⟩)])] #[]) (by kernel_rfl) rfl rfl rfl rfl (by kernel_rfl) (fun w => by kernel_rfl)) (hA M)⟩, .inl ⟨rfl, fun k M W1 hC1 => (fun hA => ow_val hA (wants_none rfl) 159 (.iface 90 (.agg #[.pointer (some ⟨td, 0, none⟩)])) (by kernel_rfl) rfl rfl rfl rfl (by kernel_rfl) (fun w => by kernel_rfl)) (hA M)⟩, .inr ⟨1, rfl, ph_invoke hA (fun M => (fun hA => (wants_none rfl)) (hA M)) 160 (.tuple #[.string ⟨#[]⟩, .int .i64 5]) rfl rfl (by kernel_rfl) LN_turn (by kernel_rfl) (.tmp 159) "Open" [.tmp 150, .tmp 152, .tmp 154, .tmp 156] _ 90 (.agg #[.pointer (some ⟨td, 0, none⟩)]) 175 (.agg #[.pointer (some ⟨td, 0, none⟩)]) Tryz.f175 _ [.string (strOf A), .int .u64 (N : Int), .string (strOf C), .string (strOf H)] rfl (by kernel_rfl) (by kernel_rfl) (fun w => by kernel_rfl) Tryz.func175 (by kernel_rfl) rfl (COh.out _ _ _ _)⟩, .inl ⟨rfl, fun k M W1 hC1 => (fun hA => ow_val hA (wants_none rfl) 147 (.tuple #[.string ⟨#[]⟩, .int .i64 5]) (by kernel_rfl) rfl rfl rfl rfl (by kernel_rfl) (fun w => by kernel_rfl)) (hA M)⟩, .inl ⟨rfl, fun k M W1 hC1 => (fun hA => ow_val hA (wants_none rfl) 161 (.string ⟨#[]⟩) (by kernel_rfl) rfl rfl rfl rfl (by kernel_rfl) (fun w => by kernel_rfl)) (hA M)⟩, .inl ⟨rfl, fun k M W1 hC1 => (fun hA => ow_val hA (wants_none rfl) 162 (.int .i64 5) (by kernel_rfl) rfl rfl rfl rfl (by kernel_rfl) (fun w => by kernel_rfl)) (hA M)⟩, .inl ⟨rfl, fun k M W1 hC1 => (fun hA => ow_val hA (wants_none rfl) 16 (.string ⟨#[]⟩) (by kernel_rfl) rfl rfl rfl rfl (by kernel_rfl) (fun w => by kernel_rfl)) (hA M)⟩, .inl ⟨rfl, fun k M W1 hC1 => (fun hA => ow_val hA (wants_none rfl) 17 (.int .i64 5) (by kernel_rfl) rfl rfl rfl rfl (by kernel_rfl) (fun w => by kernel_rfl)) (hA M)⟩, trivial⟩) ?_
      intro fv M20 w20 hf hC20
      simp only [LN, putR, List.foldl_cons, List.foldl_nil, List.map_cons, List.map_nil, Act.put, List.setIfInBounds_toArray, List.set_cons_succ, List.set_cons_zero]
      refine wpList_nil ?_
      have KP20 : Kept (Below w0.heap.size w0 w20) := ⟨KPb.out.trans ((KTd.out.below hC20.2).mono KBd.out)⟩
      clear hf hC20
      go_wp2_with fail
      go_ret
      exact ⟨rfl, Q0.out.trans (KP20.out.mono Q0.out.size)⟩
    · have Kb2 : Kept (false = decide (N = N2)) := ⟨by rw [decide_eq_false e2]⟩
      clear e1 e2
      go_wp2_with (first | ((with_reducible refine wv_elem (d := 104) ?hd ?hw 9 ag_str (.tmp 103) ?ho (⟨gx, 0, none⟩) ?hx (.string (strOf A)) ?hc ?_); (case hd => rfl); (case hw => kernel_rfl); (case ho => rfl); (case hx => kernel_rfl); (case hc => exact KX.out _ (KPs.out) 0 _ rfl); simp only [Act.put, List.setIfInBounds_toArray, List.set_cons_succ, List.set_cons_zero]) | ((with_reducible refine wv_elem (d := 106) ?hd ?hw 9 ag_str (.tmp 105) ?ho (⟨gy, 0, none⟩) ?hx (.string (strOf A2)) ?hc ?_); (case hd => rfl); (case hw => kernel_rfl); (case ho => rfl); (case hx => kernel_rfl); (case hc => exact KY.out _ (KPs.out) 0 _ rfl); simp only [Act.put, List.setIfInBounds_toArray, List.set_cons_succ, List.set_cons_zero]) | ((with_reducible refine wv_elem (d := 110) ?hd ?hw 22 Tryz.isAgg22 (.tmp 109) ?ho (⟨gx, 2, none⟩) ?hx (.int .u64 (N : Int)) ?hc ?_); (case hd => rfl); (case hw => kernel_rfl); (case ho => rfl); (case hx => kernel_rfl); (case hc => exact KX.out _ (KPs.out) 2 _ rfl); simp only [Act.put, List.setIfInBounds_toArray, List.set_cons_succ, List.set_cons_zero]) | ((with_reducible refine wv_elem (d := 112) ?hd ?hw 22 Tryz.isAgg22 (.tmp 111) ?ho (⟨gy, 2, none⟩) ?hx (.int .u64 (N2 : Int)) ?hc ?_); (case hd => rfl); (case hw => kernel_rfl); (case ho => rfl); (case hx => kernel_rfl); (case hc => exact KY.out _ (KPs.out) 2 _ rfl); simp only [Act.put, List.setIfInBounds_toArray, List.set_cons_succ, List.set_cons_zero]) | ((with_reducible refine wv_elem (d := 117) ?hd ?hw 9 ag_str (.tmp 116) ?ho (⟨gx, 3, none⟩) ?hx (.string (strOf C)) ?hc ?_); (case hd => rfl); (case hw => kernel_rfl); (case ho => rfl); (case hx => kernel_rfl); (case hc => exact KX.out _ (KPs.out) 3 _ rfl); simp only [Act.put, List.setIfInBounds_toArray, List.set_cons_succ, List.set_cons_zero]) | ((with_reducible refine wv_elem (d := 119) ?hd ?hw 9 ag_str (.tmp 118) ?ho (⟨gy, 3, none⟩) ?hx (.string (strOf C2)) ?hc ?_); (case hd => rfl); (case hw => kernel_rfl); (case ho => rfl); (case hx => kernel_rfl); (case hc => exact KY.out _ (KPs.out) 3 _ rfl); simp only [Act.put, List.setIfInBounds_toArray, List.set_cons_succ, List.set_cons_zero]) | ((with_reducible refine wv_elem (d := 131) ?hd ?hw 9 ag_str (.tmp 130) ?ho (⟨gx, 4, none⟩) ?hx (.string (strOf T)) ?hc ?_); (case hd => rfl); (case hw => kernel_rfl); (case ho => rfl); (case hx => kernel_rfl); (case hc => exact KX.out _ (KPs.out) 4 _ rfl); simp only [Act.put, List.setIfInBounds_toArray, List.set_cons_succ, List.set_cons_zero]) | ((with_reducible refine wv_val (d := 107) ?hd ?hw (.bool true) ?hr ?_); (case hd => rfl); (case hw => kernel_rfl); (case hr => intro w; exact run_seq (l := A) (m := A2) rfl (by kernel_rfl) (by kernel_rfl) YA.out YA2.out Kb1.out w); simp only [Act.put, List.setIfInBounds_toArray, List.set_cons_succ, List.set_cons_zero]) | ((with_reducible refine wv_val (d := 113) ?hd ?hw (.bool false) ?hr ?_); (case hd => rfl); (case hw => kernel_rfl); (case hr => intro w; exact run_eqN (m := N) (n := N2) rfl (by kernel_rfl) (by kernel_rfl) Kb2.out w); simp only [Act.put, List.setIfInBounds_toArray, List.set_cons_succ, List.set_cons_zero]) | ((with_reducible refine wv_val (d := 140) ?hd ?hw (.bool false) ?hr ?_); (case hd => rfl); (case hw => kernel_rfl); (case hr => intro w; exact run_sneq (l := []) (m := []) rfl (by kernel_rfl) (by kernel_rfl) KNil.out KNil.out (by simp) w); simp only [Act.put, List.setIfInBounds_toArray, List.set_cons_succ, List.set_cons_zero]))
      refine region_phaseL (G := Nat → Prop) 18 [8, 12] [(148, .iface 90 (.agg #[.pointer (some ⟨td, 0, none⟩)])), (149, .pointer (some ⟨gx, 0, none⟩)), (150, .string (strOf A)), (151, .pointer (some ⟨gx, 2, none⟩)), (152, .int .u64 (N : Int)), (153, .pointer (some ⟨gx, 3, none⟩)), (154, .string (strOf C)), (155, .iface 90 (.agg #[.pointer (some ⟨td, 0, none⟩)])), (156, .string (strOf H)), (157, .func (.method "Open") #[.iface 90 (.agg #[.pointer (some ⟨td, 0, none⟩)])] #[]), (158, .func (.method "Open") #[.iface 90 (.agg #[.pointer (some ⟨td, 0, none⟩)])] #[]), (159, .iface 90 (.agg #[.pointer (some ⟨td, 0, none⟩)])), (160, .tuple #[.string ⟨#[]⟩, .int .i64 5]), (147, .tuple #[.string ⟨#[]⟩, .int .i64 5]), (161, .string ⟨#[]⟩), (162, .int .i64 5), (16, .string ⟨#[]⟩), (17, .int .i64 5)] (LN []) (fun k => CT td Bd (([T2, T3, T3] : List (List TermL)).getD k []) Md wB) rfl (by kernel_rfl) (by kernel_rfl) (by kernel_rfl) (by kernel_rfl) (by kernel_rfl) (by kernel_rfl) (by kernel_rfl) (by kernel_rfl) (by kernel_rfl) (by kernel_rfl) LN_under (fun k g w w' h hb => CT.under h hb) Ms ⟨KTs.out, Pts.out⟩ (fun hA => ⟨.inl ⟨rfl, fun k M W1 hC1 => (fun hA => ow_val hA (wants_none rfl) 148 (.iface 90 (.agg #[.pointer (some ⟨td, 0, none⟩)])) (by kernel_rfl) rfl rfl rfl rfl (by kernel_rfl) (fun w => by kernel_rfl)) (hA M)⟩, .inl ⟨rfl, fun k M W1 hC1 => (fun hA => ow_val hA (wants_none rfl) 149 (.pointer (some ⟨gx, 0, none⟩)) (by kernel_rfl) rfl rfl rfl rfl (by kernel_rfl) (fun w => by kernel_rfl)) (hA M)⟩, .inl ⟨rfl, fun k M W1 hC1 => (fun hA => ow_elem hA (wants_none rfl) 150 (.string (strOf A)) (by kernel_rfl) rfl rfl rfl rfl (by kernel_rfl) 9 ag_str (.tmp 149) rfl (⟨gx, 0, none⟩) (by kernel_rfl) (fun w1 hb => hC1.cell hb (KX.out _ KPb.out 0 _ rfl) KG.out.1 KG.out.2)) (hA M)⟩, .inl ⟨rfl, fun k M W1 hC1 => (fun hA => ow_val hA (wants_none rfl) 151 (.pointer (some ⟨gx, 2, none⟩)) (by kernel_rfl) rfl rfl rfl rfl (by kernel_rfl) (fun w => by kernel_rfl)) (hA M)⟩, .inl ⟨rfl, fun k M W1 hC1 => (fun hA => ow_elem hA (wants_none rfl) 152 (.int .u64 (N : Int)) (by kernel_rfl) rfl rfl rfl rfl (by kernel_rfl) 22 Tryz.isAgg22 (.tmp 151) rfl (⟨gx, 2, none⟩) (by kernel_rfl) (fun w1 hb => hC1.cell hb (KX.out _ KPb.out 2 _ rfl) KG.out.1 KG.out.2)) (hA M)⟩, .inl ⟨rfl, fun k M W1 hC1 => (fun hA => ow_val hA (wants_none rfl) 153 (.pointer (some ⟨gx, 3, none⟩)) (by kernel_rfl) rfl rfl rfl rfl (by kernel_rfl) (fun w => by kernel_rfl)) (hA M)⟩, .inl ⟨rfl, fun k M W1 hC1 => (fun hA => ow_elem hA (wants_none rfl) 154 (.string (strOf C)) (by kernel_rfl) rfl rfl rfl rfl (by kernel_rfl) 9 ag_str (.tmp 153) rfl (⟨gx, 3, none⟩) (by kernel_rfl) (fun w1 hb => hC1.cell hb (KX.out _ KPb.out 3 _ rfl) KG.out.1 KG.out.2)) (hA M)⟩, .inl ⟨rfl, fun k M W1 hC1 => (fun hA => ow_val hA (wants_none rfl) 155 (.iface 90 (.agg #[.pointer (some ⟨td, 0, none⟩)])) (by kernel_rfl) rfl rfl rfl rfl (by kernel_rfl) (fun w => by kernel_rfl)) (hA M)⟩, .inr ⟨0, rfl, ph_invoke hA (fun M => (fun hA => (wants_none rfl)) (hA M)) 156 (.string (strOf H)) rfl rfl (by kernel_rfl) LN_turn (by kernel_rfl) (.tmp 155) "Hash" [.const (.string ⟨#[110, 111]⟩), .const (.string ⟨#[98, 111, 120]⟩)] _ 90 (.agg #[.pointer (some ⟨td, 0, none⟩)]) 173 (.agg #[.pointer (some ⟨td, 0, none⟩)]) Tryz.f173 _ [.string ⟨#[110, 111]⟩, .string ⟨#[98, 111, 120]⟩] rfl (by kernel_rfl) (by kernel_rfl) (fun w => by kernel_rfl) Tryz.func173 (by kernel_rfl) rfl (CHh.out _ _ _ _)⟩, .inl ⟨rfl, fun k M W1 hC1 => (fun hA => ow_val hA (wants_none rfl) 157 (.func (.method "Open") #[.iface 90 (.agg #[.pointer (some ⟨td, 0, none⟩)])] #[]) (by kernel_rfl) rfl rfl rfl rfl (by kernel_rfl) (fun w => by kernel_rfl)) (hA M)⟩, .inl ⟨rfl, fun k M W1 hC1 => (fun hA => ow_val hA (wants_none rfl) 158 (.func (.method "Open") #[.iface 90 (.agg #[.pointer (some ⟨td, 0, none⟩)])] #[]) (by kernel_rfl) rfl rfl rfl rfl (by kernel_rfl) (fun w => by kernel_rfl)) (hA M)⟩, .inl ⟨rfl, fun k M W1 hC1 => (fun hA => ow_val hA (wants_none rfl) 159 (.iface 90 (.agg #[.pointer (some ⟨td, 0, none⟩)])) (by kernel_rfl) rfl rfl rfl rfl (by kernel_rfl) (fun w => by kernel_rfl)) (hA M)⟩, .inr ⟨1, rfl, ph_invoke hA (fun M => (fun hA => (wants_none rfl)) (hA M)) 160 (.tuple #[.string ⟨#[]⟩, .int .i64 5]) rfl rfl (by kernel_rfl) LN_turn (by kernel_rfl) (.tmp 159) "Open" [.tmp 150, .tmp 152, .tmp 154, .tmp 156] _ 90 (.agg #[.pointer (some ⟨td, 0, none⟩)]) 175 (.agg #[.pointer (some ⟨td, 0, none⟩)]) Tryz.f175 _ [.string (strOf A), .int .u64 (N : Int), .string (strOf C), .string (strOf H)] rfl (by kernel_rfl) (by kernel_rfl) (fun w => by kernel_rfl) Tryz.func175 (by kernel_rfl) rfl (COh.out _ _ _ _)⟩, .inl ⟨rfl, fun k M W1 hC1 => (fun hA => ow_val hA (wants_none rfl) 147 (.tuple #[.string ⟨#[]⟩, .int .i64 5]) (by kernel_rfl) rfl rfl rfl rfl (by kernel_rfl) (fun w => by kernel_rfl)) (hA M)⟩, .inl ⟨rfl, fun k M W1 hC1 => (fun hA => ow_val hA (wants_none rfl) 161 (.string ⟨#[]⟩) (by kernel_rfl) rfl rfl rfl rfl (by kernel_rfl) (fun w => by kernel_rfl)) (hA M)⟩, .inl ⟨rfl, fun k M W1 hC1 => (fun hA => ow_val hA (wants_none rfl) 162 (.int .i64 5) (by kernel_rfl) rfl rfl rfl rfl (by kernel_rfl) (fun w => by kernel_rfl)) (hA M)⟩, .inl ⟨rfl, fun k M W1 hC1 => (fun hA => ow_val hA (wants_none rfl) 16 (.string ⟨#[]⟩) (by kernel_rfl) rfl rfl rfl rfl (by kernel_rfl) (fun w => by kernel_rfl)) (hA M)⟩, .inl ⟨rfl, fun k M W1 hC1 => (fun hA => ow_val hA (wants_none rfl) 17 (.int .i64 5) (by kernel_rfl) rfl rfl rfl rfl (by kernel_rfl) (fun w => by kernel_rfl)) (hA M)⟩, trivial⟩) ?_
      intro fv M20 w20 hf hC20
      simp only [LN, putR, List.foldl_cons, List.foldl_nil, List.map_cons, List.map_nil, Act.put, List.setIfInBounds_toArray, List.set_cons_succ, List.set_cons_zero]
      refine wpList_nil ?_
      have KP20 : Kept (Below w0.heap.size w0 w20) := ⟨KPb.out.trans ((KTd.out.below hC20.2).mono KBd.out)⟩
      clear hf hC20
      go_wp2_with fail
      go_ret
      exact ⟨rfl, Q0.out.trans (KP20.out.mono Q0.out.size)⟩
  · have Kb1 : Kept (false = decide (A = A2)) := ⟨by rw [decide_eq_false e1]⟩
    clear e1
    go_wp2_with (first | ((with_reducible refine wv_elem (d := 104) ?hd ?hw 9 ag_str (.tmp 103) ?ho (⟨gx, 0, none⟩) ?hx (.string (strOf A)) ?hc ?_); (case hd => rfl); (case hw => kernel_rfl); (case ho => rfl); (case hx => kernel_rfl); (case hc => exact KX.out _ (KPs.out) 0 _ rfl); simp only [Act.put, List.setIfInBounds_toArray, List.set_cons_succ, List.set_cons_zero]) | ((with_reducible refine wv_elem (d := 106) ?hd ?hw 9 ag_str (.tmp 105) ?ho (⟨gy, 0, none⟩) ?hx (.string (strOf A2)) ?hc ?_); (case hd => rfl); (case hw => kernel_rfl); (case ho => rfl); (case hx => kernel_rfl); (case hc => exact KY.out _ (KPs.out) 0 _ rfl); simp only [Act.put, List.setIfInBounds_toArray, List.set_cons_succ, List.set_cons_zero]) | ((with_reducible refine wv_elem (d := 110) ?hd ?hw 22 Tryz.isAgg22 (.tmp 109) ?ho (⟨gx, 2, none⟩) ?hx (.int .u64 (N : Int)) ?hc ?_); (case hd => rfl); (case hw => kernel_rfl); (case ho => rfl); (case hx => kernel_rfl); (case hc => exact KX.out _ (KPs.out) 2 _ rfl); simp only [Act.put, List.setIfInBounds_toArray, List.set_cons_succ, List.set_cons_zero]) | ((with_reducible refine wv_elem (d := 112) ?hd ?hw 22 Tryz.isAgg22 (.tmp 111) ?ho (⟨gy, 2, none⟩) ?hx (.int .u64 (N2 : Int)) ?hc ?_); (case hd => rfl); (case hw => kernel_rfl); (case ho => rfl); (case hx => kernel_rfl); (case hc => exact KY.out _ (KPs.out) 2 _ rfl); simp only [Act.put, List.setIfInBounds_toArray, List.set_cons_succ, List.set_cons_zero]) | ((with_reducible refine wv_elem (d := 117) ?hd ?hw 9 ag_str (.tmp 116) ?ho (⟨gx, 3, none⟩) ?hx (.string (strOf C)) ?hc ?_); (case hd => rfl); (case hw => kernel_rfl); (case ho => rfl); (case hx => kernel_rfl); (case hc => exact KX.out _ (KPs.out) 3 _ rfl); simp only [Act.put, List.setIfInBounds_toArray, List.set_cons_succ, List.set_cons_zero]) | ((with_reducible refine wv_elem (d := 119) ?hd ?hw 9 ag_str (.tmp 118) ?ho (⟨gy, 3, none⟩) ?hx (.string (strOf C2)) ?hc ?_); (case hd => rfl); (case hw => kernel_rfl); (case ho => rfl); (case hx => kernel_rfl); (case hc => exact KY.out _ (KPs.out) 3 _ rfl); simp only [Act.put, List.setIfInBounds_toArray, List.set_cons_succ, List.set_cons_zero]) | ((with_reducible refine wv_elem (d := 131) ?hd ?hw 9 ag_str (.tmp 130) ?ho (⟨gx, 4, none⟩) ?hx (.string (strOf T)) ?hc ?_); (case hd => rfl); (case hw => kernel_rfl); (case ho => rfl); (case hx => kernel_rfl); (case hc => exact KX.out _ (KPs.out) 4 _ rfl); simp only [Act.put, List.setIfInBounds_toArray, List.set_cons_succ, List.set_cons_zero]) | ((with_reducible refine wv_val (d := 107) ?hd ?hw (.bool false) ?hr ?_); (case hd => rfl); (case hw => kernel_rfl); (case hr => intro w; exact run_seq (l := A) (m := A2) rfl (by kernel_rfl) (by kernel_rfl) YA.out YA2.out Kb1.out w); simp only [Act.put, List.setIfInBounds_toArray, List.set_cons_succ, List.set_cons_zero]) | ((with_reducible refine wv_val (d := 140) ?hd ?hw (.bool false) ?hr ?_); (case hd => rfl); (case hw => kernel_rfl); (case hr => intro w; exact run_sneq (l := []) (m := []) rfl (by kernel_rfl) (by kernel_rfl) KNil.out KNil.out (by simp) w); simp only [Act.put, List.setIfInBounds_toArray, List.set_cons_succ, List.set_cons_zero]))
    refine region_phaseL (G := Nat → Prop) 18 [8, 12] [(148, .iface 90 (.agg #[.pointer (some ⟨td, 0, none⟩)])), (149, .pointer (some ⟨gx, 0, none⟩)), (150, .string (strOf A)), (151, .pointer (some ⟨gx, 2, none⟩)), (152, .int .u64 (N : Int)), (153, .pointer (some ⟨gx, 3, none⟩)), (154, .string (strOf C)), (155, .iface 90 (.agg #[.pointer (some ⟨td, 0, none⟩)])), (156, .string (strOf H)), (157, .func (.method "Open") #[.iface 90 (.agg #[.pointer (some ⟨td, 0, none⟩)])] #[]), (158, .func (.method "Open") #[.iface 90 (.agg #[.pointer (some ⟨td, 0, none⟩)])] #[]), (159, .iface 90 (.agg #[.pointer (some ⟨td, 0, none⟩)])), (160, .tuple #[.string ⟨#[]⟩, .int .i64 5]), (147, .tuple #[.string ⟨#[]⟩, .int .i64 5]), (161, .string ⟨#[]⟩), (162, .int .i64 5), (16, .string ⟨#[]⟩), (17, .int .i64 5)] (LN []) (fun k => CT td Bd (([T2, T3, T3] : List (List TermL)).getD k []) Md wB) rfl (by kernel_rfl) (by kernel_rfl) (by kernel_rfl) (by kernel_rfl) (by kernel_rfl) (by kernel_rfl) (by kernel_rfl) (by kernel_rfl) (by kernel_rfl) (by kernel_rfl) LN_under (fun k g w w' h hb => CT.under h hb) Ms ⟨KTs.out, Pts.out⟩ (fun hA => ⟨.inl ⟨rfl, fun k M W1 hC1 => (fun hA => ow_val hA (wants_none rfl) 148 (.iface 90 (.agg #[.pointer (some ⟨td, 0, none⟩)])) (by kernel_rfl) rfl rfl rfl rfl (by kernel_rfl) (fun w => by kernel_rfl)) (hA M)⟩, .inl ⟨rfl, fun k M W1 hC1 => (fun hA => ow_val hA (wants_none rfl) 149 (.pointer (some ⟨gx, 0, none⟩)) (by kernel_rfl) rfl rfl rfl rfl (by kernel_rfl) (fun w => by kernel_rfl)) (hA M)⟩, .inl ⟨rfl, fun k M W1 hC1 => (fun hA => ow_elem hA (wants_none rfl) 150 (.string (strOf A)) (by kernel_rfl) rfl rfl rfl rfl (by kernel_rfl) 9 ag_str (.tmp 149) rfl (⟨gx, 0, none⟩) (by kernel_rfl) (fun w1 hb => hC1.cell hb (KX.out _ KPb.out 0 _ rfl) KG.out.1 KG.out.2)) (hA M)⟩, .inl ⟨rfl, fun k M W1 hC1 => (fun hA => ow_val hA (wants_none rfl) 151 (.pointer (some ⟨gx, 2, none⟩)) (by kernel_rfl) rfl rfl rfl rfl (by kernel_rfl) (fun w => by kernel_rfl)) (hA M)⟩, .inl ⟨rfl, fun k M W1 hC1 => (fun hA => ow_elem hA (wants_none rfl) 152 (.int .u64 (N : Int)) (by kernel_rfl) rfl rfl rfl rfl (by kernel_rfl) 22 Tryz.isAgg22 (.tmp 151) rfl (⟨gx, 2, none⟩) (by kernel_rfl) (fun w1 hb => hC1.cell hb (KX.out _ KPb.out 2 _ rfl) KG.out.1 KG.out.2)) (hA M)⟩, .inl ⟨rfl, fun k M W1 hC1 => (fun hA => ow_val hA (wants_none rfl) 153 (.pointer (some ⟨gx, 3, none⟩)) (by kernel_rfl) rfl rfl rfl rfl (by kernel_rfl) (fun w => by kernel_rfl)) (hA M)⟩, .inl ⟨rfl, fun k M W1 hC1 => (fun hA => ow_elem hA (wants_none rfl) 154 (.string (strOf C)) (by kernel_rfl) rfl rfl rfl rfl (by kernel_rfl) 9 ag_str (.tmp 153) rfl (⟨gx, 3, none⟩) (by kernel_rfl) (fun w1 hb => hC1.cell hb (KX.out _ KPb.out 3 _ rfl) KG.out.1 KG.out.2)) (hA M)⟩, .inl ⟨rfl, fun k M W1 hC1 => (fun hA => ow_val hA (wants_none rfl) 155 (.iface 90 (.agg #[.pointer (some ⟨td, 0, none⟩)])) (by kernel_rfl) rfl rfl rfl rfl (by kernel_rfl) (fun w => by kernel_rfl)) (hA M)⟩, .inr ⟨0, rfl, ph_invoke hA (fun M => (fun hA => (wants_none rfl)) (hA M)) 156 (.string (strOf H)) rfl rfl (by kernel_rfl) LN_turn (by kernel_rfl) (.tmp 155) "Hash" [.const (.string ⟨#[110, 111]⟩), .const (.string ⟨#[98, 111, 120]⟩)] _ 90 (.agg #[.pointer (some ⟨td, 0, none⟩)]) 173 (.agg #[.pointer (some ⟨td, 0, none⟩)]) Tryz.f173 _ [.string ⟨#[110, 111]⟩, .string ⟨#[98, 111, 120]⟩] rfl (by kernel_rfl) (by kernel_rfl) (fun w => by kernel_rfl) Tryz.func173 (by kernel_rfl) rfl (CHh.out _ _ _ _)⟩, .inl ⟨rfl, fun k M W1 hC1 => (fun hA => ow_val hA (wants_none rfl) 157 (.func (.method "Open") #[.iface 90 (.agg #[.pointer (some ⟨td, 0, none⟩)])] #[]) (by kernel_rfl) rfl rfl rfl rfl (by kernel_rfl) (fun w => by kernel_rfl)) (hA M)⟩, .inl ⟨rfl, fun k M W1 hC1 => (fun hA => ow_val hA (wants_none rfl) 158 (.func (.method "Open") #[.iface 90 (.agg #[.pointer (some ⟨td, 0, none⟩)])] #[]) (by kernel_rfl) rfl rfl rfl rfl (by kernel_rfl) (fun w => by kernel_rfl)) (hA M)⟩, .inl ⟨rfl, fun k M W1 hC1 => (fun hA => ow_val hA (wants_none rfl) 159 (.iface 90 (.agg #[.pointer (some ⟨td, 0, none⟩)])) (by kernel_rfl) rfl rfl rfl rfl (by kernel_rfl) (fun w => by kernel_rfl)) (hA M)⟩, .inr ⟨1, rfl, ph_invoke hA (fun M => (fun hA => (wants_none rfl)) (hA M)) 160 (.tuple #[.string ⟨#[]⟩, .int .i64 5]) rfl rfl (by kernel_rfl) LN_turn (by kernel_rfl) (.tmp 159) "Open" [.tmp 150, .tmp 152, .tmp 154, .tmp 156] _ 90 (.agg #[.pointer (some ⟨td, 0, none⟩)]) 175 (.agg #[.pointer (some ⟨td, 0, none⟩)]) Tryz.f175 _ [.string (strOf A), .int .u64 (N : Int), .string (strOf C), .string (strOf H)] rfl (by kernel_rfl) (by kernel_rfl) (fun w => by kernel_rfl) Tryz.func175 (by kernel_rfl) rfl (COh.out _ _ _ _)⟩, .inl ⟨rfl, fun k M W1 hC1 => (fun hA => ow_val hA (wants_none rfl) 147 (.tuple #[.string ⟨#[]⟩, .int .i64 5]) (by kernel_rfl) rfl rfl rfl rfl (by kernel_rfl) (fun w => by kernel_rfl)) (hA M)⟩, .inl ⟨rfl, fun k M W1 hC1 => (fun hA => ow_val hA (wants_none rfl) 161 (.string ⟨#[]⟩) (by kernel_rfl) rfl rfl rfl rfl (by kernel_rfl) (fun w => by kernel_rfl)) (hA M)⟩, .inl ⟨rfl, fun k M W1 hC1 => (fun hA => ow_val hA (wants_none rfl) 162 (.int .i64 5) (by kernel_rfl) rfl rfl rfl rfl (by kernel_rfl) (fun w => by kernel_rfl)) (hA M)⟩, .inl ⟨rfl, fun k M W1 hC1 => (fun hA => ow_val hA (wants_none rfl) 16 (.string ⟨#[]⟩) (by kernel_rfl) rfl rfl rfl rfl (by kernel_rfl) (fun w => by kernel_rfl)) (hA M)⟩, .inl ⟨rfl, fun k M W1 hC1 => (fun hA => ow_val hA (wants_none rfl) 17 (.int .i64 5) (by kernel_rfl) rfl rfl rfl rfl (by kernel_rfl) (fun w => by kernel_rfl)) (hA M)⟩, trivial⟩) ?_
    intro fv M20 w20 hf hC20
    simp only [LN, putR, List.foldl_cons, List.foldl_nil, List.map_cons, List.map_nil, Act.put, List.setIfInBounds_toArray, List.set_cons_succ, List.set_cons_zero]
    refine wpList_nil ?_
    have KP20 : Kept (Below w0.heap.size w0 w20) := ⟨KPb.out.trans ((KTd.out.below hC20.2).mono KBd.out)⟩
    clear hf hC20
    go_wp2_with fail
    go_ret
    exact ⟨rfl, Q0.out.trans (KP20.out.mono Q0.out.size)⟩
theorem back11 {A B C T A2 B2 C2 U2 : List Nat} {N N2 : Nat} {w : World} (hA : Bytes A) (hC : Bytes C) (hT : Bytes T) (hA2 : Bytes A2) (hC2 : Bytes C2) (hN : N < 18446744073709551616) (hN2 : N2 < 18446744073709551616) (hr : RootsAt w) : Calls Tryz.prog 6 #[.agg #[.string (strOf A), .string (strOf B), .int .u64 (N : Int), .string (strOf C), .string (strOf T)], .agg #[.string (strOf A2), .string (strOf B2), .int .u64 (N2 : Int), .string (strOf C2), .string (strOf U2)]] w fun e w' => e = .returned (.bool true) ∧ Below w.heap.size w w' := by
  by_cases hf : Few A B C T
  · by_cases hf2 : Few A2 B2 C2 U2
    · by_cases hs : A = A2 ∧ N = N2 ∧ C = C2
      · exact back_same hA hC hT hA2 hC2 hN hN2 hr (decide_eq_true hf) (decide_eq_true hf2) hs
      · exact back_diff hA hC hT hA2 hC2 hN hN2 hr (decide_eq_true hf) (decide_eq_true hf2) hs
    · exact back_big2 hA hC hT hA2 hC2 hN hN2 hr (decide_eq_true hf) (decide_eq_false hf2)
  · exact back_big1 hA hC hT hA2 hC2 hN hN2 hr (decide_eq_false hf)
end Go.Proofs.YtjkdonjcngmjeaaGreatDoor.sh
