/-
  General pieces, joined: MK.
-/
import Derived.Test.YtjkdonjcngmjeaaGreatDoorG38
/-
  PrimsTerms, walked.
-/
namespace Go.Proofs.YtjkdonjcngmjeaaGreatDoor.sh
open Go Go.RowKit
set_option linter.unusedVariables false
set_option linter.unusedSimpArgs false

theorem run_neB {o : Oper} {a : Act} {x y : Operand} {b c r : Bool} (ho : o.op = .binOp .neq 4 x y 4) (hx : a.eval x = .bool b) (hy : a.eval y = .bool c) (hr : r = (b != c)) (w : World) : (execOp a.eval o).run Tryz.prog w = .ok (.value (.bool r)) w := by
  unfold execOp
  simp only [ho, hx, hy]
  subst hr
  cases b <;> cases c <;> simp [go_sem]
theorem run_addI1 {o : Oper} {a : Act} {x y : Operand} {m n : Nat} (ho : o.op = .binOp .add 3 x y 3) (hx : a.eval x = .int .i64 (m : Int)) (hy : a.eval y = .int .i64 1) (hn : n = m + 1) (hm : m < 1000) (w : World) : (execOp a.eval o).run Tryz.prog w = .ok (.value (.int .i64 (n : Int))) w := by
  unfold execOp
  simp only [ho, hx, hy]
  subst hn
  simp [go_sem]
  simp only [IntKind.wrap_i64, wrap64]
  omega
theorem put_again {ts us vs : List TermL} {t : TermL} {N : List Nat} (h : putL ts t = (us, N)) (hF : Fits t.2) (hp : us <+: vs) : putL vs t = (vs, N) := by
  obtain ⟨h1, h2⟩ := putL_name (ts := ts) hF
  rw [h] at h1 h2
  simp only at h1 h2
  have hm : t ∈ vs := hp.subset h2
  rw [putL_old hF hm]
  show (vs, nameOf vs t) = _
  rw [nameOf_prefix h2 hp, ← h1]
theorem fits_sort {a b : List Nat} (h : a.length ≤ 1000) (h2 : b.length ≤ 1000) : Fits (sort2 a b) := by
  obtain ⟨p, q, e⟩ := sort2_two a b
  have hm : ∀ l ∈ sort2 a b, l = a ∨ l = b := fun l hl => by
    unfold sort2 at hl
    split at hl <;> simp at hl <;> rcases hl with h | h <;> simp [h]
  refine fits_any (by rw [e]; simp) fun l hl => ?_
  rcases hm l hl with rfl | rfl <;> omega
theorem dh_again {ts T1 T2 : List TermL} {A B P D : List Nat} {fd : Bool} (g1 : putL ts (2, [A]) = (T1, P)) (f1 : Fits ((2, [A]) : TermL).2) (fs : Fits (sort2 B A)) (hl : ts.length < 1000) (g2 : dhL T1 B P = (T2, D, fd)) :
    T1.length ≤ ts.length + 1 ∧ Bytes P ∧ (dhL T2 B P = (T2, D, fd) ∧ T1 <+: T2) ∧ T2.length ≤ T1.length + 1 ∧ Bytes D := by
  have l1 := putL_len ts (2, [A])
  rw [g1] at l1
  simp only at l1
  have b1 := putL_bytes ts (2, [A])
  rw [g1] at b1
  obtain ⟨n1, m1⟩ := putL_name (ts := ts) f1
  rw [g1] at n1 m1
  simp only at n1 m1
  have hT1 : T1.length < 18446744073709551615 := by omega
  have e2 := dhL_pub (a := B) m1 hT1
  rw [← n1, g2] at e2
  simp only [Prod.mk.injEq] at e2
  obtain ⟨e3, e4, e5⟩ := e2
  have l2 := putL_len T1 (3, sort2 B A)
  rw [← e3] at l2
  have p2 : T1 <+: T2 := by rw [e3]; exact putL_grows _ _
  have b2 : Bytes D := by rw [e4]; exact putL_bytes _ _
  refine ⟨l1, b1, ⟨?_, p2⟩, l2, b2⟩
  have hk : putL T2 (3, sort2 B A) = (T2, D) := put_again (show putL T1 (3, sort2 B A) = (T2, D) by rw [e3, e4]) fs (List.prefix_refl _)
  have e6 := dhL_pub (a := B) (p2.subset m1) (by omega : T2.length < 18446744073709551615)
  rw [nameOf_prefix m1 p2, ← n1, hk] at e6
  rw [e6, e5, ← e4]
theorem dhL_no {ts : List TermL} {a b : List Nat} (h : partX ts b = none) : dhL ts a b = (ts, [], false) := by
  unfold partX at h
  unfold dhL
  split at h
  · next h0 =>
    split
    · simp [h0]
    · rfl
  · next h0 => rw [h]
theorem keys_prefix (ts : List TermL) (x y : List Nat) (i : Nat) : ∀ k, tsK ts x y i <+: tsK ts x y (i + k)
  | 0 => List.prefix_refl _
  | k + 1 => (keys_prefix ts x y i k).trans (putL_grows _ _)
theorem keys_again {ts : List TermL} {x y : List Nat} {n i : Nat} (hx : x.length ≤ 4000) (hy : y.length ≤ 4000) (hi : i < n) : putL (tsK ts x y n) (4, [keyW, numL (i + 1), x, y]) = (tsK ts x y n, nmK ts x y i) := by
  have h1 : putL (tsK ts x y i) (keyT x y i) = (tsK ts x y (i + 1), nmK ts x y i) := rfl
  have hp := keys_prefix ts x y (i + 1) (n - (i + 1))
  rw [show i + 1 + (n - (i + 1)) = n by omega] at hp
  exact put_again h1 (keyT_fits hx hy) hp

set_option maxRecDepth 100000 in
theorem KeysTb {tb : Nat} {x y : List Nat} {z : Int} {w : World} (hz : z < 1 ∨ 3 < z) :
    Calls Tryz.prog 174 #[.agg #[.pointer (some ⟨tb, 0, none⟩)], .string (strOf x), .string (strOf y), .int .i64 z] w fun e w' => e = .returned (.slice none 0 0) ∧ Below w.heap.size w w' := by
  have Q0 : Kept (Below w.heap.size w (w.alloc (.cells #[.pointer (some ⟨tb, 0, none⟩)] 90))) := ⟨(Below.refl _ _).alloc (Nat.le_refl _) _⟩
  rcases hz with h | h
  · go_enter Tryz.func174, Tryz.ntmps174
    go_wp2_with fail
    go_ret
    exact ⟨rfl, Q0.out⟩
  · have h0 : ¬ z < 1 := by omega
    go_enter Tryz.func174, Tryz.ntmps174
    go_wp2_with fail
    go_ret
    exact ⟨rfl, Q0.out⟩

set_option maxRecDepth 100000 in
set_option maxHeartbeats 2000000 in
theorem terms_big {A B C T : List Nat} {N : Nat} {w : World} (hA : Bytes A) (hB : Bytes B) (hC : Bytes C) (hT : Bytes T) (hN : N < 18446744073709551616) (hr : RootsAt w) {z : Int} (hf : decide (Few A B C T) = false) : Calls Tryz.prog 5 #[.agg #[.string (strOf A), .string (strOf B), .int .u64 (N : Int), .string (strOf C), .string (strOf T)], .int .i64 z] w fun e w' => e = .returned (.bool true) ∧ Below w.heap.size w w' := by
  obtain ⟨gx, hgx⟩ : ∃ g, g = w.heap.size := ⟨_, rfl⟩
  obtain ⟨w0, hw0⟩ : ∃ v, v = w.alloc (.cells #[.string (strOf A), .string (strOf B), .int .u64 (N : Int), .string (strOf C), .string (strOf T)] 24) := ⟨_, rfl⟩
  have BX : Kept (Blk w0 gx 24 #[.string (strOf A), .string (strOf B), .int .u64 (N : Int), .string (strOf C), .string (strOf T)]) := ⟨by rw [hw0, hgx]; exact blk_new w _ _⟩
  have Q0 : Kept (Below w.heap.size w w0) := ⟨by rw [hw0]; exact (Below.refl _ _).alloc (Nat.le_refl _) _⟩
  have KX : Kept (∀ w', Below w0.heap.size w0 w' → ∀ (k : Nat) (v : Value), (#[.string (strOf A), .string (strOf B), .int .u64 (N : Int), .string (strOf C), .string (strOf T)] : Array Value)[k]? = some v → w'.cell? ⟨gx, k, none⟩ = some v) := ⟨fun w' hb k v hk => (BX.out.under hb).cell hk⟩
  have IX : Kept ((Tryz.prog.info? 24).map (·.size) = some (#[.string (strOf A), .string (strOf B), .int .u64 (N : Int), .string (strOf C), .string (strOf T)] : Array Value).size) := ⟨by kernel_rfl⟩
  have KR : Kept (RootsAt w0) := ⟨hr.under Q0.out⟩
  have CF : Kept (∀ w, Calls Tryz.prog 10 #[.agg #[.string (strOf A), .string (strOf B), .int .u64 (N : Int), .string (strOf C), .string (strOf T)]] w fun e w' => e = .returned (.bool false) ∧ Below w.heap.size w w') := ⟨fun w => by
    have h9 := few11 (A := A) (B := B) (C := C) (T := T) (N := N) (w := w)
    rw [show decide (Few A B C T) = false from hf] at h9
    exact h9⟩
  have Kw0 : Kept _ := ⟨hw0⟩
  have Kgx : Kept _ := ⟨hgx⟩
  clear hw0 hgx hr hf
  go_enter Tryz.func5, Tryz.ntmps5
  go_wp2_with fail
  rw [← Kw0.out, ← Kgx.out]
  refine (alive11 KR.out).mono ?_
  rintro e w1 ⟨rfl, q1⟩
  have KP1 : Kept _ := ⟨q1⟩
  clear q1
  go_wp2_with fail
  refine NewD.mono ?_
  rintro e w2 ⟨⟨tb, M0, rfl, hT2⟩, q2⟩
  obtain ⟨B0, hB0⟩ : ∃ b, b = w1.heap.size := ⟨_, rfl⟩
  rw [← hB0] at hT2
  have KB0 : Kept (w0.heap.size ≤ B0) := ⟨by rw [hB0]; exact KP1.out.size⟩
  have KT2 : Kept (Tab tb B0 [] M0 w2) := ⟨hT2⟩
  have KP2 : Kept _ := ⟨KP1.out.trans (q2.mono KP1.out.size)⟩
  clear q2 KP1 hT2 hB0
  go_wp2_with fail
  refine SymbolD.mono ?_
  rintro e w3 ⟨rfl, q3⟩
  have KT3 : Kept (Tab tb B0 [] M0 w3) := ⟨KT2.out.under q3⟩
  have KP3 : Kept _ := ⟨KP2.out.trans (q3.mono KP2.out.size)⟩
  clear q3 KP2 KT2
  go_wp2_with (first | ((with_reducible refine wv_rowS (d := 31) ?hd ?hw 24 (.tmp 2) ?ho (gx) ?hx (t' := 24) (#[.string (strOf A), .string (strOf B), .int .u64 (N : Int), .string (strOf C), .string (strOf T)]) _ Tryz.underlying24 ?hs ?hg ?_); (case hd => rfl); (case hw => kernel_rfl); (case ho => rfl); (case hx => kernel_rfl); (case hs => exact IX.out); (case hg => exact (BX.out.under KP3.out)); simp only [Act.put, List.setIfInBounds_toArray, List.set_cons_succ, List.set_cons_zero]))
  refine (CF.out _).mono ?_
  rintro e w4 ⟨rfl, q4⟩
  have KP4 : Kept (Below w0.heap.size w0 w4) := ⟨KP3.out.trans (q4.mono KP3.out.size)⟩
  have KT4 : Kept (Tab tb B0 [] M0 w4) := ⟨KT3.out.under q4⟩
  clear q4 KP3 KT3
  go_wp2_with fail
  go_ret
  exact ⟨rfl, Q0.out.trans (KP4.out.mono Q0.out.size)⟩

set_option maxRecDepth 100000 in
set_option maxHeartbeats 8000000 in
theorem terms_bad {A B C T : List Nat} {N : Nat} {w : World} (hA : Bytes A) (hB : Bytes B) (hC : Bytes C) (hT : Bytes T) (hN : N < 18446744073709551616) (hr : RootsAt w) {z : Int} (hf : decide (Few A B C T) = true) (hz : z < 1 ∨ 3 < z) : Calls Tryz.prog 5 #[.agg #[.string (strOf A), .string (strOf B), .int .u64 (N : Int), .string (strOf C), .string (strOf T)], .int .i64 z] w fun e w' => e = .returned (.bool true) ∧ Below w.heap.size w w' := by
  have YA : Kept _ := ⟨hA⟩
  have YB : Kept _ := ⟨hB⟩
  have YC : Kept _ := ⟨hC⟩
  have YT : Kept _ := ⟨hT⟩
  have KN : Kept _ := ⟨hN⟩
  have KF : Kept (Few A B C T) := ⟨of_decide_eq_true hf⟩
  have h8 : 4000 ≤ maxLen := by decide
  obtain ⟨T1, P, g1⟩ : ∃ T1 P, putL [] (2, [A]) = (T1, P) := ⟨_, _, rfl⟩
  obtain ⟨T2, D, fd, g2⟩ : ∃ T2 D fd, dhL T1 B P = (T2, D, fd) := ⟨_, _, _, rfl⟩
  obtain ⟨T3, H, g5⟩ : ∃ T3 H, putL T2 (4, [hashW, A, B]) = (T3, H) := ⟨_, _, rfl⟩
  obtain ⟨T4, X, g7⟩ : ∃ T4 X, putL T3 (5, [A, numL N, C, T]) = (T4, X) := ⟨_, _, rfl⟩
  have f1 : Fits ((2, [A]) : TermL).2 := fits_any (by simp) (by intro l hl; simp only [List.mem_cons, List.not_mem_nil, or_false] at hl; subst hl; have := KF.out.1; omega)
  have f4 : Fits ((4, [hashW, A, B]) : TermL).2 := fits_any (by simp) (by
    intro l hl
    have := KF.out
    simp only [List.mem_cons, List.not_mem_nil, or_false] at hl
    rcases hl with rfl | rfl | rfl
    · exact hashW_ok.2.1
    · have := this.1; omega
    · have := this.2.1; omega)
  have f5 : Fits ((5, [A, numL N, C, T]) : TermL).2 := fits_any (by simp) (by
    intro l hl
    have := KF.out
    have hJl := numL_len N
    simp only [List.mem_cons, List.not_mem_nil, or_false] at hl
    rcases hl with rfl | rfl | rfl | rfl
    · have := this.1; omega
    · omega
    · have := this.2.2.1; omega
    · have := this.2.2.2; omega)
  obtain ⟨l1, b1, ⟨g4, p2⟩, l2, b2⟩ := dh_again g1 f1 (fits_sort KF.out.2.1 KF.out.1) (by decide) g2
  have l0 : ([] : List TermL).length = 0 := rfl
  have l3 := putL_len T2 (4, [hashW, A, B])
  rw [g5] at l3
  have l4 := putL_len T3 (5, [A, numL N, C, T])
  rw [g7] at l4
  have G1 : Kept _ := ⟨g1⟩
  have G2 : Kept _ := ⟨g2⟩
  have G3 : Kept (putL T2 (2, [A]) = (T2, P)) := ⟨put_again g1 f1 p2⟩
  have G4 : Kept (dhL T2 B P = (T2, D, fd)) := ⟨g4⟩
  have G5 : Kept _ := ⟨g5⟩
  have G6 : Kept (putL T3 (4, [hashW, A, B]) = (T3, H)) := ⟨put_again g5 f4 (List.prefix_refl _)⟩
  have G7 : Kept _ := ⟨g7⟩
  have G8 : Kept (putL T4 (5, [A, numL N, C, T]) = (T4, X)) := ⟨put_again g7 f5 (List.prefix_refl _)⟩
  have KL : Kept (T1.length < 1000000 ∧ T2.length < 1000000 ∧ T3.length < 1000000 ∧ T4.length < 1000000) := ⟨by simp only at l3 l4; exact ⟨by omega, by omega, by omega, by omega⟩⟩
  have KL4 : Kept (T4.length < 100) := ⟨by simp only at l3 l4; omega⟩
  have YY : Kept (Bytes P ∧ Bytes D ∧ Bytes H ∧ Bytes X) := ⟨⟨b1, b2, by have := putL_bytes T2 (4, [hashW, A, B]); rwa [g5] at this, by have := putL_bytes T3 (5, [A, numL N, C, T]); rwa [g7] at this⟩⟩
  have lP : P.length ≤ maxLen := by have := putL_len32 [] (2, [A]); rw [g1] at this; simp only at this; omega
  have Kf : Kept (A.length ≤ maxLen ∧ B.length ≤ maxLen ∧ C.length ≤ maxLen ∧ T.length ≤ maxLen ∧ P.length ≤ maxLen) := ⟨by have := KF.out; exact ⟨by have := this.1; omega, by have := this.2.1; omega, by have := this.2.2.1; omega, by have := this.2.2.2; omega, lP⟩⟩
  have Kf4 : Kept (A.length ≤ 4000 ∧ B.length ≤ 4000) := ⟨by have := KF.out; exact ⟨by have := this.1; omega, by have := this.2.1; omega⟩⟩
  have KY : Kept ((∀ l ∈ [hashW, A, B], Bytes l) ∧ ∀ l ∈ [hashW, A, B], l.length ≤ maxLen) := ⟨by
    constructor
    · intro l hl
      simp only [List.mem_cons, List.not_mem_nil, or_false] at hl
      rcases hl with rfl | rfl | rfl
      · exact hashW_ok.1
      · exact hA
      · exact hB
    · intro l hl
      simp only [List.mem_cons, List.not_mem_nil, or_false] at hl
      rcases hl with rfl | rfl | rfl
      · exact hashW_ok.2.2
      · exact Kf.out.1
      · exact Kf.out.2.1⟩
  have CPub : Kept (∀ (tb B0 : Nat) (M0 : Nat → Prop) (W : World) (M : Nat → Prop) (w : World), CT tb B0 T2 M0 W M w → Calls Tryz.prog 21 [.pointer (some ⟨tb, 0, none⟩), .string (strOf A)].toArray w fun e w' => e = .returned (.string (strOf P)) ∧ ∃ M', CT tb B0 T2 M0 W M' w' ∧ Turn M w M' w') := ⟨fun tb B0 M0 W M w h => (PubE h.1 hA Kf.out.1 KL.out.2.1 G3.out rfl).mono fun e w' hh => ⟨hh.1, h.puts hh.2⟩⟩
  have CDh : Kept (∀ (tb B0 : Nat) (M0 : Nat → Prop) (W : World) (M : Nat → Prop) (w : World), CT tb B0 T2 M0 W M w → Calls Tryz.prog 20 [.pointer (some ⟨tb, 0, none⟩), .string (strOf B), .string (strOf P)].toArray w fun e w' => e = .returned (.tuple #[.string (strOf D), .bool fd]) ∧ ∃ M', CT tb B0 T2 M0 W M' w' ∧ Turn M w M' w') := ⟨fun tb B0 M0 W M w h => (DhE h.1 hB b1 Kf.out.2.1 lP KL.out.2.1 G4.out).mono fun e w' hh => ⟨hh.1, h.puts hh.2⟩⟩
  have CHs : Kept (∀ (tb B0 : Nat) (M0 : Nat → Prop) (W : World) (M : Nat → Prop) (w : World), CT tb B0 T2 M0 W M w → Calls Tryz.prog 173 (.agg #[.pointer (some ⟨tb, 0, none⟩)] :: [.string (strOf A), .string (strOf B)]).toArray w fun e w' => e = .returned (.string (strOf H)) ∧ ∃ M', CT tb B0 T3 M0 W M' w' ∧ Turn M w M' w') := ⟨fun tb B0 M0 W M w h => (HashT h.1 hA hB Kf.out.1 Kf.out.2.1 KL.out.2.1 G5.out).mono fun e w' hh => ⟨hh.1, h.puts hh.2⟩⟩
  have CSl : Kept (∀ (tb B0 : Nat) (M0 : Nat → Prop) (W : World) (M : Nat → Prop) (w : World), CT tb B0 T3 M0 W M w → Calls Tryz.prog 23 (.pointer (some ⟨tb, 0, none⟩) :: [.string (strOf A), .int .u64 (N : Int), .string (strOf C), .string (strOf T)]).toArray w fun e w' => e = .returned (.string (strOf X)) ∧ ∃ M', CT tb B0 T4 M0 W M' w' ∧ Turn M w M' w') := ⟨fun tb B0 M0 W M w h => (SealE h.1 hN hA hC hT Kf.out.1 Kf.out.2.2.1 Kf.out.2.2.2.1 KL.out.2.2.1 G7.out).mono fun e w' hh => ⟨hh.1, h.puts hh.2⟩⟩
  have CSm : Kept (∀ (tb B0 : Nat) (M0 : Nat → Prop) (W : World) (M : Nat → Prop) (w : World), CT tb B0 T4 M0 W M w → Calls Tryz.prog 23 [.pointer (some ⟨tb, 0, none⟩), .string (strOf A), .int .u64 (N : Int), .string (strOf C), .string (strOf T)].toArray w fun e w' => e = .returned (.string (strOf X)) ∧ ∃ M', CT tb B0 T4 M0 W M' w' ∧ Turn M w M' w') := ⟨fun tb B0 M0 W M w h => (SealE h.1 hN hA hC hT Kf.out.1 Kf.out.2.2.1 Kf.out.2.2.2.1 KL.out.2.2.2 G8.out).mono fun e w' hh => ⟨hh.1, h.puts hh.2⟩⟩
  clear l0 hA hB hC hT hN g1 g2 g4 g5 g7 f1 f4 f5 l1 l2 l3 l4 b1 b2 p2 lP h8
  have CKb : Kept (∀ (tb : Nat) w, Calls Tryz.prog 174 #[.agg #[.pointer (some ⟨tb, 0, none⟩)], .string (strOf A), .string (strOf B), .int .i64 z] w fun e w' => e = .returned (.slice none 0 0) ∧ Below w.heap.size w w') := ⟨fun tb w => KeysTb hz⟩
  obtain ⟨gx, hgx⟩ : ∃ g, g = w.heap.size := ⟨_, rfl⟩
  obtain ⟨w0, hw0⟩ : ∃ v, v = w.alloc (.cells #[.string (strOf A), .string (strOf B), .int .u64 (N : Int), .string (strOf C), .string (strOf T)] 24) := ⟨_, rfl⟩
  have BX : Kept (Blk w0 gx 24 #[.string (strOf A), .string (strOf B), .int .u64 (N : Int), .string (strOf C), .string (strOf T)]) := ⟨by rw [hw0, hgx]; exact blk_new w _ _⟩
  have Q0 : Kept (Below w.heap.size w w0) := ⟨by rw [hw0]; exact (Below.refl _ _).alloc (Nat.le_refl _) _⟩
  have KX : Kept (∀ w', Below w0.heap.size w0 w' → ∀ (k : Nat) (v : Value), (#[.string (strOf A), .string (strOf B), .int .u64 (N : Int), .string (strOf C), .string (strOf T)] : Array Value)[k]? = some v → w'.cell? ⟨gx, k, none⟩ = some v) := ⟨fun w' hb k v hk => (BX.out.under hb).cell hk⟩
  have IX : Kept ((Tryz.prog.info? 24).map (·.size) = some (#[.string (strOf A), .string (strOf B), .int .u64 (N : Int), .string (strOf C), .string (strOf T)] : Array Value).size) := ⟨by kernel_rfl⟩
  have KR : Kept (RootsAt w0) := ⟨hr.under Q0.out⟩
  have CF : Kept (∀ w, Calls Tryz.prog 10 #[.agg #[.string (strOf A), .string (strOf B), .int .u64 (N : Int), .string (strOf C), .string (strOf T)]] w fun e w' => e = .returned (.bool true) ∧ Below w.heap.size w w') := ⟨fun w => by
    have h9 := few11 (A := A) (B := B) (C := C) (T := T) (N := N) (w := w)
    rw [show decide (Few A B C T) = true from hf] at h9
    exact h9⟩
  have Kw0 : Kept _ := ⟨hw0⟩
  have Kgx : Kept _ := ⟨hgx⟩
  clear hw0 hgx hr hf
  go_enter Tryz.func5, Tryz.ntmps5
  go_wp2_with fail
  rw [← Kw0.out, ← Kgx.out]
  refine (alive11 KR.out).mono ?_
  rintro e w1 ⟨rfl, q1⟩
  have KP1 : Kept _ := ⟨q1⟩
  clear q1
  go_wp2_with fail
  refine NewD.mono ?_
  rintro e w2 ⟨⟨tb, M0, rfl, hT2⟩, q2⟩
  obtain ⟨B0, hB0⟩ : ∃ b, b = w1.heap.size := ⟨_, rfl⟩
  rw [← hB0] at hT2
  have KB0 : Kept (w0.heap.size ≤ B0) := ⟨by rw [hB0]; exact KP1.out.size⟩
  have KT2 : Kept (Tab tb B0 [] M0 w2) := ⟨hT2⟩
  have KP2 : Kept _ := ⟨KP1.out.trans (q2.mono KP1.out.size)⟩
  clear q2 KP1 hT2 hB0
  go_wp2_with fail
  refine SymbolD.mono ?_
  rintro e w3 ⟨rfl, q3⟩
  have KT3 : Kept (Tab tb B0 [] M0 w3) := ⟨KT2.out.under q3⟩
  have KP3 : Kept _ := ⟨KP2.out.trans (q3.mono KP2.out.size)⟩
  clear q3 KP2 KT2
  go_wp2_with (first | ((with_reducible refine wv_rowS (d := 31) ?hd ?hw 24 (.tmp 2) ?ho (gx) ?hx (t' := 24) (#[.string (strOf A), .string (strOf B), .int .u64 (N : Int), .string (strOf C), .string (strOf T)]) _ Tryz.underlying24 ?hs ?hg ?_); (case hd => rfl); (case hw => kernel_rfl); (case ho => rfl); (case hx => kernel_rfl); (case hs => exact IX.out); (case hg => exact (BX.out.under KP3.out)); simp only [Act.put, List.setIfInBounds_toArray, List.set_cons_succ, List.set_cons_zero]))
  refine (CF.out _).mono ?_
  rintro e w4 ⟨rfl, q4⟩
  have KP4 : Kept (Below w0.heap.size w0 w4) := ⟨KP3.out.trans (q4.mono KP3.out.size)⟩
  have KT4 : Kept (Tab tb B0 [] M0 w4) := ⟨KT3.out.under q4⟩
  clear q4 KP3 KT3
  have KG : Kept (gx < w4.heap.size ∧ ¬ M0 gx) := ⟨⟨(BX.out.under KP4.out).lt, fun hM => by have := (KT4.out.range hM).1; have := BX.out.lt; have := KB0.out; omega⟩⟩
  go_wp2_with (first | ((with_reducible refine wv_elem (d := 43) ?hd ?hw 9 ag_str (.tmp 42) ?ho (⟨gx, 0, none⟩) ?hx (.string (strOf A)) ?hc ?_); (case hd => rfl); (case hw => kernel_rfl); (case ho => rfl); (case hx => kernel_rfl); (case hc => exact KX.out _ (KP4.out) 0 _ rfl); simp only [Act.put, List.setIfInBounds_toArray, List.set_cons_succ, List.set_cons_zero]))
  refine (PubE KT4.out YA.out Kf.out.1 (by decide) G1.out rfl).mono ?_
  rintro e w5 ⟨rfl, M5, hT5, ht5⟩
  have KT5 : Kept _ := ⟨hT5⟩
  have Pt5 : Kept (Turn M0 w4 M5 w5) := ⟨ht5⟩
  clear hT5 ht5
  go_wp2_with (first | ((with_reducible refine wv_elem (d := 48) ?hd ?hw 9 ag_str (.tmp 47) ?ho (⟨gx, 1, none⟩) ?hx (.string (strOf B)) ?hc ?_); (case hd => rfl); (case hw => kernel_rfl); (case ho => rfl); (case hx => kernel_rfl); (case hc => exact (Turn.cell (Pt5.out) (KX.out w4 KP4.out 1 _ rfl) KG.out.1 KG.out.2)); simp only [Act.put, List.setIfInBounds_toArray, List.set_cons_succ, List.set_cons_zero]))
  refine (DhE KT5.out YB.out YY.out.1 Kf.out.2.1 Kf.out.2.2.2.2 KL.out.1 G2.out).mono ?_
  rintro e w6 ⟨rfl, M6, hT6, ht6⟩
  have KT6 : Kept _ := ⟨hT6⟩
  have Pt6 : Kept (Turn M0 w4 M6 w6) := ⟨Pt5.out.trans ht6⟩
  clear hT6 ht6 KT5 Pt5
  go_wp2_with fail
  refine region_phaseL (G := Nat → Prop) 13 [6, 7] [(54, .pointer (some ⟨tb, 0, none⟩)), (55, .pointer (some ⟨gx, 1, none⟩)), (56, .string (strOf B)), (57, .pointer (some ⟨tb, 0, none⟩)), (58, .pointer (some ⟨gx, 0, none⟩)), (59, .string (strOf A)), (60, .string (strOf P)), (61, .tuple #[.string (strOf D), .bool fd]), (53, .tuple #[.string (strOf D), .bool fd]), (62, .string (strOf D)), (63, .bool fd), (10, .string (strOf D)), (11, .bool fd)] (LN []) (fun k => CT tb B0 (([T2, T2, T2] : List (List TermL)).getD k []) M0 w4) rfl (by kernel_rfl) (by kernel_rfl) (by kernel_rfl) (by kernel_rfl) (by kernel_rfl) (by kernel_rfl) (by kernel_rfl) (by kernel_rfl) (by kernel_rfl) (by kernel_rfl) LN_under (fun k g w w' h hb => CT.under h hb) M6 ⟨KT6.out, Pt6.out⟩ (fun hA => ⟨.inl ⟨rfl, fun k M W1 hC1 => (fun hA => ow_val hA (wants_none rfl) 54 (.pointer (some ⟨tb, 0, none⟩)) (by kernel_rfl) rfl rfl rfl rfl (by kernel_rfl) (fun w => by kernel_rfl)) (hA M)⟩, .inl ⟨rfl, fun k M W1 hC1 => (fun hA => ow_val hA (wants_none rfl) 55 (.pointer (some ⟨gx, 1, none⟩)) (by kernel_rfl) rfl rfl rfl rfl (by kernel_rfl) (fun w => by kernel_rfl)) (hA M)⟩, .inl ⟨rfl, fun k M W1 hC1 => (fun hA => ow_elem hA (wants_none rfl) 56 (.string (strOf B)) (by kernel_rfl) rfl rfl rfl rfl (by kernel_rfl) 9 ag_str (.tmp 55) rfl (⟨gx, 1, none⟩) (by kernel_rfl) (fun w1 hb => hC1.cell hb (KX.out w4 KP4.out 1 _ rfl) KG.out.1 KG.out.2)) (hA M)⟩, .inl ⟨rfl, fun k M W1 hC1 => (fun hA => ow_val hA (wants_none rfl) 57 (.pointer (some ⟨tb, 0, none⟩)) (by kernel_rfl) rfl rfl rfl rfl (by kernel_rfl) (fun w => by kernel_rfl)) (hA M)⟩, .inl ⟨rfl, fun k M W1 hC1 => (fun hA => ow_val hA (wants_none rfl) 58 (.pointer (some ⟨gx, 0, none⟩)) (by kernel_rfl) rfl rfl rfl rfl (by kernel_rfl) (fun w => by kernel_rfl)) (hA M)⟩, .inl ⟨rfl, fun k M W1 hC1 => (fun hA => ow_elem hA (wants_none rfl) 59 (.string (strOf A)) (by kernel_rfl) rfl rfl rfl rfl (by kernel_rfl) 9 ag_str (.tmp 58) rfl (⟨gx, 0, none⟩) (by kernel_rfl) (fun w1 hb => hC1.cell hb (KX.out w4 KP4.out 0 _ rfl) KG.out.1 KG.out.2)) (hA M)⟩, .inr ⟨0, rfl, ph_call hA (fun M => (fun hA => (wants_none rfl)) (hA M)) 60 (.string (strOf P)) rfl rfl (by kernel_rfl) LN_turn (by kernel_rfl) 21 Tryz.f21 _ [.tmp 57, .tmp 59] _ [.pointer (some ⟨tb, 0, none⟩), .string (strOf A)] rfl (by kernel_rfl) Tryz.func21 (by kernel_rfl) rfl (CPub.out _ _ _ _)⟩, .inr ⟨1, rfl, ph_call hA (fun M => (fun hA => (wants_none rfl)) (hA M)) 61 (.tuple #[.string (strOf D), .bool fd]) rfl rfl (by kernel_rfl) LN_turn (by kernel_rfl) 20 Tryz.f20 _ [.tmp 54, .tmp 56, .tmp 60] _ [.pointer (some ⟨tb, 0, none⟩), .string (strOf B), .string (strOf P)] rfl (by kernel_rfl) Tryz.func20 (by kernel_rfl) rfl (CDh.out _ _ _ _)⟩, .inl ⟨rfl, fun k M W1 hC1 => (fun hA => ow_val hA (wants_none rfl) 53 (.tuple #[.string (strOf D), .bool fd]) (by kernel_rfl) rfl rfl rfl rfl (by kernel_rfl) (fun w => by kernel_rfl)) (hA M)⟩, .inl ⟨rfl, fun k M W1 hC1 => (fun hA => ow_val hA (wants_none rfl) 62 (.string (strOf D)) (by kernel_rfl) rfl rfl rfl rfl (by kernel_rfl) (fun w => by kernel_rfl)) (hA M)⟩, .inl ⟨rfl, fun k M W1 hC1 => (fun hA => ow_val hA (wants_none rfl) 63 (.bool fd) (by kernel_rfl) rfl rfl rfl rfl (by kernel_rfl) (fun w => by kernel_rfl)) (hA M)⟩, .inl ⟨rfl, fun k M W1 hC1 => (fun hA => ow_val hA (wants_none rfl) 10 (.string (strOf D)) (by kernel_rfl) rfl rfl rfl rfl (by kernel_rfl) (fun w => by kernel_rfl)) (hA M)⟩, .inl ⟨rfl, fun k M W1 hC1 => (fun hA => ow_val hA (wants_none rfl) 11 (.bool fd) (by kernel_rfl) rfl rfl rfl rfl (by kernel_rfl) (fun w => by kernel_rfl)) (hA M)⟩, trivial⟩) ?_
  intro fv M7 w7 hf hC7
  simp only [LN, putR, List.foldl_cons, List.foldl_nil, List.map_cons, List.map_nil, Act.put, List.setIfInBounds_toArray, List.set_cons_succ, List.set_cons_zero]
  refine wpList_nil ?_
  have KT7 : Kept (Tab tb B0 T2 M7 w7) := ⟨hC7.1⟩
  have Pt7 : Kept (Turn M0 w4 M7 w7) := ⟨hC7.2⟩
  clear hf hC7 KT6 Pt6
  go_wp2_with fail
  refine region_phaseL (G := Nat → Prop) 55 [4, 22, 29, 42, 52] [(64, .string (strOf P)), (65, .pointer (some ⟨tb, 0, none⟩)), (66, .pointer (some ⟨gx, 0, none⟩)), (67, .string (strOf A)), (68, .string (strOf P)), (69, .bool false), (70, .bool false), (71, .string (strOf D)), (72, .string (strOf D)), (73, .bool false), (74, .bool false), (75, .bool false), (76, .bool fd), (77, .bool fd), (78, .bool false), (79, .bool false), (80, .bool false), (81, .iface 90 (.agg #[.pointer (some ⟨tb, 0, none⟩)])), (82, .pointer (some ⟨gx, 0, none⟩)), (83, .string (strOf A)), (84, .pointer (some ⟨gx, 1, none⟩)), (85, .string (strOf B)), (86, .string (strOf H)), (87, .pointer (some ⟨tb, 0, none⟩)), (88, .pointer (some ⟨gx, 0, none⟩)), (89, .string (strOf A)), (90, .pointer (some ⟨gx, 1, none⟩)), (91, .string (strOf B)), (93, .string (strOf H)), (94, .bool false), (95, .bool false), (96, .bool false), (97, .iface 90 (.agg #[.pointer (some ⟨tb, 0, none⟩)])), (98, .pointer (some ⟨gx, 0, none⟩)), (99, .string (strOf A)), (100, .pointer (some ⟨gx, 2, none⟩)), (101, .int .u64 (N : Int)), (102, .pointer (some ⟨gx, 3, none⟩)), (103, .string (strOf C)), (104, .pointer (some ⟨gx, 4, none⟩)), (105, .string (strOf T)), (106, .string (strOf X)), (107, .pointer (some ⟨tb, 0, none⟩)), (108, .pointer (some ⟨gx, 0, none⟩)), (109, .string (strOf A)), (110, .pointer (some ⟨gx, 2, none⟩)), (111, .int .u64 (N : Int)), (112, .pointer (some ⟨gx, 3, none⟩)), (113, .string (strOf C)), (114, .pointer (some ⟨gx, 4, none⟩)), (115, .string (strOf T)), (116, .string (strOf X)), (117, .bool false), (118, .bool false)] (LN [(92, [hashW, A, B])]) (fun k => CT tb B0 (([T2, T2, T3, T3, T4, T4] : List (List TermL)).getD k []) M0 w4) rfl (by kernel_rfl) (by kernel_rfl) (by kernel_rfl) (by kernel_rfl) (by kernel_rfl) (by kernel_rfl) (by kernel_rfl) (by kernel_rfl) (by kernel_rfl) (by kernel_rfl) LN_under (fun k g w w' h hb => CT.under h hb) M7 ⟨KT7.out, Pt7.out⟩ (fun hA => ⟨.inl ⟨rfl, fun k M W1 hC1 => (fun hA => ow_val hA (wants_none rfl) 64 (.string (strOf P)) (by kernel_rfl) rfl rfl rfl rfl (by kernel_rfl) (fun w => by kernel_rfl)) (hA M)⟩, .inl ⟨rfl, fun k M W1 hC1 => (fun hA => ow_val hA (wants_none rfl) 65 (.pointer (some ⟨tb, 0, none⟩)) (by kernel_rfl) rfl rfl rfl rfl (by kernel_rfl) (fun w => by kernel_rfl)) (hA M)⟩, .inl ⟨rfl, fun k M W1 hC1 => (fun hA => ow_val hA (wants_none rfl) 66 (.pointer (some ⟨gx, 0, none⟩)) (by kernel_rfl) rfl rfl rfl rfl (by kernel_rfl) (fun w => by kernel_rfl)) (hA M)⟩, .inl ⟨rfl, fun k M W1 hC1 => (fun hA => ow_elem hA (wants_none rfl) 67 (.string (strOf A)) (by kernel_rfl) rfl rfl rfl rfl (by kernel_rfl) 9 ag_str (.tmp 66) rfl (⟨gx, 0, none⟩) (by kernel_rfl) (fun w1 hb => hC1.cell hb (KX.out w4 KP4.out 0 _ rfl) KG.out.1 KG.out.2)) (hA M)⟩, .inr ⟨0, rfl, ph_call hA (fun M => (fun hA => (wants_none rfl)) (hA M)) 68 (.string (strOf P)) rfl rfl (by kernel_rfl) LN_turn (by kernel_rfl) 21 Tryz.f21 _ [.tmp 65, .tmp 67] _ [.pointer (some ⟨tb, 0, none⟩), .string (strOf A)] rfl (by kernel_rfl) Tryz.func21 (by kernel_rfl) rfl (CPub.out _ _ _ _)⟩, .inl ⟨rfl, fun k M W1 hC1 => (fun hA => ow_val hA (wants_none rfl) 69 (.bool false) (by kernel_rfl) rfl rfl rfl rfl (by kernel_rfl) (fun w => run_sneq rfl (by kernel_rfl) (by kernel_rfl) YY.out.1 YY.out.1 (by simp) w)) (hA M)⟩, .inl ⟨rfl, fun k M W1 hC1 => (fun hA => ow_val hA (wants_none rfl) 70 (.bool false) (by kernel_rfl) rfl rfl rfl rfl (by kernel_rfl) (fun w => by kernel_rfl)) (hA M)⟩, .inl ⟨rfl, fun k M W1 hC1 => (fun hA => ow_val hA (wants_at hA 6 false 70 rfl rfl (by kernel_rfl) rfl rfl (by kernel_rfl)) 71 (.string (strOf D)) (by kernel_rfl) rfl rfl rfl rfl (by kernel_rfl) (fun w => by kernel_rfl)) (hA M)⟩, .inl ⟨rfl, fun k M W1 hC1 => (fun hA => ow_val hA (wants_at hA 6 false 70 rfl rfl (by kernel_rfl) rfl rfl (by kernel_rfl)) 72 (.string (strOf D)) (by kernel_rfl) rfl rfl rfl rfl (by kernel_rfl) (fun w => by kernel_rfl)) (hA M)⟩, .inl ⟨rfl, fun k M W1 hC1 => (fun hA => ow_val hA (wants_at hA 6 false 70 rfl rfl (by kernel_rfl) rfl rfl (by kernel_rfl)) 73 (.bool false) (by kernel_rfl) rfl rfl rfl rfl (by kernel_rfl) (fun w => run_sneq rfl (by kernel_rfl) (by kernel_rfl) YY.out.2.1 YY.out.2.1 (by simp) w)) (hA M)⟩, .inl ⟨rfl, fun k M W1 hC1 => (fun hA => ow_val hA (wants_none rfl) 74 (.bool false) (by kernel_rfl) rfl rfl rfl rfl (by kernel_rfl) (fun w => by kernel_rfl)) (hA M)⟩, .inl ⟨rfl, fun k M W1 hC1 => (fun hA => ow_val hA (wants_none rfl) 75 (.bool false) (by kernel_rfl) rfl rfl rfl rfl (by kernel_rfl) (fun w => by kernel_rfl)) (hA M)⟩, .inl ⟨rfl, fun k M W1 hC1 => (fun hA => ow_val hA (wants_at hA 11 false 75 rfl rfl (by kernel_rfl) rfl rfl (by kernel_rfl)) 76 (.bool fd) (by kernel_rfl) rfl rfl rfl rfl (by kernel_rfl) (fun w => by kernel_rfl)) (hA M)⟩, .inl ⟨rfl, fun k M W1 hC1 => (fun hA => ow_val hA (wants_at hA 11 false 75 rfl rfl (by kernel_rfl) rfl rfl (by kernel_rfl)) 77 (.bool fd) (by kernel_rfl) rfl rfl rfl rfl (by kernel_rfl) (fun w => by kernel_rfl)) (hA M)⟩, .inl ⟨rfl, fun k M W1 hC1 => (fun hA => ow_val hA (wants_at hA 11 false 75 rfl rfl (by kernel_rfl) rfl rfl (by kernel_rfl)) 78 (.bool false) (by kernel_rfl) rfl rfl rfl rfl (by kernel_rfl) (fun w => run_neB (b := fd) (c := fd) rfl (by kernel_rfl) (by kernel_rfl) (by simp) w)) (hA M)⟩, .inl ⟨rfl, fun k M W1 hC1 => (fun hA => ow_val hA (wants_none rfl) 79 (.bool false) (by kernel_rfl) rfl rfl rfl rfl (by kernel_rfl) (fun w => by kernel_rfl)) (hA M)⟩, .inl ⟨rfl, fun k M W1 hC1 => (fun hA => ow_val hA (wants_none rfl) 80 (.bool false) (by kernel_rfl) rfl rfl rfl rfl (by kernel_rfl) (fun w => by kernel_rfl)) (hA M)⟩, .inl ⟨rfl, fun k M W1 hC1 => (fun hA => ow_val hA (wants_at hA 16 false 80 rfl rfl (by kernel_rfl) rfl rfl (by kernel_rfl)) 81 (.iface 90 (.agg #[.pointer (some ⟨tb, 0, none⟩)])) (by kernel_rfl) rfl rfl rfl rfl (by kernel_rfl) (fun w => by kernel_rfl)) (hA M)⟩, .inl ⟨rfl, fun k M W1 hC1 => (fun hA => ow_val hA (wants_at hA 16 false 80 rfl rfl (by kernel_rfl) rfl rfl (by kernel_rfl)) 82 (.pointer (some ⟨gx, 0, none⟩)) (by kernel_rfl) rfl rfl rfl rfl (by kernel_rfl) (fun w => by kernel_rfl)) (hA M)⟩, .inl ⟨rfl, fun k M W1 hC1 => (fun hA => ow_elem hA (wants_at hA 16 false 80 rfl rfl (by kernel_rfl) rfl rfl (by kernel_rfl)) 83 (.string (strOf A)) (by kernel_rfl) rfl rfl rfl rfl (by kernel_rfl) 9 ag_str (.tmp 82) rfl (⟨gx, 0, none⟩) (by kernel_rfl) (fun w1 hb => hC1.cell hb (KX.out w4 KP4.out 0 _ rfl) KG.out.1 KG.out.2)) (hA M)⟩, .inl ⟨rfl, fun k M W1 hC1 => (fun hA => ow_val hA (wants_at hA 16 false 80 rfl rfl (by kernel_rfl) rfl rfl (by kernel_rfl)) 84 (.pointer (some ⟨gx, 1, none⟩)) (by kernel_rfl) rfl rfl rfl rfl (by kernel_rfl) (fun w => by kernel_rfl)) (hA M)⟩, .inl ⟨rfl, fun k M W1 hC1 => (fun hA => ow_elem hA (wants_at hA 16 false 80 rfl rfl (by kernel_rfl) rfl rfl (by kernel_rfl)) 85 (.string (strOf B)) (by kernel_rfl) rfl rfl rfl rfl (by kernel_rfl) 9 ag_str (.tmp 84) rfl (⟨gx, 1, none⟩) (by kernel_rfl) (fun w1 hb => hC1.cell hb (KX.out w4 KP4.out 1 _ rfl) KG.out.1 KG.out.2)) (hA M)⟩, .inr ⟨1, rfl, ph_invoke hA (fun M => (fun hA => (wants_at hA 16 false 80 rfl rfl (by kernel_rfl) rfl rfl (by kernel_rfl))) (hA M)) 86 (.string (strOf H)) rfl rfl (by kernel_rfl) LN_turn (by kernel_rfl) (.tmp 81) "Hash" [.tmp 83, .tmp 85] _ 90 (.agg #[.pointer (some ⟨tb, 0, none⟩)]) 173 (.agg #[.pointer (some ⟨tb, 0, none⟩)]) Tryz.f173 _ [.string (strOf A), .string (strOf B)] rfl (by kernel_rfl) (by kernel_rfl) (fun w => by kernel_rfl) Tryz.func173 (by kernel_rfl) rfl (CHs.out _ _ _ _)⟩, .inl ⟨rfl, fun k M W1 hC1 => (fun hA => ow_val hA (wants_at hA 16 false 80 rfl rfl (by kernel_rfl) rfl rfl (by kernel_rfl)) 87 (.pointer (some ⟨tb, 0, none⟩)) (by kernel_rfl) rfl rfl rfl rfl (by kernel_rfl) (fun w => by kernel_rfl)) (hA M)⟩, .inl ⟨rfl, fun k M W1 hC1 => (fun hA => ow_val hA (wants_at hA 16 false 80 rfl rfl (by kernel_rfl) rfl rfl (by kernel_rfl)) 88 (.pointer (some ⟨gx, 0, none⟩)) (by kernel_rfl) rfl rfl rfl rfl (by kernel_rfl) (fun w => by kernel_rfl)) (hA M)⟩, .inl ⟨rfl, fun k M W1 hC1 => (fun hA => ow_elem hA (wants_at hA 16 false 80 rfl rfl (by kernel_rfl) rfl rfl (by kernel_rfl)) 89 (.string (strOf A)) (by kernel_rfl) rfl rfl rfl rfl (by kernel_rfl) 9 ag_str (.tmp 88) rfl (⟨gx, 0, none⟩) (by kernel_rfl) (fun w1 hb => hC1.cell hb (KX.out w4 KP4.out 0 _ rfl) KG.out.1 KG.out.2)) (hA M)⟩, .inl ⟨rfl, fun k M W1 hC1 => (fun hA => ow_val hA (wants_at hA 16 false 80 rfl rfl (by kernel_rfl) rfl rfl (by kernel_rfl)) 90 (.pointer (some ⟨gx, 1, none⟩)) (by kernel_rfl) rfl rfl rfl rfl (by kernel_rfl) (fun w => by kernel_rfl)) (hA M)⟩, .inl ⟨rfl, fun k M W1 hC1 => (fun hA => ow_elem hA (wants_at hA 16 false 80 rfl rfl (by kernel_rfl) rfl rfl (by kernel_rfl)) 91 (.string (strOf B)) (by kernel_rfl) rfl rfl rfl rfl (by kernel_rfl) 9 ag_str (.tmp 90) rfl (⟨gx, 1, none⟩) (by kernel_rfl) (fun w1 hb => hC1.cell hb (KX.out w4 KP4.out 1 _ rfl) KG.out.1 KG.out.2)) (hA M)⟩, .inl ⟨rfl, fun k M W1 hC1 => (fun hA => ow_new3 hA (wants_at hA 16 false 80 rfl rfl (by kernel_rfl) rfl rfl (by kernel_rfl)) hC1 92 (.const (.string ⟨#[104, 97, 115, 104]⟩)) (.tmp 89) (.tmp 91) (hashW) (A) (B) rfl (by kernel_rfl) rfl (by kernel_rfl) (by kernel_rfl) (by kernel_rfl) rfl) (hA M)⟩, .inr ⟨2, rfl, ph_hash hA (fun M => (fun hA => (wants_at hA 16 false 80 rfl rfl (by kernel_rfl) rfl rfl (by kernel_rfl))) (hA M)) 93 (H) rfl rfl (by kernel_rfl) LN_turn 87 92 _ _ rfl rfl (by kernel_rfl) rfl (by kernel_rfl) (by kernel_rfl) ([hashW, A, B]) rfl (KY.out.1) (KY.out.2) (KL.out.2.2.1) (G6.out)⟩, .inl ⟨rfl, fun k M W1 hC1 => (fun hA => ow_val hA (wants_at hA 16 false 80 rfl rfl (by kernel_rfl) rfl rfl (by kernel_rfl)) 94 (.bool false) (by kernel_rfl) rfl rfl rfl rfl (by kernel_rfl) (fun w => run_sneq rfl (by kernel_rfl) (by kernel_rfl) YY.out.2.2.1 YY.out.2.2.1 (by simp) w)) (hA M)⟩, .inl ⟨rfl, fun k M W1 hC1 => (fun hA => ow_val hA (wants_none rfl) 95 (.bool false) (by kernel_rfl) rfl rfl rfl rfl (by kernel_rfl) (fun w => by kernel_rfl)) (hA M)⟩, .inl ⟨rfl, fun k M W1 hC1 => (fun hA => ow_val hA (wants_none rfl) 96 (.bool false) (by kernel_rfl) rfl rfl rfl rfl (by kernel_rfl) (fun w => by kernel_rfl)) (hA M)⟩, .inl ⟨rfl, fun k M W1 hC1 => (fun hA => ow_val hA (wants_at hA 32 false 96 rfl rfl (by kernel_rfl) rfl rfl (by kernel_rfl)) 97 (.iface 90 (.agg #[.pointer (some ⟨tb, 0, none⟩)])) (by kernel_rfl) rfl rfl rfl rfl (by kernel_rfl) (fun w => by kernel_rfl)) (hA M)⟩, .inl ⟨rfl, fun k M W1 hC1 => (fun hA => ow_val hA (wants_at hA 32 false 96 rfl rfl (by kernel_rfl) rfl rfl (by kernel_rfl)) 98 (.pointer (some ⟨gx, 0, none⟩)) (by kernel_rfl) rfl rfl rfl rfl (by kernel_rfl) (fun w => by kernel_rfl)) (hA M)⟩, .inl ⟨rfl, fun k M W1 hC1 => (fun hA => ow_elem hA (wants_at hA 32 false 96 rfl rfl (by kernel_rfl) rfl rfl (by kernel_rfl)) 99 (.string (strOf A)) (by kernel_rfl) rfl rfl rfl rfl (by kernel_rfl) 9 ag_str (.tmp 98) rfl (⟨gx, 0, none⟩) (by kernel_rfl) (fun w1 hb => hC1.cell hb (KX.out w4 KP4.out 0 _ rfl) KG.out.1 KG.out.2)) (hA M)⟩, .inl ⟨rfl, fun k M W1 hC1 => (fun hA => ow_val hA (wants_at hA 32 false 96 rfl rfl (by kernel_rfl) rfl rfl (by kernel_rfl)) 100 (.pointer (some ⟨gx, 2, none⟩)) (by kernel_rfl) rfl rfl rfl rfl (by kernel_rfl) (fun w => by kernel_rfl)) (hA M)⟩, .inl ⟨rfl, fun k M W1 hC1 => (fun hA => ow_elem hA (wants_at hA 32 false 96 rfl rfl (by kernel_rfl) rfl rfl (by kernel_rfl)) 101 (.int .u64 (N : Int)) (by kernel_rfl) rfl rfl rfl rfl (by kernel_rfl) 22 Tryz.isAgg22 (.tmp 100) rfl (⟨gx, 2, none⟩) (by kernel_rfl) (fun w1 hb => hC1.cell hb (KX.out w4 KP4.out 2 _ rfl) KG.out.1 KG.out.2)) (hA M)⟩, .inl ⟨rfl, fun k M W1 hC1 => (fun hA => ow_val hA (wants_at hA 32 false 96 rfl rfl (by kernel_rfl) rfl rfl (by kernel_rfl)) 102 (.pointer (some ⟨gx, 3, none⟩)) (by kernel_rfl) rfl rfl rfl rfl (by kernel_rfl) (fun w => by kernel_rfl)) (hA M)⟩, .inl ⟨rfl, fun k M W1 hC1 => (fun hA => ow_elem hA (wants_at hA 32 false 96 rfl rfl (by kernel_rfl) rfl rfl (by kernel_rfl)) 103 (.string (strOf C)) (by kernel_rfl) rfl rfl rfl rfl (by kernel_rfl) 9 ag_str (.tmp 102) rfl (⟨gx, 3, none⟩) (by kernel_rfl) (fun w1 hb => hC1.cell hb (KX.out w4 KP4.out 3 _ rfl) KG.out.1 KG.out.2)) (hA M)⟩, .inl ⟨rfl, fun k M W1 hC1 => (fun hA => ow_val hA (wants_at hA 32 false 96 rfl rfl (by kernel_rfl) rfl rfl (by kernel_rfl)) 104 (.pointer (some ⟨gx, 4, none⟩)) (by kernel_rfl) rfl rfl rfl rfl (by kernel_rfl) (fun w => by kernel_rfl)) (hA M)⟩, .inl ⟨rfl, fun k M W1 hC1 => (fun hA => ow_elem hA (wants_at hA 32 false 96 rfl rfl (by kernel_rfl) rfl rfl (by kernel_rfl)) 105 (.string (strOf T)) (by kernel_rfl) rfl rfl rfl rfl (by kernel_rfl) 9 ag_str (.tmp 104) rfl (⟨gx, 4, none⟩) (by kernel_rfl) (fun w1 hb => hC1.cell hb (KX.out w4 KP4.out 4 _ rfl) KG.out.1 KG.out.2)) (hA M)⟩, .inr ⟨3, rfl, ph_invoke hA (fun M => (fun hA => (wants_at hA 32 false 96 rfl rfl (by kernel_rfl) rfl rfl (by kernel_rfl))) (hA M)) 106 (.string (strOf X)) rfl rfl (by kernel_rfl) LN_turn (by kernel_rfl) (.tmp 97) "Seal" [.tmp 99, .tmp 101, .tmp 103, .tmp 105] _ 90 (.agg #[.pointer (some ⟨tb, 0, none⟩)]) 23 (.pointer (some ⟨tb, 0, none⟩)) Tryz.f23 _ [.string (strOf A), .int .u64 (N : Int), .string (strOf C), .string (strOf T)] rfl (by kernel_rfl) (by kernel_rfl) (fun w => by kernel_rfl) Tryz.func23 (by kernel_rfl) rfl (CSl.out _ _ _ _)⟩, .inl ⟨rfl, fun k M W1 hC1 => (fun hA => ow_val hA (wants_at hA 32 false 96 rfl rfl (by kernel_rfl) rfl rfl (by kernel_rfl)) 107 (.pointer (some ⟨tb, 0, none⟩)) (by kernel_rfl) rfl rfl rfl rfl (by kernel_rfl) (fun w => by kernel_rfl)) (hA M)⟩, .inl ⟨rfl, fun k M W1 hC1 => (fun hA => ow_val hA (wants_at hA 32 false 96 rfl rfl (by kernel_rfl) rfl rfl (by kernel_rfl)) 108 (.pointer (some ⟨gx, 0, none⟩)) (by kernel_rfl) rfl rfl rfl rfl (by kernel_rfl) (fun w => by kernel_rfl)) (hA M)⟩, .inl ⟨rfl, fun k M W1 hC1 => (fun hA => ow_elem hA (wants_at hA 32 false 96 rfl rfl (by kernel_rfl) rfl rfl (by kernel_rfl)) 109 (.string (strOf A)) (by kernel_rfl) rfl rfl rfl rfl (by kernel_rfl) 9 ag_str (.tmp 108) rfl (⟨gx, 0, none⟩) (by kernel_rfl) (fun w1 hb => hC1.cell hb (KX.out w4 KP4.out 0 _ rfl) KG.out.1 KG.out.2)) (hA M)⟩, .inl ⟨rfl, fun k M W1 hC1 => (fun hA => ow_val hA (wants_at hA 32 false 96 rfl rfl (by kernel_rfl) rfl rfl (by kernel_rfl)) 110 (.pointer (some ⟨gx, 2, none⟩)) (by kernel_rfl) rfl rfl rfl rfl (by kernel_rfl) (fun w => by kernel_rfl)) (hA M)⟩, .inl ⟨rfl, fun k M W1 hC1 => (fun hA => ow_elem hA (wants_at hA 32 false 96 rfl rfl (by kernel_rfl) rfl rfl (by kernel_rfl)) 111 (.int .u64 (N : Int)) (by kernel_rfl) rfl rfl rfl rfl (by kernel_rfl) 22 Tryz.isAgg22 (.tmp 110) rfl (⟨gx, 2, none⟩) (by kernel_rfl) (fun w1 hb => hC1.cell hb (KX.out w4 KP4.out 2 _ rfl) KG.out.1 KG.out.2)) (hA M)⟩, .inl ⟨rfl, fun k M W1 hC1 => (fun hA => ow_val hA (wants_at hA 32 false 96 rfl rfl (by kernel_rfl) rfl rfl (by kernel_rfl)) 112 (.pointer (some ⟨gx, 3, none⟩)) (by kernel_rfl) rfl rfl rfl rfl (by kernel_rfl) (fun w => by kernel_rfl)) (hA M)⟩, .inl ⟨rfl, fun k M W1 hC1 => (fun hA => ow_elem hA (wants_at hA 32 false 96 rfl rfl (by kernel_rfl) rfl rfl (by kernel_rfl)) 113 (.string (strOf C)) (by kernel_rfl) rfl rfl rfl rfl (by kernel_rfl) 9 ag_str (.tmp 112) rfl (⟨gx, 3, none⟩) (by kernel_rfl) (fun w1 hb => hC1.cell hb (KX.out w4 KP4.out 3 _ rfl) KG.out.1 KG.out.2)) (hA M)⟩, .inl ⟨rfl, fun k M W1 hC1 => (fun hA => ow_val hA (wants_at hA 32 false 96 rfl rfl (by kernel_rfl) rfl rfl (by kernel_rfl)) 114 (.pointer (some ⟨gx, 4, none⟩)) (by kernel_rfl) rfl rfl rfl rfl (by kernel_rfl) (fun w => by kernel_rfl)) (hA M)⟩, .inl ⟨rfl, fun k M W1 hC1 => (fun hA => ow_elem hA (wants_at hA 32 false 96 rfl rfl (by kernel_rfl) rfl rfl (by kernel_rfl)) 115 (.string (strOf T)) (by kernel_rfl) rfl rfl rfl rfl (by kernel_rfl) 9 ag_str (.tmp 114) rfl (⟨gx, 4, none⟩) (by kernel_rfl) (fun w1 hb => hC1.cell hb (KX.out w4 KP4.out 4 _ rfl) KG.out.1 KG.out.2)) (hA M)⟩, .inr ⟨4, rfl, ph_call hA (fun M => (fun hA => (wants_at hA 32 false 96 rfl rfl (by kernel_rfl) rfl rfl (by kernel_rfl))) (hA M)) 116 (.string (strOf X)) rfl rfl (by kernel_rfl) LN_turn (by kernel_rfl) 23 Tryz.f23 _ [.tmp 107, .tmp 109, .tmp 111, .tmp 113, .tmp 115] _ [.pointer (some ⟨tb, 0, none⟩), .string (strOf A), .int .u64 (N : Int), .string (strOf C), .string (strOf T)] rfl (by kernel_rfl) Tryz.func23 (by kernel_rfl) rfl (CSm.out _ _ _ _)⟩, .inl ⟨rfl, fun k M W1 hC1 => (fun hA => ow_val hA (wants_at hA 32 false 96 rfl rfl (by kernel_rfl) rfl rfl (by kernel_rfl)) 117 (.bool false) (by kernel_rfl) rfl rfl rfl rfl (by kernel_rfl) (fun w => run_sneq rfl (by kernel_rfl) (by kernel_rfl) YY.out.2.2.2 YY.out.2.2.2 (by simp) w)) (hA M)⟩, .inl ⟨rfl, fun k M W1 hC1 => (fun hA => ow_val hA (wants_none rfl) 118 (.bool false) (by kernel_rfl) rfl rfl rfl rfl (by kernel_rfl) (fun w => by kernel_rfl)) (hA M)⟩, trivial⟩) ?_
  intro fv M8 w8 hf hC8
  simp only [LN, putR, List.foldl_cons, List.foldl_nil, List.map_cons, List.map_nil, Act.put, List.setIfInBounds_toArray, List.set_cons_succ, List.set_cons_zero]
  refine wpList_nil ?_
  have KT8 : Kept (Tab tb B0 T4 M8 w8) := ⟨hC8.1⟩
  have Pt8 : Kept (Turn M0 w4 M8 w8) := ⟨hC8.2⟩
  clear hf hC8 KT7 Pt7
  go_wp2_with (first | ((with_reducible refine wv_elem (d := 122) ?hd ?hw 9 ag_str (.tmp 121) ?ho (⟨gx, 1, none⟩) ?hx (.string (strOf B)) ?hc ?_); (case hd => rfl); (case hw => kernel_rfl); (case ho => rfl); (case hx => kernel_rfl); (case hc => exact (Turn.cell (Pt8.out) (KX.out w4 KP4.out 1 _ rfl) KG.out.1 KG.out.2)); simp only [Act.put, List.setIfInBounds_toArray, List.set_cons_succ, List.set_cons_zero]))
  refine (PartsD KT8.out YB.out Kf.out.2.1 KL.out.2.2.2).mono ?_
  intro e w9 hpp
  cases hx : partX T4 B with
  | none =>
    rw [hx] at hpp
    obtain ⟨rfl, q9⟩ := hpp
    have KT9 : Kept (Tab tb B0 T4 M8 w9) := ⟨KT8.out.under q9⟩
    have Pt9 : Kept (Turn M0 w4 M8 w9) := ⟨Pt8.out.trans (Turn.of_below q9)⟩
    have GD : Kept (dhL T4 A B = (T4, [], false)) := ⟨dhL_no hx⟩
    clear q9 hx KT8 Pt8
    go_wp2_with (first | ((with_reducible refine wv_elem (d := 132) ?hd ?hw 9 ag_str (.tmp 131) ?ho (⟨gx, 0, none⟩) ?hx (.string (strOf A)) ?hc ?_); (case hd => rfl); (case hw => kernel_rfl); (case ho => rfl); (case hx => kernel_rfl); (case hc => exact (Turn.cell (Pt9.out) (KX.out w4 KP4.out 0 _ rfl) KG.out.1 KG.out.2)); simp only [Act.put, List.setIfInBounds_toArray, List.set_cons_succ, List.set_cons_zero]) | ((with_reducible refine wv_elem (d := 134) ?hd ?hw 9 ag_str (.tmp 133) ?ho (⟨gx, 1, none⟩) ?hx (.string (strOf B)) ?hc ?_); (case hd => rfl); (case hw => kernel_rfl); (case ho => rfl); (case hx => kernel_rfl); (case hc => exact (Turn.cell (Pt9.out) (KX.out w4 KP4.out 1 _ rfl) KG.out.1 KG.out.2)); simp only [Act.put, List.setIfInBounds_toArray, List.set_cons_succ, List.set_cons_zero]))
    refine (DhE KT9.out YA.out YB.out Kf.out.1 Kf.out.2.1 KL.out.2.2.2 GD.out).mono ?_
    rintro e w10 ⟨rfl, M10, hT10, ht10⟩
    have KTe : Kept (Tab tb B0 T4 M10 w10) := ⟨hT10⟩
    have Pte : Kept (Turn M0 w4 M10 w10) := ⟨Pt9.out.trans ht10⟩
    clear hT10 ht10 KT9 Pt9
    generalize w10 = we at *
    generalize M10 = Me at *
    rcases hz with hz1 | hz3
    · go_wp2_with (first | ((with_reducible refine wv_elem (d := 141) ?hd ?hw 9 ag_str (.tmp 140) ?ho (⟨gx, 0, none⟩) ?hx (.string (strOf A)) ?hc ?_); (case hd => rfl); (case hw => kernel_rfl); (case ho => rfl); (case hx => kernel_rfl); (case hc => exact (Turn.cell (Pte.out) (KX.out w4 KP4.out 0 _ rfl) KG.out.1 KG.out.2)); simp only [Act.put, List.setIfInBounds_toArray, List.set_cons_succ, List.set_cons_zero]) | ((with_reducible refine wv_elem (d := 143) ?hd ?hw 9 ag_str (.tmp 142) ?ho (⟨gx, 1, none⟩) ?hx (.string (strOf B)) ?hc ?_); (case hd => rfl); (case hw => kernel_rfl); (case ho => rfl); (case hx => kernel_rfl); (case hc => exact (Turn.cell (Pte.out) (KX.out w4 KP4.out 1 _ rfl) KG.out.1 KG.out.2)); simp only [Act.put, List.setIfInBounds_toArray, List.set_cons_succ, List.set_cons_zero]))
      refine (CKb.out _ _).mono ?_
      rintro e wf ⟨rfl, qf⟩
      have Qf : Kept (Below w0.heap.size w0 wf) := ⟨KP4.out.trans (((KT4.out.below (Pte.out.trans (Turn.of_below qf))).mono KB0.out))⟩
      clear qf
      go_wp2_with fail
      all_goals go_ret
      all_goals exact ⟨rfl, Q0.out.trans (Qf.out.mono Q0.out.size)⟩
    · have hz0 : ¬ z < 1 := by omega
      go_wp2_with (first | ((with_reducible refine wv_elem (d := 141) ?hd ?hw 9 ag_str (.tmp 140) ?ho (⟨gx, 0, none⟩) ?hx (.string (strOf A)) ?hc ?_); (case hd => rfl); (case hw => kernel_rfl); (case ho => rfl); (case hx => kernel_rfl); (case hc => exact (Turn.cell (Pte.out) (KX.out w4 KP4.out 0 _ rfl) KG.out.1 KG.out.2)); simp only [Act.put, List.setIfInBounds_toArray, List.set_cons_succ, List.set_cons_zero]) | ((with_reducible refine wv_elem (d := 143) ?hd ?hw 9 ag_str (.tmp 142) ?ho (⟨gx, 1, none⟩) ?hx (.string (strOf B)) ?hc ?_); (case hd => rfl); (case hw => kernel_rfl); (case ho => rfl); (case hx => kernel_rfl); (case hc => exact (Turn.cell (Pte.out) (KX.out w4 KP4.out 1 _ rfl) KG.out.1 KG.out.2)); simp only [Act.put, List.setIfInBounds_toArray, List.set_cons_succ, List.set_cons_zero]))
      refine (CKb.out _ _).mono ?_
      rintro e wf ⟨rfl, qf⟩
      have Qf : Kept (Below w0.heap.size w0 wf) := ⟨KP4.out.trans (((KT4.out.below (Pte.out.trans (Turn.of_below qf))).mono KB0.out))⟩
      clear qf
      go_wp2_with fail
      all_goals go_ret
      all_goals exact ⟨rfl, Q0.out.trans (Qf.out.mono Q0.out.size)⟩
  | some t =>
    rw [hx] at hpp
    obtain ⟨⟨Vp, rfl, _⟩, q9⟩ := hpp
    have KTe : Kept (Tab tb B0 T4 M8 w9) := ⟨KT8.out.under q9⟩
    have Pte : Kept (Turn M0 w4 M8 w9) := ⟨Pt8.out.trans (Turn.of_below q9)⟩
    clear q9 hx KT8 Pt8
    generalize w9 = we at *
    generalize M8 = Me at *
    rcases hz with hz1 | hz3
    · go_wp2_with (first | ((with_reducible refine wv_elem (d := 141) ?hd ?hw 9 ag_str (.tmp 140) ?ho (⟨gx, 0, none⟩) ?hx (.string (strOf A)) ?hc ?_); (case hd => rfl); (case hw => kernel_rfl); (case ho => rfl); (case hx => kernel_rfl); (case hc => exact (Turn.cell (Pte.out) (KX.out w4 KP4.out 0 _ rfl) KG.out.1 KG.out.2)); simp only [Act.put, List.setIfInBounds_toArray, List.set_cons_succ, List.set_cons_zero]) | ((with_reducible refine wv_elem (d := 143) ?hd ?hw 9 ag_str (.tmp 142) ?ho (⟨gx, 1, none⟩) ?hx (.string (strOf B)) ?hc ?_); (case hd => rfl); (case hw => kernel_rfl); (case ho => rfl); (case hx => kernel_rfl); (case hc => exact (Turn.cell (Pte.out) (KX.out w4 KP4.out 1 _ rfl) KG.out.1 KG.out.2)); simp only [Act.put, List.setIfInBounds_toArray, List.set_cons_succ, List.set_cons_zero]))
      refine (CKb.out _ _).mono ?_
      rintro e wf ⟨rfl, qf⟩
      have Qf : Kept (Below w0.heap.size w0 wf) := ⟨KP4.out.trans (((KT4.out.below (Pte.out.trans (Turn.of_below qf))).mono KB0.out))⟩
      clear qf
      go_wp2_with fail
      all_goals go_ret
      all_goals exact ⟨rfl, Q0.out.trans (Qf.out.mono Q0.out.size)⟩
    · have hz0 : ¬ z < 1 := by omega
      go_wp2_with (first | ((with_reducible refine wv_elem (d := 141) ?hd ?hw 9 ag_str (.tmp 140) ?ho (⟨gx, 0, none⟩) ?hx (.string (strOf A)) ?hc ?_); (case hd => rfl); (case hw => kernel_rfl); (case ho => rfl); (case hx => kernel_rfl); (case hc => exact (Turn.cell (Pte.out) (KX.out w4 KP4.out 0 _ rfl) KG.out.1 KG.out.2)); simp only [Act.put, List.setIfInBounds_toArray, List.set_cons_succ, List.set_cons_zero]) | ((with_reducible refine wv_elem (d := 143) ?hd ?hw 9 ag_str (.tmp 142) ?ho (⟨gx, 1, none⟩) ?hx (.string (strOf B)) ?hc ?_); (case hd => rfl); (case hw => kernel_rfl); (case ho => rfl); (case hx => kernel_rfl); (case hc => exact (Turn.cell (Pte.out) (KX.out w4 KP4.out 1 _ rfl) KG.out.1 KG.out.2)); simp only [Act.put, List.setIfInBounds_toArray, List.set_cons_succ, List.set_cons_zero]))
      refine (CKb.out _ _).mono ?_
      rintro e wf ⟨rfl, qf⟩
      have Qf : Kept (Below w0.heap.size w0 wf) := ⟨KP4.out.trans (((KT4.out.below (Pte.out.trans (Turn.of_below qf))).mono KB0.out))⟩
      clear qf
      go_wp2_with fail
      all_goals go_ret
      all_goals exact ⟨rfl, Q0.out.trans (Qf.out.mono Q0.out.size)⟩

set_option maxRecDepth 100000 in
set_option maxHeartbeats 8000000 in
theorem terms_good {A B C T : List Nat} {N : Nat} {w : World} (hA : Bytes A) (hB : Bytes B) (hC : Bytes C) (hT : Bytes T) (hN : N < 18446744073709551616) (hr : RootsAt w) {n : Nat} (hf : decide (Few A B C T) = true) (h1 : 1 ≤ n) (h3 : n ≤ 3) : Calls Tryz.prog 5 #[.agg #[.string (strOf A), .string (strOf B), .int .u64 (N : Int), .string (strOf C), .string (strOf T)], .int .i64 (n : Int)] w fun e w' => e = .returned (.bool true) ∧ Below w.heap.size w w' := by
  have YA : Kept _ := ⟨hA⟩
  have YB : Kept _ := ⟨hB⟩
  have YC : Kept _ := ⟨hC⟩
  have YT : Kept _ := ⟨hT⟩
  have KN : Kept _ := ⟨hN⟩
  have KF : Kept (Few A B C T) := ⟨of_decide_eq_true hf⟩
  have h8 : 4000 ≤ maxLen := by decide
  obtain ⟨T1, P, g1⟩ : ∃ T1 P, putL [] (2, [A]) = (T1, P) := ⟨_, _, rfl⟩
  obtain ⟨T2, D, fd, g2⟩ : ∃ T2 D fd, dhL T1 B P = (T2, D, fd) := ⟨_, _, _, rfl⟩
  obtain ⟨T3, H, g5⟩ : ∃ T3 H, putL T2 (4, [hashW, A, B]) = (T3, H) := ⟨_, _, rfl⟩
  obtain ⟨T4, X, g7⟩ : ∃ T4 X, putL T3 (5, [A, numL N, C, T]) = (T4, X) := ⟨_, _, rfl⟩
  have f1 : Fits ((2, [A]) : TermL).2 := fits_any (by simp) (by intro l hl; simp only [List.mem_cons, List.not_mem_nil, or_false] at hl; subst hl; have := KF.out.1; omega)
  have f4 : Fits ((4, [hashW, A, B]) : TermL).2 := fits_any (by simp) (by
    intro l hl
    have := KF.out
    simp only [List.mem_cons, List.not_mem_nil, or_false] at hl
    rcases hl with rfl | rfl | rfl
    · exact hashW_ok.2.1
    · have := this.1; omega
    · have := this.2.1; omega)
  have f5 : Fits ((5, [A, numL N, C, T]) : TermL).2 := fits_any (by simp) (by
    intro l hl
    have := KF.out
    have hJl := numL_len N
    simp only [List.mem_cons, List.not_mem_nil, or_false] at hl
    rcases hl with rfl | rfl | rfl | rfl
    · have := this.1; omega
    · omega
    · have := this.2.2.1; omega
    · have := this.2.2.2; omega)
  obtain ⟨l1, b1, ⟨g4, p2⟩, l2, b2⟩ := dh_again g1 f1 (fits_sort KF.out.2.1 KF.out.1) (by decide) g2
  have l0 : ([] : List TermL).length = 0 := rfl
  have l3 := putL_len T2 (4, [hashW, A, B])
  rw [g5] at l3
  have l4 := putL_len T3 (5, [A, numL N, C, T])
  rw [g7] at l4
  have G1 : Kept _ := ⟨g1⟩
  have G2 : Kept _ := ⟨g2⟩
  have G3 : Kept (putL T2 (2, [A]) = (T2, P)) := ⟨put_again g1 f1 p2⟩
  have G4 : Kept (dhL T2 B P = (T2, D, fd)) := ⟨g4⟩
  have G5 : Kept _ := ⟨g5⟩
  have G6 : Kept (putL T3 (4, [hashW, A, B]) = (T3, H)) := ⟨put_again g5 f4 (List.prefix_refl _)⟩
  have G7 : Kept _ := ⟨g7⟩
  have G8 : Kept (putL T4 (5, [A, numL N, C, T]) = (T4, X)) := ⟨put_again g7 f5 (List.prefix_refl _)⟩
  have KL : Kept (T1.length < 1000000 ∧ T2.length < 1000000 ∧ T3.length < 1000000 ∧ T4.length < 1000000) := ⟨by simp only at l3 l4; exact ⟨by omega, by omega, by omega, by omega⟩⟩
  have KL4 : Kept (T4.length < 100) := ⟨by simp only at l3 l4; omega⟩
  have YY : Kept (Bytes P ∧ Bytes D ∧ Bytes H ∧ Bytes X) := ⟨⟨b1, b2, by have := putL_bytes T2 (4, [hashW, A, B]); rwa [g5] at this, by have := putL_bytes T3 (5, [A, numL N, C, T]); rwa [g7] at this⟩⟩
  have lP : P.length ≤ maxLen := by have := putL_len32 [] (2, [A]); rw [g1] at this; simp only at this; omega
  have Kf : Kept (A.length ≤ maxLen ∧ B.length ≤ maxLen ∧ C.length ≤ maxLen ∧ T.length ≤ maxLen ∧ P.length ≤ maxLen) := ⟨by have := KF.out; exact ⟨by have := this.1; omega, by have := this.2.1; omega, by have := this.2.2.1; omega, by have := this.2.2.2; omega, lP⟩⟩
  have Kf4 : Kept (A.length ≤ 4000 ∧ B.length ≤ 4000) := ⟨by have := KF.out; exact ⟨by have := this.1; omega, by have := this.2.1; omega⟩⟩
  have KY : Kept ((∀ l ∈ [hashW, A, B], Bytes l) ∧ ∀ l ∈ [hashW, A, B], l.length ≤ maxLen) := ⟨by
    constructor
    · intro l hl
      simp only [List.mem_cons, List.not_mem_nil, or_false] at hl
      rcases hl with rfl | rfl | rfl
      · exact hashW_ok.1
      · exact hA
      · exact hB
    · intro l hl
      simp only [List.mem_cons, List.not_mem_nil, or_false] at hl
      rcases hl with rfl | rfl | rfl
      · exact hashW_ok.2.2
      · exact Kf.out.1
      · exact Kf.out.2.1⟩
  have CPub : Kept (∀ (tb B0 : Nat) (M0 : Nat → Prop) (W : World) (M : Nat → Prop) (w : World), CT tb B0 T2 M0 W M w → Calls Tryz.prog 21 [.pointer (some ⟨tb, 0, none⟩), .string (strOf A)].toArray w fun e w' => e = .returned (.string (strOf P)) ∧ ∃ M', CT tb B0 T2 M0 W M' w' ∧ Turn M w M' w') := ⟨fun tb B0 M0 W M w h => (PubE h.1 hA Kf.out.1 KL.out.2.1 G3.out rfl).mono fun e w' hh => ⟨hh.1, h.puts hh.2⟩⟩
  have CDh : Kept (∀ (tb B0 : Nat) (M0 : Nat → Prop) (W : World) (M : Nat → Prop) (w : World), CT tb B0 T2 M0 W M w → Calls Tryz.prog 20 [.pointer (some ⟨tb, 0, none⟩), .string (strOf B), .string (strOf P)].toArray w fun e w' => e = .returned (.tuple #[.string (strOf D), .bool fd]) ∧ ∃ M', CT tb B0 T2 M0 W M' w' ∧ Turn M w M' w') := ⟨fun tb B0 M0 W M w h => (DhE h.1 hB b1 Kf.out.2.1 lP KL.out.2.1 G4.out).mono fun e w' hh => ⟨hh.1, h.puts hh.2⟩⟩
  have CHs : Kept (∀ (tb B0 : Nat) (M0 : Nat → Prop) (W : World) (M : Nat → Prop) (w : World), CT tb B0 T2 M0 W M w → Calls Tryz.prog 173 (.agg #[.pointer (some ⟨tb, 0, none⟩)] :: [.string (strOf A), .string (strOf B)]).toArray w fun e w' => e = .returned (.string (strOf H)) ∧ ∃ M', CT tb B0 T3 M0 W M' w' ∧ Turn M w M' w') := ⟨fun tb B0 M0 W M w h => (HashT h.1 hA hB Kf.out.1 Kf.out.2.1 KL.out.2.1 G5.out).mono fun e w' hh => ⟨hh.1, h.puts hh.2⟩⟩
  have CSl : Kept (∀ (tb B0 : Nat) (M0 : Nat → Prop) (W : World) (M : Nat → Prop) (w : World), CT tb B0 T3 M0 W M w → Calls Tryz.prog 23 (.pointer (some ⟨tb, 0, none⟩) :: [.string (strOf A), .int .u64 (N : Int), .string (strOf C), .string (strOf T)]).toArray w fun e w' => e = .returned (.string (strOf X)) ∧ ∃ M', CT tb B0 T4 M0 W M' w' ∧ Turn M w M' w') := ⟨fun tb B0 M0 W M w h => (SealE h.1 hN hA hC hT Kf.out.1 Kf.out.2.2.1 Kf.out.2.2.2.1 KL.out.2.2.1 G7.out).mono fun e w' hh => ⟨hh.1, h.puts hh.2⟩⟩
  have CSm : Kept (∀ (tb B0 : Nat) (M0 : Nat → Prop) (W : World) (M : Nat → Prop) (w : World), CT tb B0 T4 M0 W M w → Calls Tryz.prog 23 [.pointer (some ⟨tb, 0, none⟩), .string (strOf A), .int .u64 (N : Int), .string (strOf C), .string (strOf T)].toArray w fun e w' => e = .returned (.string (strOf X)) ∧ ∃ M', CT tb B0 T4 M0 W M' w' ∧ Turn M w M' w') := ⟨fun tb B0 M0 W M w h => (SealE h.1 hN hA hC hT Kf.out.1 Kf.out.2.2.1 Kf.out.2.2.2.1 KL.out.2.2.2 G8.out).mono fun e w' hh => ⟨hh.1, h.puts hh.2⟩⟩
  clear l0 hA hB hC hT hN g1 g2 g4 g5 g7 f1 f4 f5 l1 l2 l3 l4 b1 b2 p2 lP h8
  have Kn : Kept (1 ≤ n ∧ n ≤ 3) := ⟨⟨h1, h3⟩⟩
  obtain ⟨TK, hTK⟩ : ∃ t, t = tsK T4 A B n := ⟨_, rfl⟩
  have KTK : Kept _ := ⟨hTK⟩
  clear h1 h3 hTK
  obtain ⟨gx, hgx⟩ : ∃ g, g = w.heap.size := ⟨_, rfl⟩
  obtain ⟨w0, hw0⟩ : ∃ v, v = w.alloc (.cells #[.string (strOf A), .string (strOf B), .int .u64 (N : Int), .string (strOf C), .string (strOf T)] 24) := ⟨_, rfl⟩
  have BX : Kept (Blk w0 gx 24 #[.string (strOf A), .string (strOf B), .int .u64 (N : Int), .string (strOf C), .string (strOf T)]) := ⟨by rw [hw0, hgx]; exact blk_new w _ _⟩
  have Q0 : Kept (Below w.heap.size w w0) := ⟨by rw [hw0]; exact (Below.refl _ _).alloc (Nat.le_refl _) _⟩
  have KX : Kept (∀ w', Below w0.heap.size w0 w' → ∀ (k : Nat) (v : Value), (#[.string (strOf A), .string (strOf B), .int .u64 (N : Int), .string (strOf C), .string (strOf T)] : Array Value)[k]? = some v → w'.cell? ⟨gx, k, none⟩ = some v) := ⟨fun w' hb k v hk => (BX.out.under hb).cell hk⟩
  have IX : Kept ((Tryz.prog.info? 24).map (·.size) = some (#[.string (strOf A), .string (strOf B), .int .u64 (N : Int), .string (strOf C), .string (strOf T)] : Array Value).size) := ⟨by kernel_rfl⟩
  have KR : Kept (RootsAt w0) := ⟨hr.under Q0.out⟩
  have CF : Kept (∀ w, Calls Tryz.prog 10 #[.agg #[.string (strOf A), .string (strOf B), .int .u64 (N : Int), .string (strOf C), .string (strOf T)]] w fun e w' => e = .returned (.bool true) ∧ Below w.heap.size w w') := ⟨fun w => by
    have h9 := few11 (A := A) (B := B) (C := C) (T := T) (N := N) (w := w)
    rw [show decide (Few A B C T) = true from hf] at h9
    exact h9⟩
  have Kw0 : Kept _ := ⟨hw0⟩
  have Kgx : Kept _ := ⟨hgx⟩
  clear hw0 hgx hr hf
  go_enter Tryz.func5, Tryz.ntmps5
  go_wp2_with fail
  rw [← Kw0.out, ← Kgx.out]
  refine (alive11 KR.out).mono ?_
  rintro e w1 ⟨rfl, q1⟩
  have KP1 : Kept _ := ⟨q1⟩
  clear q1
  go_wp2_with fail
  refine NewD.mono ?_
  rintro e w2 ⟨⟨tb, M0, rfl, hT2⟩, q2⟩
  obtain ⟨B0, hB0⟩ : ∃ b, b = w1.heap.size := ⟨_, rfl⟩
  rw [← hB0] at hT2
  have KB0 : Kept (w0.heap.size ≤ B0) := ⟨by rw [hB0]; exact KP1.out.size⟩
  have KT2 : Kept (Tab tb B0 [] M0 w2) := ⟨hT2⟩
  have KP2 : Kept _ := ⟨KP1.out.trans (q2.mono KP1.out.size)⟩
  clear q2 KP1 hT2 hB0
  go_wp2_with fail
  refine SymbolD.mono ?_
  rintro e w3 ⟨rfl, q3⟩
  have KT3 : Kept (Tab tb B0 [] M0 w3) := ⟨KT2.out.under q3⟩
  have KP3 : Kept _ := ⟨KP2.out.trans (q3.mono KP2.out.size)⟩
  clear q3 KP2 KT2
  go_wp2_with (first | ((with_reducible refine wv_rowS (d := 31) ?hd ?hw 24 (.tmp 2) ?ho (gx) ?hx (t' := 24) (#[.string (strOf A), .string (strOf B), .int .u64 (N : Int), .string (strOf C), .string (strOf T)]) _ Tryz.underlying24 ?hs ?hg ?_); (case hd => rfl); (case hw => kernel_rfl); (case ho => rfl); (case hx => kernel_rfl); (case hs => exact IX.out); (case hg => exact (BX.out.under KP3.out)); simp only [Act.put, List.setIfInBounds_toArray, List.set_cons_succ, List.set_cons_zero]))
  refine (CF.out _).mono ?_
  rintro e w4 ⟨rfl, q4⟩
  have KP4 : Kept (Below w0.heap.size w0 w4) := ⟨KP3.out.trans (q4.mono KP3.out.size)⟩
  have KT4 : Kept (Tab tb B0 [] M0 w4) := ⟨KT3.out.under q4⟩
  clear q4 KP3 KT3
  have KG : Kept (gx < w4.heap.size ∧ ¬ M0 gx) := ⟨⟨(BX.out.under KP4.out).lt, fun hM => by have := (KT4.out.range hM).1; have := BX.out.lt; have := KB0.out; omega⟩⟩
  go_wp2_with (first | ((with_reducible refine wv_elem (d := 43) ?hd ?hw 9 ag_str (.tmp 42) ?ho (⟨gx, 0, none⟩) ?hx (.string (strOf A)) ?hc ?_); (case hd => rfl); (case hw => kernel_rfl); (case ho => rfl); (case hx => kernel_rfl); (case hc => exact KX.out _ (KP4.out) 0 _ rfl); simp only [Act.put, List.setIfInBounds_toArray, List.set_cons_succ, List.set_cons_zero]))
  refine (PubE KT4.out YA.out Kf.out.1 (by decide) G1.out rfl).mono ?_
  rintro e w5 ⟨rfl, M5, hT5, ht5⟩
  have KT5 : Kept _ := ⟨hT5⟩
  have Pt5 : Kept (Turn M0 w4 M5 w5) := ⟨ht5⟩
  clear hT5 ht5
  go_wp2_with (first | ((with_reducible refine wv_elem (d := 48) ?hd ?hw 9 ag_str (.tmp 47) ?ho (⟨gx, 1, none⟩) ?hx (.string (strOf B)) ?hc ?_); (case hd => rfl); (case hw => kernel_rfl); (case ho => rfl); (case hx => kernel_rfl); (case hc => exact (Turn.cell (Pt5.out) (KX.out w4 KP4.out 1 _ rfl) KG.out.1 KG.out.2)); simp only [Act.put, List.setIfInBounds_toArray, List.set_cons_succ, List.set_cons_zero]))
  refine (DhE KT5.out YB.out YY.out.1 Kf.out.2.1 Kf.out.2.2.2.2 KL.out.1 G2.out).mono ?_
  rintro e w6 ⟨rfl, M6, hT6, ht6⟩
  have KT6 : Kept _ := ⟨hT6⟩
  have Pt6 : Kept (Turn M0 w4 M6 w6) := ⟨Pt5.out.trans ht6⟩
  clear hT6 ht6 KT5 Pt5
  go_wp2_with fail
  refine region_phaseL (G := Nat → Prop) 13 [6, 7] [(54, .pointer (some ⟨tb, 0, none⟩)), (55, .pointer (some ⟨gx, 1, none⟩)), (56, .string (strOf B)), (57, .pointer (some ⟨tb, 0, none⟩)), (58, .pointer (some ⟨gx, 0, none⟩)), (59, .string (strOf A)), (60, .string (strOf P)), (61, .tuple #[.string (strOf D), .bool fd]), (53, .tuple #[.string (strOf D), .bool fd]), (62, .string (strOf D)), (63, .bool fd), (10, .string (strOf D)), (11, .bool fd)] (LN []) (fun k => CT tb B0 (([T2, T2, T2] : List (List TermL)).getD k []) M0 w4) rfl (by kernel_rfl) (by kernel_rfl) (by kernel_rfl) (by kernel_rfl) (by kernel_rfl) (by kernel_rfl) (by kernel_rfl) (by kernel_rfl) (by kernel_rfl) (by kernel_rfl) LN_under (fun k g w w' h hb => CT.under h hb) M6 ⟨KT6.out, Pt6.out⟩ (fun hA => ⟨.inl ⟨rfl, fun k M W1 hC1 => (fun hA => ow_val hA (wants_none rfl) 54 (.pointer (some ⟨tb, 0, none⟩)) (by kernel_rfl) rfl rfl rfl rfl (by kernel_rfl) (fun w => by kernel_rfl)) (hA M)⟩, .inl ⟨rfl, fun k M W1 hC1 => (fun hA => ow_val hA (wants_none rfl) 55 (.pointer (some ⟨gx, 1, none⟩)) (by kernel_rfl) rfl rfl rfl rfl (by kernel_rfl) (fun w => by kernel_rfl)) (hA M)⟩, .inl ⟨rfl, fun k M W1 hC1 => (fun hA => ow_elem hA (wants_none rfl) 56 (.string (strOf B)) (by kernel_rfl) rfl rfl rfl rfl (by kernel_rfl) 9 ag_str (.tmp 55) rfl (⟨gx, 1, none⟩) (by kernel_rfl) (fun w1 hb => hC1.cell hb (KX.out w4 KP4.out 1 _ rfl) KG.out.1 KG.out.2)) (hA M)⟩, .inl ⟨rfl, fun k M W1 hC1 => (fun hA => ow_val hA (wants_none rfl) 57 (.pointer (some ⟨tb, 0, none⟩)) (by kernel_rfl) rfl rfl rfl rfl (by kernel_rfl) (fun w => by kernel_rfl)) (hA M)⟩, .inl ⟨rfl, fun k M W1 hC1 => (fun hA => ow_val hA (wants_none rfl) 58 (.pointer (some ⟨gx, 0, none⟩)) (by kernel_rfl) rfl rfl rfl rfl (by kernel_rfl) (fun w => by kernel_rfl)) (hA M)⟩, .inl ⟨rfl, fun k M W1 hC1 => (fun hA => ow_elem hA (wants_none rfl) 59 (.string (strOf A)) (by kernel_rfl) rfl rfl rfl rfl (by kernel_rfl) 9 ag_str (.tmp 58) rfl (⟨gx, 0, none⟩) (by kernel_rfl) (fun w1 hb => hC1.cell hb (KX.out w4 KP4.out 0 _ rfl) KG.out.1 KG.out.2)) (hA M)⟩, .inr ⟨0, rfl, ph_call hA (fun M => (fun hA => (wants_none rfl)) (hA M)) 60 (.string (strOf P)) rfl rfl (by kernel_rfl) LN_turn (by kernel_rfl) 21 Tryz.f21 _ [.tmp 57, .tmp 59] _ [.pointer (some ⟨tb, 0, none⟩), .string (strOf A)] rfl (by kernel_rfl) Tryz.func21 (by kernel_rfl) rfl (CPub.out _ _ _ _)⟩, .inr ⟨1, rfl, ph_call hA (fun M => (fun hA => (wants_none rfl)) (hA M)) 61 (.tuple #[.string (strOf D), .bool fd]) rfl rfl (by kernel_rfl) LN_turn (by kernel_rfl) 20 Tryz.f20 _ [.tmp 54, .tmp 56, .tmp 60] _ [.pointer (some ⟨tb, 0, none⟩), .string (strOf B), .string (strOf P)] rfl (by kernel_rfl) Tryz.func20 (by kernel_rfl) rfl (CDh.out _ _ _ _)⟩, .inl ⟨rfl, fun k M W1 hC1 => (fun hA => ow_val hA (wants_none rfl) 53 (.tuple #[.string (strOf D), .bool fd]) (by kernel_rfl) rfl rfl rfl rfl (by kernel_rfl) (fun w => by kernel_rfl)) (hA M)⟩, .inl ⟨rfl, fun k M W1 hC1 => (fun hA => ow_val hA (wants_none rfl) 62 (.string (strOf D)) (by kernel_rfl) rfl rfl rfl rfl (by kernel_rfl) (fun w => by kernel_rfl)) (hA M)⟩, .inl ⟨rfl, fun k M W1 hC1 => (fun hA => ow_val hA (wants_none rfl) 63 (.bool fd) (by kernel_rfl) rfl rfl rfl rfl (by kernel_rfl) (fun w => by kernel_rfl)) (hA M)⟩, .inl ⟨rfl, fun k M W1 hC1 => (fun hA => ow_val hA (wants_none rfl) 10 (.string (strOf D)) (by kernel_rfl) rfl rfl rfl rfl (by kernel_rfl) (fun w => by kernel_rfl)) (hA M)⟩, .inl ⟨rfl, fun k M W1 hC1 => (fun hA => ow_val hA (wants_none rfl) 11 (.bool fd) (by kernel_rfl) rfl rfl rfl rfl (by kernel_rfl) (fun w => by kernel_rfl)) (hA M)⟩, trivial⟩) ?_
  intro fv M7 w7 hf hC7
  simp only [LN, putR, List.foldl_cons, List.foldl_nil, List.map_cons, List.map_nil, Act.put, List.setIfInBounds_toArray, List.set_cons_succ, List.set_cons_zero]
  refine wpList_nil ?_
  have KT7 : Kept (Tab tb B0 T2 M7 w7) := ⟨hC7.1⟩
  have Pt7 : Kept (Turn M0 w4 M7 w7) := ⟨hC7.2⟩
  clear hf hC7 KT6 Pt6
  go_wp2_with fail
  refine region_phaseL (G := Nat → Prop) 55 [4, 22, 29, 42, 52] [(64, .string (strOf P)), (65, .pointer (some ⟨tb, 0, none⟩)), (66, .pointer (some ⟨gx, 0, none⟩)), (67, .string (strOf A)), (68, .string (strOf P)), (69, .bool false), (70, .bool false), (71, .string (strOf D)), (72, .string (strOf D)), (73, .bool false), (74, .bool false), (75, .bool false), (76, .bool fd), (77, .bool fd), (78, .bool false), (79, .bool false), (80, .bool false), (81, .iface 90 (.agg #[.pointer (some ⟨tb, 0, none⟩)])), (82, .pointer (some ⟨gx, 0, none⟩)), (83, .string (strOf A)), (84, .pointer (some ⟨gx, 1, none⟩)), (85, .string (strOf B)), (86, .string (strOf H)), (87, .pointer (some ⟨tb, 0, none⟩)), (88, .pointer (some ⟨gx, 0, none⟩)), (89, .string (strOf A)), (90, .pointer (some ⟨gx, 1, none⟩)), (91, .string (strOf B)), (93, .string (strOf H)), (94, .bool false), (95, .bool false), (96, .bool false), (97, .iface 90 (.agg #[.pointer (some ⟨tb, 0, none⟩)])), (98, .pointer (some ⟨gx, 0, none⟩)), (99, .string (strOf A)), (100, .pointer (some ⟨gx, 2, none⟩)), (101, .int .u64 (N : Int)), (102, .pointer (some ⟨gx, 3, none⟩)), (103, .string (strOf C)), (104, .pointer (some ⟨gx, 4, none⟩)), (105, .string (strOf T)), (106, .string (strOf X)), (107, .pointer (some ⟨tb, 0, none⟩)), (108, .pointer (some ⟨gx, 0, none⟩)), (109, .string (strOf A)), (110, .pointer (some ⟨gx, 2, none⟩)), (111, .int .u64 (N : Int)), (112, .pointer (some ⟨gx, 3, none⟩)), (113, .string (strOf C)), (114, .pointer (some ⟨gx, 4, none⟩)), (115, .string (strOf T)), (116, .string (strOf X)), (117, .bool false), (118, .bool false)] (LN [(92, [hashW, A, B])]) (fun k => CT tb B0 (([T2, T2, T3, T3, T4, T4] : List (List TermL)).getD k []) M0 w4) rfl (by kernel_rfl) (by kernel_rfl) (by kernel_rfl) (by kernel_rfl) (by kernel_rfl) (by kernel_rfl) (by kernel_rfl) (by kernel_rfl) (by kernel_rfl) (by kernel_rfl) LN_under (fun k g w w' h hb => CT.under h hb) M7 ⟨KT7.out, Pt7.out⟩ (fun hA => ⟨.inl ⟨rfl, fun k M W1 hC1 => (fun hA => ow_val hA (wants_none rfl) 64 (.string (strOf P)) (by kernel_rfl) rfl rfl rfl rfl (by kernel_rfl) (fun w => by kernel_rfl)) (hA M)⟩, .inl ⟨rfl, fun k M W1 hC1 => (fun hA => ow_val hA (wants_none rfl) 65 (.pointer (some ⟨tb, 0, none⟩)) (by kernel_rfl) rfl rfl rfl rfl (by kernel_rfl) (fun w => by kernel_rfl)) (hA M)⟩, .inl ⟨rfl, fun k M W1 hC1 => (fun hA => ow_val hA (wants_none rfl) 66 (.pointer (some ⟨gx, 0, none⟩)) (by kernel_rfl) rfl rfl rfl rfl (by kernel_rfl) (fun w => by kernel_rfl)) (hA M)⟩, .inl ⟨rfl, fun k M W1 hC1 => (fun hA => ow_elem hA (wants_none rfl) 67 (.string (strOf A)) (by kernel_rfl) rfl rfl rfl rfl (by kernel_rfl) 9 ag_str (.tmp 66) rfl (⟨gx, 0, none⟩) (by kernel_rfl) (fun w1 hb => hC1.cell hb (KX.out w4 KP4.out 0 _ rfl) KG.out.1 KG.out.2)) (hA M)⟩, .inr ⟨0, rfl, ph_call hA (fun M => (fun hA => (wants_none rfl)) (hA M)) 68 (.string (strOf P)) rfl rfl (by kernel_rfl) LN_turn (by kernel_rfl) 21 Tryz.f21 _ [.tmp 65, .tmp 67] _ [.pointer (some ⟨tb, 0, none⟩), .string (strOf A)] rfl (by kernel_rfl) Tryz.func21 (by kernel_rfl) rfl (CPub.out _ _ _ _)⟩, .inl ⟨rfl, fun k M W1 hC1 => (fun hA => ow_val hA (wants_none rfl) 69 (.bool false) (by kernel_rfl) rfl rfl rfl rfl (by kernel_rfl) (fun w => run_sneq rfl (by kernel_rfl) (by kernel_rfl) YY.out.1 YY.out.1 (by simp) w)) (hA M)⟩, .inl ⟨rfl, fun k M W1 hC1 => (fun hA => ow_val hA (wants_none rfl) 70 (.bool false) (by kernel_rfl) rfl rfl rfl rfl (by kernel_rfl) (fun w => by kernel_rfl)) (hA M)⟩, .inl ⟨rfl, fun k M W1 hC1 => (fun hA => ow_val hA (wants_at hA 6 false 70 rfl rfl (by kernel_rfl) rfl rfl (by kernel_rfl)) 71 (.string (strOf D)) (by kernel_rfl) rfl rfl rfl rfl (by kernel_rfl) (fun w => by kernel_rfl)) (hA M)⟩, .inl ⟨rfl, fun k M W1 hC1 => (fun hA => ow_val hA (wants_at hA 6 false 70 rfl rfl (by kernel_rfl) rfl rfl (by kernel_rfl)) 72 (.string (strOf D)) (by kernel_rfl) rfl rfl rfl rfl (by kernel_rfl) (fun w => by kernel_rfl)) (hA M)⟩, .inl ⟨rfl, fun k M W1 hC1 => (fun hA => ow_val hA (wants_at hA 6 false 70 rfl rfl (by kernel_rfl) rfl rfl (by kernel_rfl)) 73 (.bool false) (by kernel_rfl) rfl rfl rfl rfl (by kernel_rfl) (fun w => run_sneq rfl (by kernel_rfl) (by kernel_rfl) YY.out.2.1 YY.out.2.1 (by simp) w)) (hA M)⟩, .inl ⟨rfl, fun k M W1 hC1 => (fun hA => ow_val hA (wants_none rfl) 74 (.bool false) (by kernel_rfl) rfl rfl rfl rfl (by kernel_rfl) (fun w => by kernel_rfl)) (hA M)⟩, .inl ⟨rfl, fun k M W1 hC1 => (fun hA => ow_val hA (wants_none rfl) 75 (.bool false) (by kernel_rfl) rfl rfl rfl rfl (by kernel_rfl) (fun w => by kernel_rfl)) (hA M)⟩, .inl ⟨rfl, fun k M W1 hC1 => (fun hA => ow_val hA (wants_at hA 11 false 75 rfl rfl (by kernel_rfl) rfl rfl (by kernel_rfl)) 76 (.bool fd) (by kernel_rfl) rfl rfl rfl rfl (by kernel_rfl) (fun w => by kernel_rfl)) (hA M)⟩, .inl ⟨rfl, fun k M W1 hC1 => (fun hA => ow_val hA (wants_at hA 11 false 75 rfl rfl (by kernel_rfl) rfl rfl (by kernel_rfl)) 77 (.bool fd) (by kernel_rfl) rfl rfl rfl rfl (by kernel_rfl) (fun w => by kernel_rfl)) (hA M)⟩, .inl ⟨rfl, fun k M W1 hC1 => (fun hA => ow_val hA (wants_at hA 11 false 75 rfl rfl (by kernel_rfl) rfl rfl (by kernel_rfl)) 78 (.bool false) (by kernel_rfl) rfl rfl rfl rfl (by kernel_rfl) (fun w => run_neB (b := fd) (c := fd) rfl (by kernel_rfl) (by kernel_rfl) (by simp) w)) (hA M)⟩, .inl ⟨rfl, fun k M W1 hC1 => (fun hA => ow_val hA (wants_none rfl) 79 (.bool false) (by kernel_rfl) rfl rfl rfl rfl (by kernel_rfl) (fun w => by kernel_rfl)) (hA M)⟩, .inl ⟨rfl, fun k M W1 hC1 => (fun hA => ow_val hA (wants_none rfl) 80 (.bool false) (by kernel_rfl) rfl rfl rfl rfl (by kernel_rfl) (fun w => by kernel_rfl)) (hA M)⟩, .inl ⟨rfl, fun k M W1 hC1 => (fun hA => ow_val hA (wants_at hA 16 false 80 rfl rfl (by kernel_rfl) rfl rfl (by kernel_rfl)) 81 (.iface 90 (.agg #[.pointer (some ⟨tb, 0, none⟩)])) (by kernel_rfl) rfl rfl rfl rfl (by kernel_rfl) (fun w => by kernel_rfl)) (hA M)⟩, .inl ⟨rfl, fun k M W1 hC1 => (fun hA => ow_val hA (wants_at hA 16 false 80 rfl rfl (by kernel_rfl) rfl rfl (by kernel_rfl)) 82 (.pointer (some ⟨gx, 0, none⟩)) (by kernel_rfl) rfl rfl rfl rfl (by kernel_rfl) (fun w => by kernel_rfl)) (hA M)⟩, .inl ⟨rfl, fun k M W1 hC1 => (fun hA => ow_elem hA (wants_at hA 16 false 80 rfl rfl (by kernel_rfl) rfl rfl (by kernel_rfl)) 83 (.string (strOf A)) (by kernel_rfl) rfl rfl rfl rfl (by kernel_rfl) 9 ag_str (.tmp 82) rfl (⟨gx, 0, none⟩) (by kernel_rfl) (fun w1 hb => hC1.cell hb (KX.out w4 KP4.out 0 _ rfl) KG.out.1 KG.out.2)) (hA M)⟩, .inl ⟨rfl, fun k M W1 hC1 => (fun hA => ow_val hA (wants_at hA 16 false 80 rfl rfl (by kernel_rfl) rfl rfl (by kernel_rfl)) 84 (.pointer (some ⟨gx, 1, none⟩)) (by kernel_rfl) rfl rfl rfl rfl (by kernel_rfl) (fun w => by kernel_rfl)) (hA M)⟩, .inl ⟨rfl, fun k M W1 hC1 => (fun hA => ow_elem hA (wants_at hA 16 false 80 rfl rfl (by kernel_rfl) rfl rfl (by kernel_rfl)) 85 (.string (strOf B)) (by kernel_rfl) rfl rfl rfl rfl (by kernel_rfl) 9 ag_str (.tmp 84) rfl (⟨gx, 1, none⟩) (by kernel_rfl) (fun w1 hb => hC1.cell hb (KX.out w4 KP4.out 1 _ rfl) KG.out.1 KG.out.2)) (hA M)⟩, .inr ⟨1, rfl, ph_invoke hA (fun M => (fun hA => (wants_at hA 16 false 80 rfl rfl (by kernel_rfl) rfl rfl (by kernel_rfl))) (hA M)) 86 (.string (strOf H)) rfl rfl (by kernel_rfl) LN_turn (by kernel_rfl) (.tmp 81) "Hash" [.tmp 83, .tmp 85] _ 90 (.agg #[.pointer (some ⟨tb, 0, none⟩)]) 173 (.agg #[.pointer (some ⟨tb, 0, none⟩)]) Tryz.f173 _ [.string (strOf A), .string (strOf B)] rfl (by kernel_rfl) (by kernel_rfl) (fun w => by kernel_rfl) Tryz.func173 (by kernel_rfl) rfl (CHs.out _ _ _ _)⟩, .inl ⟨rfl, fun k M W1 hC1 => (fun hA => ow_val hA (wants_at hA 16 false 80 rfl rfl (by kernel_rfl) rfl rfl (by kernel_rfl)) 87 (.pointer (some ⟨tb, 0, none⟩)) (by kernel_rfl) rfl rfl rfl rfl (by kernel_rfl) (fun w => by kernel_rfl)) (hA M)⟩, .inl ⟨rfl, fun k M W1 hC1 => (fun hA => ow_val hA (wants_at hA 16 false 80 rfl rfl (by kernel_rfl) rfl rfl (by kernel_rfl)) 88 (.pointer (some ⟨gx, 0, none⟩)) (by kernel_rfl) rfl rfl rfl rfl (by kernel_rfl) (fun w => by kernel_rfl)) (hA M)⟩, .inl ⟨rfl, fun k M W1 hC1 => (fun hA => ow_elem hA (wants_at hA 16 false 80 rfl rfl (by kernel_rfl) rfl rfl (by kernel_rfl)) 89 (.string (strOf A)) (by kernel_rfl) rfl rfl rfl rfl (by kernel_rfl) 9 ag_str (.tmp 88) rfl (⟨gx, 0, none⟩) (by kernel_rfl) (fun w1 hb => hC1.cell hb (KX.out w4 KP4.out 0 _ rfl) KG.out.1 KG.out.2)) (hA M)⟩, .inl ⟨rfl, fun k M W1 hC1 => (fun hA => ow_val hA (wants_at hA 16 false 80 rfl rfl (by kernel_rfl) rfl rfl (by kernel_rfl)) 90 (.pointer (some ⟨gx, 1, none⟩)) (by kernel_rfl) rfl rfl rfl rfl (by kernel_rfl) (fun w => by kernel_rfl)) (hA M)⟩, .inl ⟨rfl, fun k M W1 hC1 => (fun hA => ow_elem hA (wants_at hA 16 false 80 rfl rfl (by kernel_rfl) rfl rfl (by kernel_rfl)) 91 (.string (strOf B)) (by kernel_rfl) rfl rfl rfl rfl (by kernel_rfl) 9 ag_str (.tmp 90) rfl (⟨gx, 1, none⟩) (by kernel_rfl) (fun w1 hb => hC1.cell hb (KX.out w4 KP4.out 1 _ rfl) KG.out.1 KG.out.2)) (hA M)⟩, .inl ⟨rfl, fun k M W1 hC1 => (fun hA => ow_new3 hA (wants_at hA 16 false 80 rfl rfl (by kernel_rfl) rfl rfl (by kernel_rfl)) hC1 92 (.const (.string ⟨#[104, 97, 115, 104]⟩)) (.tmp 89) (.tmp 91) (hashW) (A) (B) rfl (by kernel_rfl) rfl (by kernel_rfl) (by kernel_rfl) (by kernel_rfl) rfl) (hA M)⟩, .inr ⟨2, rfl, ph_hash hA (fun M => (fun hA => (wants_at hA 16 false 80 rfl rfl (by kernel_rfl) rfl rfl (by kernel_rfl))) (hA M)) 93 (H) rfl rfl (by kernel_rfl) LN_turn 87 92 _ _ rfl rfl (by kernel_rfl) rfl (by kernel_rfl) (by kernel_rfl) ([hashW, A, B]) rfl (KY.out.1) (KY.out.2) (KL.out.2.2.1) (G6.out)⟩, .inl ⟨rfl, fun k M W1 hC1 => (fun hA => ow_val hA (wants_at hA 16 false 80 rfl rfl (by kernel_rfl) rfl rfl (by kernel_rfl)) 94 (.bool false) (by kernel_rfl) rfl rfl rfl rfl (by kernel_rfl) (fun w => run_sneq rfl (by kernel_rfl) (by kernel_rfl) YY.out.2.2.1 YY.out.2.2.1 (by simp) w)) (hA M)⟩, .inl ⟨rfl, fun k M W1 hC1 => (fun hA => ow_val hA (wants_none rfl) 95 (.bool false) (by kernel_rfl) rfl rfl rfl rfl (by kernel_rfl) (fun w => by kernel_rfl)) (hA M)⟩, .inl ⟨rfl, fun k M W1 hC1 => (fun hA => ow_val hA (wants_none rfl) 96 (.bool false) (by kernel_rfl) rfl rfl rfl rfl (by kernel_rfl) (fun w => by kernel_rfl)) (hA M)⟩, .inl ⟨rfl, fun k M W1 hC1 => (fun hA => ow_val hA (wants_at hA 32 false 96 rfl rfl (by kernel_rfl) rfl rfl (by kernel_rfl)) 97 (.iface 90 (.agg #[.pointer (some ⟨tb, 0, none⟩)])) (by kernel_rfl) rfl rfl rfl rfl (by kernel_rfl) (fun w => by kernel_rfl)) (hA M)⟩, .inl ⟨rfl, fun k M W1 hC1 => (fun hA => ow_val hA (wants_at hA 32 false 96 rfl rfl (by kernel_rfl) rfl rfl (by kernel_rfl)) 98 (.pointer (some ⟨gx, 0, none⟩)) (by kernel_rfl) rfl rfl rfl rfl (by kernel_rfl) (fun w => by kernel_rfl)) (hA M)⟩, .inl ⟨rfl, fun k M W1 hC1 => (fun hA => ow_elem hA (wants_at hA 32 false 96 rfl rfl (by kernel_rfl) rfl rfl (by kernel_rfl)) 99 (.string (strOf A)) (by kernel_rfl) rfl rfl rfl rfl (by kernel_rfl) 9 ag_str (.tmp 98) rfl (⟨gx, 0, none⟩) (by kernel_rfl) (fun w1 hb => hC1.cell hb (KX.out w4 KP4.out 0 _ rfl) KG.out.1 KG.out.2)) (hA M)⟩, .inl ⟨rfl, fun k M W1 hC1 => (fun hA => ow_val hA (wants_at hA 32 false 96 rfl rfl (by kernel_rfl) rfl rfl (by kernel_rfl)) 100 (.pointer (some ⟨gx, 2, none⟩)) (by kernel_rfl) rfl rfl rfl rfl (by kernel_rfl) (fun w => by kernel_rfl)) (hA M)⟩, .inl ⟨rfl, fun k M W1 hC1 => (fun hA => ow_elem hA (wants_at hA 32 false 96 rfl rfl (by kernel_rfl) rfl rfl (by kernel_rfl)) 101 (.int .u64 (N : Int)) (by kernel_rfl) rfl rfl rfl rfl (by kernel_rfl) 22 Tryz.isAgg22 (.tmp 100) rfl (⟨gx, 2, none⟩) (by kernel_rfl) (fun w1 hb => hC1.cell hb (KX.out w4 KP4.out 2 _ rfl) KG.out.1 KG.out.2)) (hA M)⟩, .inl ⟨rfl, fun k M W1 hC1 => (fun hA => ow_val hA (wants_at hA 32 false 96 rfl rfl (by kernel_rfl) rfl rfl (by kernel_rfl)) 102 (.pointer (some ⟨gx, 3, none⟩)) (by kernel_rfl) rfl rfl rfl rfl (by kernel_rfl) (fun w => by kernel_rfl)) (hA M)⟩, .inl ⟨rfl, fun k M W1 hC1 => (fun hA => ow_elem hA (wants_at hA 32 false 96 rfl rfl (by kernel_rfl) rfl rfl (by kernel_rfl)) 103 (.string (strOf C)) (by kernel_rfl) rfl rfl rfl rfl (by kernel_rfl) 9 ag_str (.tmp 102) rfl (⟨gx, 3, none⟩) (by kernel_rfl) (fun w1 hb => hC1.cell hb (KX.out w4 KP4.out 3 _ rfl) KG.out.1 KG.out.2)) (hA M)⟩, .inl ⟨rfl, fun k M W1 hC1 => (fun hA => ow_val hA (wants_at hA 32 false 96 rfl rfl (by kernel_rfl) rfl rfl (by kernel_rfl)) 104 (.pointer (some ⟨gx, 4, none⟩)) (by kernel_rfl) rfl rfl rfl rfl (by kernel_rfl) (fun w => by kernel_rfl)) (hA M)⟩, .inl ⟨rfl, fun k M W1 hC1 => (fun hA => ow_elem hA (wants_at hA 32 false 96 rfl rfl (by kernel_rfl) rfl rfl (by kernel_rfl)) 105 (.string (strOf T)) (by kernel_rfl) rfl rfl rfl rfl (by kernel_rfl) 9 ag_str (.tmp 104) rfl (⟨gx, 4, none⟩) (by kernel_rfl) (fun w1 hb => hC1.cell hb (KX.out w4 KP4.out 4 _ rfl) KG.out.1 KG.out.2)) (hA M)⟩, .inr ⟨3, rfl, ph_invoke hA (fun M => (fun hA => (wants_at hA 32 false 96 rfl rfl (by kernel_rfl) rfl rfl (by kernel_rfl))) (hA M)) 106 (.string (strOf X)) rfl rfl (by kernel_rfl) LN_turn (by kernel_rfl) (.tmp 97) "Seal" [.tmp 99, .tmp 101, .tmp 103, .tmp 105] _ 90 (.agg #[.pointer (some ⟨tb, 0, none⟩)]) 23 (.pointer (some ⟨tb, 0, none⟩)) Tryz.f23 _ [.string (strOf A), .int .u64 (N : Int), .string (strOf C), .string (strOf T)] rfl (by kernel_rfl) (by kernel_rfl) (fun w => by kernel_rfl) Tryz.func23 (by kernel_rfl) rfl (CSl.out _ _ _ _)⟩, .inl ⟨rfl, fun k M W1 hC1 => (fun hA => ow_val hA (wants_at hA 32 false 96 rfl rfl (by kernel_rfl) rfl rfl (by kernel_rfl)) 107 (.pointer (some ⟨tb, 0, none⟩)) (by kernel_rfl) rfl rfl rfl rfl (by kernel_rfl) (fun w => by kernel_rfl)) (hA M)⟩, .inl ⟨rfl, fun k M W1 hC1 => (fun hA => ow_val hA (wants_at hA 32 false 96 rfl rfl (by kernel_rfl) rfl rfl (by kernel_rfl)) 108 (.pointer (some ⟨gx, 0, none⟩)) (by kernel_rfl) rfl rfl rfl rfl (by kernel_rfl) (fun w => by kernel_rfl)) (hA M)⟩, .inl ⟨rfl, fun k M W1 hC1 => (fun hA => ow_elem hA (wants_at hA 32 false 96 rfl rfl (by kernel_rfl) rfl rfl (by kernel_rfl)) 109 (.string (strOf A)) (by kernel_rfl) rfl rfl rfl rfl (by kernel_rfl) 9 ag_str (.tmp 108) rfl (⟨gx, 0, none⟩) (by kernel_rfl) (fun w1 hb => hC1.cell hb (KX.out w4 KP4.out 0 _ rfl) KG.out.1 KG.out.2)) (hA M)⟩, .inl ⟨rfl, fun k M W1 hC1 => (fun hA => ow_val hA (wants_at hA 32 false 96 rfl rfl (by kernel_rfl) rfl rfl (by kernel_rfl)) 110 (.pointer (some ⟨gx, 2, none⟩)) (by kernel_rfl) rfl rfl rfl rfl (by kernel_rfl) (fun w => by kernel_rfl)) (hA M)⟩, .inl ⟨rfl, fun k M W1 hC1 => (fun hA => ow_elem hA (wants_at hA 32 false 96 rfl rfl (by kernel_rfl) rfl rfl (by kernel_rfl)) 111 (.int .u64 (N : Int)) (by kernel_rfl) rfl rfl rfl rfl (by kernel_rfl) 22 Tryz.isAgg22 (.tmp 110) rfl (⟨gx, 2, none⟩) (by kernel_rfl) (fun w1 hb => hC1.cell hb (KX.out w4 KP4.out 2 _ rfl) KG.out.1 KG.out.2)) (hA M)⟩, .inl ⟨rfl, fun k M W1 hC1 => (fun hA => ow_val hA (wants_at hA 32 false 96 rfl rfl (by kernel_rfl) rfl rfl (by kernel_rfl)) 112 (.pointer (some ⟨gx, 3, none⟩)) (by kernel_rfl) rfl rfl rfl rfl (by kernel_rfl) (fun w => by kernel_rfl)) (hA M)⟩, .inl ⟨rfl, fun k M W1 hC1 => (fun hA => ow_elem hA (wants_at hA 32 false 96 rfl rfl (by kernel_rfl) rfl rfl (by kernel_rfl)) 113 (.string (strOf C)) (by kernel_rfl) rfl rfl rfl rfl (by kernel_rfl) 9 ag_str (.tmp 112) rfl (⟨gx, 3, none⟩) (by kernel_rfl) (fun w1 hb => hC1.cell hb (KX.out w4 KP4.out 3 _ rfl) KG.out.1 KG.out.2)) (hA M)⟩, .inl ⟨rfl, fun k M W1 hC1 => (fun hA => ow_val hA (wants_at hA 32 false 96 rfl rfl (by kernel_rfl) rfl rfl (by kernel_rfl)) 114 (.pointer (some ⟨gx, 4, none⟩)) (by kernel_rfl) rfl rfl rfl rfl (by kernel_rfl) (fun w => by kernel_rfl)) (hA M)⟩, .inl ⟨rfl, fun k M W1 hC1 => (fun hA => ow_elem hA (wants_at hA 32 false 96 rfl rfl (by kernel_rfl) rfl rfl (by kernel_rfl)) 115 (.string (strOf T)) (by kernel_rfl) rfl rfl rfl rfl (by kernel_rfl) 9 ag_str (.tmp 114) rfl (⟨gx, 4, none⟩) (by kernel_rfl) (fun w1 hb => hC1.cell hb (KX.out w4 KP4.out 4 _ rfl) KG.out.1 KG.out.2)) (hA M)⟩, .inr ⟨4, rfl, ph_call hA (fun M => (fun hA => (wants_at hA 32 false 96 rfl rfl (by kernel_rfl) rfl rfl (by kernel_rfl))) (hA M)) 116 (.string (strOf X)) rfl rfl (by kernel_rfl) LN_turn (by kernel_rfl) 23 Tryz.f23 _ [.tmp 107, .tmp 109, .tmp 111, .tmp 113, .tmp 115] _ [.pointer (some ⟨tb, 0, none⟩), .string (strOf A), .int .u64 (N : Int), .string (strOf C), .string (strOf T)] rfl (by kernel_rfl) Tryz.func23 (by kernel_rfl) rfl (CSm.out _ _ _ _)⟩, .inl ⟨rfl, fun k M W1 hC1 => (fun hA => ow_val hA (wants_at hA 32 false 96 rfl rfl (by kernel_rfl) rfl rfl (by kernel_rfl)) 117 (.bool false) (by kernel_rfl) rfl rfl rfl rfl (by kernel_rfl) (fun w => run_sneq rfl (by kernel_rfl) (by kernel_rfl) YY.out.2.2.2 YY.out.2.2.2 (by simp) w)) (hA M)⟩, .inl ⟨rfl, fun k M W1 hC1 => (fun hA => ow_val hA (wants_none rfl) 118 (.bool false) (by kernel_rfl) rfl rfl rfl rfl (by kernel_rfl) (fun w => by kernel_rfl)) (hA M)⟩, trivial⟩) ?_
  intro fv M8 w8 hf hC8
  simp only [LN, putR, List.foldl_cons, List.foldl_nil, List.map_cons, List.map_nil, Act.put, List.setIfInBounds_toArray, List.set_cons_succ, List.set_cons_zero]
  refine wpList_nil ?_
  have KT8 : Kept (Tab tb B0 T4 M8 w8) := ⟨hC8.1⟩
  have Pt8 : Kept (Turn M0 w4 M8 w8) := ⟨hC8.2⟩
  clear hf hC8 KT7 Pt7
  go_wp2_with (first | ((with_reducible refine wv_elem (d := 122) ?hd ?hw 9 ag_str (.tmp 121) ?ho (⟨gx, 1, none⟩) ?hx (.string (strOf B)) ?hc ?_); (case hd => rfl); (case hw => kernel_rfl); (case ho => rfl); (case hx => kernel_rfl); (case hc => exact (Turn.cell (Pt8.out) (KX.out w4 KP4.out 1 _ rfl) KG.out.1 KG.out.2)); simp only [Act.put, List.setIfInBounds_toArray, List.set_cons_succ, List.set_cons_zero]))
  refine (PartsD KT8.out YB.out Kf.out.2.1 KL.out.2.2.2).mono ?_
  intro e w9 hpp
  cases hx : partX T4 B with
  | none =>
    rw [hx] at hpp
    obtain ⟨rfl, q9⟩ := hpp
    have KT9 : Kept (Tab tb B0 T4 M8 w9) := ⟨KT8.out.under q9⟩
    have Pt9 : Kept (Turn M0 w4 M8 w9) := ⟨Pt8.out.trans (Turn.of_below q9)⟩
    have GD : Kept (dhL T4 A B = (T4, [], false)) := ⟨dhL_no hx⟩
    clear q9 hx KT8 Pt8
    go_wp2_with (first | ((with_reducible refine wv_elem (d := 132) ?hd ?hw 9 ag_str (.tmp 131) ?ho (⟨gx, 0, none⟩) ?hx (.string (strOf A)) ?hc ?_); (case hd => rfl); (case hw => kernel_rfl); (case ho => rfl); (case hx => kernel_rfl); (case hc => exact (Turn.cell (Pt9.out) (KX.out w4 KP4.out 0 _ rfl) KG.out.1 KG.out.2)); simp only [Act.put, List.setIfInBounds_toArray, List.set_cons_succ, List.set_cons_zero]) | ((with_reducible refine wv_elem (d := 134) ?hd ?hw 9 ag_str (.tmp 133) ?ho (⟨gx, 1, none⟩) ?hx (.string (strOf B)) ?hc ?_); (case hd => rfl); (case hw => kernel_rfl); (case ho => rfl); (case hx => kernel_rfl); (case hc => exact (Turn.cell (Pt9.out) (KX.out w4 KP4.out 1 _ rfl) KG.out.1 KG.out.2)); simp only [Act.put, List.setIfInBounds_toArray, List.set_cons_succ, List.set_cons_zero]))
    refine (DhE KT9.out YA.out YB.out Kf.out.1 Kf.out.2.1 KL.out.2.2.2 GD.out).mono ?_
    rintro e w10 ⟨rfl, M10, hT10, ht10⟩
    have KTe : Kept (Tab tb B0 T4 M10 w10) := ⟨hT10⟩
    have Pte : Kept (Turn M0 w4 M10 w10) := ⟨Pt9.out.trans ht10⟩
    clear hT10 ht10 KT9 Pt9
    generalize w10 = we at *
    generalize M10 = Me at *
    go_wp2_with (first | ((with_reducible refine wv_elem (d := 141) ?hd ?hw 9 ag_str (.tmp 140) ?ho (⟨gx, 0, none⟩) ?hx (.string (strOf A)) ?hc ?_); (case hd => rfl); (case hw => kernel_rfl); (case ho => rfl); (case hx => kernel_rfl); (case hc => exact (Turn.cell (Pte.out) (KX.out w4 KP4.out 0 _ rfl) KG.out.1 KG.out.2)); simp only [Act.put, List.setIfInBounds_toArray, List.set_cons_succ, List.set_cons_zero]) | ((with_reducible refine wv_elem (d := 143) ?hd ?hw 9 ag_str (.tmp 142) ?ho (⟨gx, 1, none⟩) ?hx (.string (strOf B)) ?hc ?_); (case hd => rfl); (case hw => kernel_rfl); (case ho => rfl); (case hx => kernel_rfl); (case hc => exact (Turn.cell (Pte.out) (KX.out w4 KP4.out 1 _ rfl) KG.out.1 KG.out.2)); simp only [Act.put, List.setIfInBounds_toArray, List.set_cons_succ, List.set_cons_zero]))
    refine (KeysT KTe.out YA.out YB.out Kf4.out.1 Kf4.out.2 Kn.out.1 Kn.out.2 (by have := KL4.out; omega)).mono ?_
    rintro e wf ⟨V, Mf, rfl, hV, hVM, hTf, htf⟩
    obtain ⟨pk, ck, rfl, _⟩ := vals_form (vrow_vals hV) (show (strs (nmsK T4 A B n)).length = n by rw [strs_len, nmsK_len])
    have KV : Kept _ := ⟨vrow_vals hV⟩
    have KVM : Kept _ := ⟨hVM⟩
    have KTf : Kept (Tab tb B0 TK Mf wf) := ⟨by rw [KTK.out]; exact hTf⟩
    have Ptf : Kept (Turn M0 w4 Mf wf) := ⟨Pte.out.trans htf⟩
    clear hV hVM hTf htf
    have hnn : ¬ ((n : Int) < 1) := by have := Kn.out.1; omega
    have hn3 : ¬ ((3 : Int) < (n : Int)) := by have := Kn.out.2; omega
    go_wp2_with (first | ((with_reducible refine wv_val (d := 158) ?hd ?hw (.bool false) ?hr ?_); (case hd => rfl); (case hw => kernel_rfl); (case hr => intro w; exact run_neI (m := (n : Int)) (n := (n : Int)) rfl (by kernel_rfl) (by kernel_rfl) (by simp) w); simp only [Act.put, List.setIfInBounds_toArray, List.set_cons_succ, List.set_cons_zero]))
    go_loopg [161] n (fun g s161 wr => ∃ (i : Nat) (Mz : Nat → Prop), i + g = n ∧ s161 = .int .i64 (i : Int) ∧ Tab tb B0 TK Mz wr ∧ Turn Mf wf Mz wr)
    case atStart => exact ⟨0, Mf, by omega, rfl, KTf.out, Turn.refl _ _⟩
    case round =>
      rename World => wz
      obtain ⟨i, Mz, hik, rfl, hTz, htz⟩ := hrel
      by_cases hk0 : gk = 0
      case neg =>
        have hin : i < n := by omega
        have hin' : (i : Int) < (n : Int) := by omega
        have hi1 : (i : Int) + 1 ≤ 9223372036854775807 := by have := Kn.out.2; omega
        obtain ⟨NK, hNK⟩ : ∃ N, N = nmK T4 A B i := ⟨_, rfl⟩
        obtain ⟨iS, hiS⟩ : ∃ j, j = i + 1 := ⟨_, rfl⟩
        obtain ⟨J, hJ⟩ : ∃ j, j = numL iS := ⟨_, rfl⟩
        have hK : (nmsK T4 A B n)[i]? = some NK := by rw [hNK]; exact nmsK_get hin
        have KPk : Kept (putL TK (4, [keyW, J, A, B]) = (TK, NK)) := ⟨by rw [hJ, hiS, hNK, KTK.out]; exact keys_again Kf4.out.1 Kf4.out.2 hin⟩
        have KLk : Kept (TK.length < 1000000) := ⟨by have := tsK_len T4 A B n; have := KL4.out; have := Kn.out.2; rw [KTK.out]; omega⟩
        have YNK : Kept (Bytes NK) := ⟨by rw [hNK]; exact putL_bytes _ _⟩
        have KYk : Kept ((∀ l ∈ [keyW, J, A, B], Bytes l) ∧ ∀ l ∈ [keyW, J, A, B], l.length ≤ maxLen) := ⟨by
          have hJl := numL_len iS
          rw [← hJ] at hJl
          have h8 : 4000 ≤ maxLen := by decide
          have := Kf4.out
          constructor
          · intro l hl
            simp only [List.mem_cons, List.not_mem_nil, or_false] at hl
            rcases hl with rfl | rfl | rfl | rfl
            · exact keyW_ok.1
            · rw [hJ]; exact numL_bytes _
            · exact YA.out
            · exact YB.out
          · intro l hl
            simp only [List.mem_cons, List.not_mem_nil, or_false] at hl
            rcases hl with rfl | rfl | rfl | rfl
            · exact keyW_ok.2.2
            · omega
            · omega
            · omega⟩
        have CN : Kept (∀ w, Calls Tryz.prog 25 [.int .u64 (iS : Int)].toArray w fun e w' => e = .returned (.string (strOf J)) ∧ Below w.heap.size w w') := ⟨fun w => by rw [hJ]; exact NumD (by have := Kn.out.2; omega)⟩
        have Ki64 : Kept (i < 1000) := ⟨by have := Kn.out.2; omega⟩
        have KiT : Kept (iS < 1000) := ⟨by have := Kn.out.2; omega⟩
        have KiS : Kept (iS = i + 1) := ⟨hiS⟩
        have htm := Ptf.out.trans htz
        have KGz : Kept (gx < wz.heap.size ∧ ¬ Mz gx) := ⟨⟨Nat.lt_of_lt_of_le KG.out.1 htm.size, htm.not KG.out.2 KG.out.1⟩⟩
        have KXz : Kept (∀ (k : Nat) (v : Value), (#[.string (strOf A), .string (strOf B), .int .u64 (N : Int), .string (strOf C), .string (strOf T)] : Array Value)[k]? = some v → wz.cell? ⟨gx, k, none⟩ = some v) := ⟨fun k v hk => htm.cell (KX.out w4 KP4.out k v hk) KG.out.1 KG.out.2⟩
        obtain ⟨Ak, rfl, hAk, hck⟩ := vals_at KV.out (strs_get hK)
        have KVz : Kept (wz.cell? (Ak.add i) = some (.string (strOf NK)) ∧ (Ak.add i).block < wz.heap.size ∧ ¬ Mz (Ak.add i).block) := ⟨by
          have hb : (Ak.add i).block = Ak.block := add_block _ _
          have hm : ¬ Mf Ak.block := KVM.out _ rfl
          exact ⟨htz.cell hck (by rw [hb]; exact hAk) (by rw [hb]; exact hm), by rw [hb]; exact Nat.lt_of_lt_of_le hAk htz.size, by rw [hb]; exact htz.not hm hAk⟩⟩
        have KTz : Kept (Tab tb B0 TK Mz wz) := ⟨hTz⟩
        have Ktz : Kept (Turn Mf wf Mz wz) := ⟨htz⟩
        clear hK hTz htz hNK hJ hiS htm hAk hck
        go_wp2_with fail
        refine region_phaseL (G := Nat → Prop) 16 [14] [(164, .slice (some Ak) n ck), (165, .int .i64 (i : Int)), (166, .pointer (some (Ak.add i))), (167, .string (strOf NK)), (168, .pointer (some ⟨tb, 0, none⟩)), (169, .int .i64 (i : Int)), (170, .int .i64 (iS : Int)), (171, .int .u64 (iS : Int)), (172, .string (strOf J)), (173, .pointer (some ⟨gx, 0, none⟩)), (174, .string (strOf A)), (175, .pointer (some ⟨gx, 1, none⟩)), (176, .string (strOf B)), (178, .string (strOf NK)), (179, .bool false)] (LN [(177, [keyW, J, A, B])]) (fun k => CT tb B0 (([TK, TK] : List (List TermL)).getD k []) Mz wz) rfl (by kernel_rfl) (by kernel_rfl) (by kernel_rfl) (by kernel_rfl) (by kernel_rfl) (by kernel_rfl) (by kernel_rfl) (by kernel_rfl) (by kernel_rfl) (by kernel_rfl) LN_under (fun k g w w' h hb => CT.under h hb) Mz ⟨KTz.out, Turn.refl _ _⟩ (fun hA => ⟨.inl ⟨rfl, fun k M W1 hC1 => (fun hA => ow_val hA (wants_none rfl) 164 (.slice (some Ak) n ck) (by kernel_rfl) rfl rfl rfl rfl (by kernel_rfl) (fun w => by kernel_rfl)) (hA M)⟩, .inl ⟨rfl, fun k M W1 hC1 => (fun hA => ow_val hA (wants_none rfl) 165 (.int .i64 (i : Int)) (by kernel_rfl) rfl rfl rfl rfl (by kernel_rfl) (fun w => by kernel_rfl)) (hA M)⟩, .inl ⟨rfl, fun k M W1 hC1 => (fun hA => ow_val hA (wants_none rfl) 166 (.pointer (some (Ak.add i))) (by kernel_rfl) rfl rfl rfl rfl (by kernel_rfl) (fun w => run_idxS (A := Ak) (i := i) (l := n) (c := ck) rfl (by kernel_rfl) (by kernel_rfl) Tryz.underlying43 hin Tryz.sizeOf9 w)) (hA M)⟩, .inl ⟨rfl, fun k M W1 hC1 => (fun hA => ow_elem hA (wants_none rfl) 167 (.string (strOf NK)) (by kernel_rfl) rfl rfl rfl rfl (by kernel_rfl) 9 ag_str (.tmp 166) rfl (Ak.add i) (by kernel_rfl) (fun w1 hb => hC1.cell hb KVz.out.1 KVz.out.2.1 KVz.out.2.2)) (hA M)⟩, .inl ⟨rfl, fun k M W1 hC1 => (fun hA => ow_val hA (wants_none rfl) 168 (.pointer (some ⟨tb, 0, none⟩)) (by kernel_rfl) rfl rfl rfl rfl (by kernel_rfl) (fun w => by kernel_rfl)) (hA M)⟩, .inl ⟨rfl, fun k M W1 hC1 => (fun hA => ow_val hA (wants_none rfl) 169 (.int .i64 (i : Int)) (by kernel_rfl) rfl rfl rfl rfl (by kernel_rfl) (fun w => by kernel_rfl)) (hA M)⟩, .inl ⟨rfl, fun k M W1 hC1 => (fun hA => ow_val hA (wants_none rfl) 170 (.int .i64 (iS : Int)) (by kernel_rfl) rfl rfl rfl rfl (by kernel_rfl) (fun w => run_addI1 rfl (by kernel_rfl) (by kernel_rfl) KiS.out Ki64.out w)) (hA M)⟩, .inl ⟨rfl, fun k M W1 hC1 => (fun hA => ow_val hA (wants_none rfl) 171 (.int .u64 (iS : Int)) (by kernel_rfl) rfl rfl rfl rfl (by kernel_rfl) (fun w => run_conv3L rfl (by kernel_rfl) KiT.out w)) (hA M)⟩, .inl ⟨rfl, fun k M W1 hC1 => (fun hA => ow_calld hA (wants_none rfl) 172 (.string (strOf J)) (by kernel_rfl) rfl rfl rfl rfl (by kernel_rfl) 25 Tryz.f25 _ [.tmp 171] _ [.int .u64 (iS : Int)] rfl (by kernel_rfl) Tryz.func25 (by kernel_rfl) rfl (fun w2 hb => CN.out w2)) (hA M)⟩, .inl ⟨rfl, fun k M W1 hC1 => (fun hA => ow_val hA (wants_none rfl) 173 (.pointer (some ⟨gx, 0, none⟩)) (by kernel_rfl) rfl rfl rfl rfl (by kernel_rfl) (fun w => by kernel_rfl)) (hA M)⟩, .inl ⟨rfl, fun k M W1 hC1 => (fun hA => ow_elem hA (wants_none rfl) 174 (.string (strOf A)) (by kernel_rfl) rfl rfl rfl rfl (by kernel_rfl) 9 ag_str (.tmp 173) rfl (⟨gx, 0, none⟩) (by kernel_rfl) (fun w1 hb => hC1.cell hb (KXz.out 0 _ rfl) KGz.out.1 KGz.out.2)) (hA M)⟩, .inl ⟨rfl, fun k M W1 hC1 => (fun hA => ow_val hA (wants_none rfl) 175 (.pointer (some ⟨gx, 1, none⟩)) (by kernel_rfl) rfl rfl rfl rfl (by kernel_rfl) (fun w => by kernel_rfl)) (hA M)⟩, .inl ⟨rfl, fun k M W1 hC1 => (fun hA => ow_elem hA (wants_none rfl) 176 (.string (strOf B)) (by kernel_rfl) rfl rfl rfl rfl (by kernel_rfl) 9 ag_str (.tmp 175) rfl (⟨gx, 1, none⟩) (by kernel_rfl) (fun w1 hb => hC1.cell hb (KXz.out 1 _ rfl) KGz.out.1 KGz.out.2)) (hA M)⟩, .inl ⟨rfl, fun k M W1 hC1 => (fun hA => ow_new4 hA (wants_none rfl) hC1 177 (.const (.string ⟨#[107, 101, 121]⟩)) (.tmp 172) (.tmp 174) (.tmp 176) (keyW) (J) (A) (B) rfl (by kernel_rfl) rfl (by kernel_rfl) (by kernel_rfl) (by kernel_rfl) (by kernel_rfl) rfl) (hA M)⟩, .inr ⟨0, rfl, ph_hash hA (fun M => (fun hA => (wants_none rfl)) (hA M)) 178 (NK) rfl rfl (by kernel_rfl) LN_turn 168 177 _ _ rfl rfl (by kernel_rfl) rfl (by kernel_rfl) (by kernel_rfl) ([keyW, J, A, B]) rfl (KYk.out.1) (KYk.out.2) (KLk.out) (KPk.out)⟩, .inl ⟨rfl, fun k M W1 hC1 => (fun hA => ow_val hA (wants_none rfl) 179 (.bool false) (by kernel_rfl) rfl rfl rfl rfl (by kernel_rfl) (fun w => run_sneq rfl (by kernel_rfl) (by kernel_rfl) YNK.out YNK.out (by simp) w)) (hA M)⟩, trivial⟩) ?_
        intro fv M20 w20 hf hC20
        simp only [LN, putR, List.foldl_cons, List.foldl_nil, List.map_cons, List.map_nil, Act.put, List.setIfInBounds_toArray, List.set_cons_succ, List.set_cons_zero]
        refine wpList_nil ?_
        have KT20 : Kept (Tab tb B0 TK M20 w20) := ⟨hC20.1⟩
        have Pt20 : Kept (Turn Mf wf M20 w20) := ⟨Ktz.out.trans hC20.2⟩
        clear hf hC20
        go_wp2_with fail
        go_roundg (gk - 1)
        case measure => omega
        case rel => exact ⟨i + 1, M20, by omega, by simp, KT20.out, Pt20.out⟩
      case pos =>
        obtain rfl : n = i := by omega
        have Qf : Kept (Below w0.heap.size w0 wz) := ⟨KP4.out.trans ((KT4.out.below (Ptf.out.trans htz)).mono KB0.out)⟩
        clear hTz htz
        go_wp2_with fail
        go_ret
        exact ⟨rfl, Q0.out.trans (Qf.out.mono Q0.out.size)⟩
  | some t =>
    rw [hx] at hpp
    obtain ⟨⟨Vp, rfl, _⟩, q9⟩ := hpp
    have KTe : Kept (Tab tb B0 T4 M8 w9) := ⟨KT8.out.under q9⟩
    have Pte : Kept (Turn M0 w4 M8 w9) := ⟨Pt8.out.trans (Turn.of_below q9)⟩
    clear q9 hx KT8 Pt8
    generalize w9 = we at *
    generalize M8 = Me at *
    go_wp2_with (first | ((with_reducible refine wv_elem (d := 141) ?hd ?hw 9 ag_str (.tmp 140) ?ho (⟨gx, 0, none⟩) ?hx (.string (strOf A)) ?hc ?_); (case hd => rfl); (case hw => kernel_rfl); (case ho => rfl); (case hx => kernel_rfl); (case hc => exact (Turn.cell (Pte.out) (KX.out w4 KP4.out 0 _ rfl) KG.out.1 KG.out.2)); simp only [Act.put, List.setIfInBounds_toArray, List.set_cons_succ, List.set_cons_zero]) | ((with_reducible refine wv_elem (d := 143) ?hd ?hw 9 ag_str (.tmp 142) ?ho (⟨gx, 1, none⟩) ?hx (.string (strOf B)) ?hc ?_); (case hd => rfl); (case hw => kernel_rfl); (case ho => rfl); (case hx => kernel_rfl); (case hc => exact (Turn.cell (Pte.out) (KX.out w4 KP4.out 1 _ rfl) KG.out.1 KG.out.2)); simp only [Act.put, List.setIfInBounds_toArray, List.set_cons_succ, List.set_cons_zero]))
    refine (KeysT KTe.out YA.out YB.out Kf4.out.1 Kf4.out.2 Kn.out.1 Kn.out.2 (by have := KL4.out; omega)).mono ?_
    rintro e wf ⟨V, Mf, rfl, hV, hVM, hTf, htf⟩
    obtain ⟨pk, ck, rfl, _⟩ := vals_form (vrow_vals hV) (show (strs (nmsK T4 A B n)).length = n by rw [strs_len, nmsK_len])
    have KV : Kept _ := ⟨vrow_vals hV⟩
    have KVM : Kept _ := ⟨hVM⟩
    have KTf : Kept (Tab tb B0 TK Mf wf) := ⟨by rw [KTK.out]; exact hTf⟩
    have Ptf : Kept (Turn M0 w4 Mf wf) := ⟨Pte.out.trans htf⟩
    clear hV hVM hTf htf
    have hnn : ¬ ((n : Int) < 1) := by have := Kn.out.1; omega
    have hn3 : ¬ ((3 : Int) < (n : Int)) := by have := Kn.out.2; omega
    go_wp2_with (first | ((with_reducible refine wv_val (d := 158) ?hd ?hw (.bool false) ?hr ?_); (case hd => rfl); (case hw => kernel_rfl); (case hr => intro w; exact run_neI (m := (n : Int)) (n := (n : Int)) rfl (by kernel_rfl) (by kernel_rfl) (by simp) w); simp only [Act.put, List.setIfInBounds_toArray, List.set_cons_succ, List.set_cons_zero]))
    go_loopg [161] n (fun g s161 wr => ∃ (i : Nat) (Mz : Nat → Prop), i + g = n ∧ s161 = .int .i64 (i : Int) ∧ Tab tb B0 TK Mz wr ∧ Turn Mf wf Mz wr)
    case atStart => exact ⟨0, Mf, by omega, rfl, KTf.out, Turn.refl _ _⟩
    case round =>
      rename World => wz
      obtain ⟨i, Mz, hik, rfl, hTz, htz⟩ := hrel
      by_cases hk0 : gk = 0
      case neg =>
        have hin : i < n := by omega
        have hin' : (i : Int) < (n : Int) := by omega
        have hi1 : (i : Int) + 1 ≤ 9223372036854775807 := by have := Kn.out.2; omega
        obtain ⟨NK, hNK⟩ : ∃ N, N = nmK T4 A B i := ⟨_, rfl⟩
        obtain ⟨iS, hiS⟩ : ∃ j, j = i + 1 := ⟨_, rfl⟩
        obtain ⟨J, hJ⟩ : ∃ j, j = numL iS := ⟨_, rfl⟩
        have hK : (nmsK T4 A B n)[i]? = some NK := by rw [hNK]; exact nmsK_get hin
        have KPk : Kept (putL TK (4, [keyW, J, A, B]) = (TK, NK)) := ⟨by rw [hJ, hiS, hNK, KTK.out]; exact keys_again Kf4.out.1 Kf4.out.2 hin⟩
        have KLk : Kept (TK.length < 1000000) := ⟨by have := tsK_len T4 A B n; have := KL4.out; have := Kn.out.2; rw [KTK.out]; omega⟩
        have YNK : Kept (Bytes NK) := ⟨by rw [hNK]; exact putL_bytes _ _⟩
        have KYk : Kept ((∀ l ∈ [keyW, J, A, B], Bytes l) ∧ ∀ l ∈ [keyW, J, A, B], l.length ≤ maxLen) := ⟨by
          have hJl := numL_len iS
          rw [← hJ] at hJl
          have h8 : 4000 ≤ maxLen := by decide
          have := Kf4.out
          constructor
          · intro l hl
            simp only [List.mem_cons, List.not_mem_nil, or_false] at hl
            rcases hl with rfl | rfl | rfl | rfl
            · exact keyW_ok.1
            · rw [hJ]; exact numL_bytes _
            · exact YA.out
            · exact YB.out
          · intro l hl
            simp only [List.mem_cons, List.not_mem_nil, or_false] at hl
            rcases hl with rfl | rfl | rfl | rfl
            · exact keyW_ok.2.2
            · omega
            · omega
            · omega⟩
        have CN : Kept (∀ w, Calls Tryz.prog 25 [.int .u64 (iS : Int)].toArray w fun e w' => e = .returned (.string (strOf J)) ∧ Below w.heap.size w w') := ⟨fun w => by rw [hJ]; exact NumD (by have := Kn.out.2; omega)⟩
        have Ki64 : Kept (i < 1000) := ⟨by have := Kn.out.2; omega⟩
        have KiT : Kept (iS < 1000) := ⟨by have := Kn.out.2; omega⟩
        have KiS : Kept (iS = i + 1) := ⟨hiS⟩
        have htm := Ptf.out.trans htz
        have KGz : Kept (gx < wz.heap.size ∧ ¬ Mz gx) := ⟨⟨Nat.lt_of_lt_of_le KG.out.1 htm.size, htm.not KG.out.2 KG.out.1⟩⟩
        have KXz : Kept (∀ (k : Nat) (v : Value), (#[.string (strOf A), .string (strOf B), .int .u64 (N : Int), .string (strOf C), .string (strOf T)] : Array Value)[k]? = some v → wz.cell? ⟨gx, k, none⟩ = some v) := ⟨fun k v hk => htm.cell (KX.out w4 KP4.out k v hk) KG.out.1 KG.out.2⟩
        obtain ⟨Ak, rfl, hAk, hck⟩ := vals_at KV.out (strs_get hK)
        have KVz : Kept (wz.cell? (Ak.add i) = some (.string (strOf NK)) ∧ (Ak.add i).block < wz.heap.size ∧ ¬ Mz (Ak.add i).block) := ⟨by
          have hb : (Ak.add i).block = Ak.block := add_block _ _
          have hm : ¬ Mf Ak.block := KVM.out _ rfl
          exact ⟨htz.cell hck (by rw [hb]; exact hAk) (by rw [hb]; exact hm), by rw [hb]; exact Nat.lt_of_lt_of_le hAk htz.size, by rw [hb]; exact htz.not hm hAk⟩⟩
        have KTz : Kept (Tab tb B0 TK Mz wz) := ⟨hTz⟩
        have Ktz : Kept (Turn Mf wf Mz wz) := ⟨htz⟩
        clear hK hTz htz hNK hJ hiS htm hAk hck
        go_wp2_with fail
        refine region_phaseL (G := Nat → Prop) 16 [14] [(164, .slice (some Ak) n ck), (165, .int .i64 (i : Int)), (166, .pointer (some (Ak.add i))), (167, .string (strOf NK)), (168, .pointer (some ⟨tb, 0, none⟩)), (169, .int .i64 (i : Int)), (170, .int .i64 (iS : Int)), (171, .int .u64 (iS : Int)), (172, .string (strOf J)), (173, .pointer (some ⟨gx, 0, none⟩)), (174, .string (strOf A)), (175, .pointer (some ⟨gx, 1, none⟩)), (176, .string (strOf B)), (178, .string (strOf NK)), (179, .bool false)] (LN [(177, [keyW, J, A, B])]) (fun k => CT tb B0 (([TK, TK] : List (List TermL)).getD k []) Mz wz) rfl (by kernel_rfl) (by kernel_rfl) (by kernel_rfl) (by kernel_rfl) (by kernel_rfl) (by kernel_rfl) (by kernel_rfl) (by kernel_rfl) (by kernel_rfl) (by kernel_rfl) LN_under (fun k g w w' h hb => CT.under h hb) Mz ⟨KTz.out, Turn.refl _ _⟩ (fun hA => ⟨.inl ⟨rfl, fun k M W1 hC1 => (fun hA => ow_val hA (wants_none rfl) 164 (.slice (some Ak) n ck) (by kernel_rfl) rfl rfl rfl rfl (by kernel_rfl) (fun w => by kernel_rfl)) (hA M)⟩, .inl ⟨rfl, fun k M W1 hC1 => (fun hA => ow_val hA (wants_none rfl) 165 (.int .i64 (i : Int)) (by kernel_rfl) rfl rfl rfl rfl (by kernel_rfl) (fun w => by kernel_rfl)) (hA M)⟩, .inl ⟨rfl, fun k M W1 hC1 => (fun hA => ow_val hA (wants_none rfl) 166 (.pointer (some (Ak.add i))) (by kernel_rfl) rfl rfl rfl rfl (by kernel_rfl) (fun w => run_idxS (A := Ak) (i := i) (l := n) (c := ck) rfl (by kernel_rfl) (by kernel_rfl) Tryz.underlying43 hin Tryz.sizeOf9 w)) (hA M)⟩, .inl ⟨rfl, fun k M W1 hC1 => (fun hA => ow_elem hA (wants_none rfl) 167 (.string (strOf NK)) (by kernel_rfl) rfl rfl rfl rfl (by kernel_rfl) 9 ag_str (.tmp 166) rfl (Ak.add i) (by kernel_rfl) (fun w1 hb => hC1.cell hb KVz.out.1 KVz.out.2.1 KVz.out.2.2)) (hA M)⟩, .inl ⟨rfl, fun k M W1 hC1 => (fun hA => ow_val hA (wants_none rfl) 168 (.pointer (some ⟨tb, 0, none⟩)) (by kernel_rfl) rfl rfl rfl rfl (by kernel_rfl) (fun w => by kernel_rfl)) (hA M)⟩, .inl ⟨rfl, fun k M W1 hC1 => (fun hA => ow_val hA (wants_none rfl) 169 (.int .i64 (i : Int)) (by kernel_rfl) rfl rfl rfl rfl (by kernel_rfl) (fun w => by kernel_rfl)) (hA M)⟩, .inl ⟨rfl, fun k M W1 hC1 => (fun hA => ow_val hA (wants_none rfl) 170 (.int .i64 (iS : Int)) (by kernel_rfl) rfl rfl rfl rfl (by kernel_rfl) (fun w => run_addI1 rfl (by kernel_rfl) (by kernel_rfl) KiS.out Ki64.out w)) (hA M)⟩, .inl ⟨rfl, fun k M W1 hC1 => (fun hA => ow_val hA (wants_none rfl) 171 (.int .u64 (iS : Int)) (by kernel_rfl) rfl rfl rfl rfl (by kernel_rfl) (fun w => run_conv3L rfl (by kernel_rfl) KiT.out w)) (hA M)⟩, .inl ⟨rfl, fun k M W1 hC1 => (fun hA => ow_calld hA (wants_none rfl) 172 (.string (strOf J)) (by kernel_rfl) rfl rfl rfl rfl (by kernel_rfl) 25 Tryz.f25 _ [.tmp 171] _ [.int .u64 (iS : Int)] rfl (by kernel_rfl) Tryz.func25 (by kernel_rfl) rfl (fun w2 hb => CN.out w2)) (hA M)⟩, .inl ⟨rfl, fun k M W1 hC1 => (fun hA => ow_val hA (wants_none rfl) 173 (.pointer (some ⟨gx, 0, none⟩)) (by kernel_rfl) rfl rfl rfl rfl (by kernel_rfl) (fun w => by kernel_rfl)) (hA M)⟩, .inl ⟨rfl, fun k M W1 hC1 => (fun hA => ow_elem hA (wants_none rfl) 174 (.string (strOf A)) (by kernel_rfl) rfl rfl rfl rfl (by kernel_rfl) 9 ag_str (.tmp 173) rfl (⟨gx, 0, none⟩) (by kernel_rfl) (fun w1 hb => hC1.cell hb (KXz.out 0 _ rfl) KGz.out.1 KGz.out.2)) (hA M)⟩, .inl ⟨rfl, fun k M W1 hC1 => (fun hA => ow_val hA (wants_none rfl) 175 (.pointer (some ⟨gx, 1, none⟩)) (by kernel_rfl) rfl rfl rfl rfl (by kernel_rfl) (fun w => by kernel_rfl)) (hA M)⟩, .inl ⟨rfl, fun k M W1 hC1 => (fun hA => ow_elem hA (wants_none rfl) 176 (.string (strOf B)) (by kernel_rfl) rfl rfl rfl rfl (by kernel_rfl) 9 ag_str (.tmp 175) rfl (⟨gx, 1, none⟩) (by kernel_rfl) (fun w1 hb => hC1.cell hb (KXz.out 1 _ rfl) KGz.out.1 KGz.out.2)) (hA M)⟩, .inl ⟨rfl, fun k M W1 hC1 => (fun hA => ow_new4 hA (wants_none rfl) hC1 177 (.const (.string ⟨#[107, 101, 121]⟩)) (.tmp 172) (.tmp 174) (.tmp 176) (keyW) (J) (A) (B) rfl (by kernel_rfl) rfl (by kernel_rfl) (by kernel_rfl) (by kernel_rfl) (by kernel_rfl) rfl) (hA M)⟩, .inr ⟨0, rfl, ph_hash hA (fun M => (fun hA => (wants_none rfl)) (hA M)) 178 (NK) rfl rfl (by kernel_rfl) LN_turn 168 177 _ _ rfl rfl (by kernel_rfl) rfl (by kernel_rfl) (by kernel_rfl) ([keyW, J, A, B]) rfl (KYk.out.1) (KYk.out.2) (KLk.out) (KPk.out)⟩, .inl ⟨rfl, fun k M W1 hC1 => (fun hA => ow_val hA (wants_none rfl) 179 (.bool false) (by kernel_rfl) rfl rfl rfl rfl (by kernel_rfl) (fun w => run_sneq rfl (by kernel_rfl) (by kernel_rfl) YNK.out YNK.out (by simp) w)) (hA M)⟩, trivial⟩) ?_
        intro fv M20 w20 hf hC20
        simp only [LN, putR, List.foldl_cons, List.foldl_nil, List.map_cons, List.map_nil, Act.put, List.setIfInBounds_toArray, List.set_cons_succ, List.set_cons_zero]
        refine wpList_nil ?_
        have KT20 : Kept (Tab tb B0 TK M20 w20) := ⟨hC20.1⟩
        have Pt20 : Kept (Turn Mf wf M20 w20) := ⟨Ktz.out.trans hC20.2⟩
        clear hf hC20
        go_wp2_with fail
        go_roundg (gk - 1)
        case measure => omega
        case rel => exact ⟨i + 1, M20, by omega, by simp, KT20.out, Pt20.out⟩
      case pos =>
        obtain rfl : n = i := by omega
        have Qf : Kept (Below w0.heap.size w0 wz) := ⟨KP4.out.trans ((KT4.out.below (Ptf.out.trans htz)).mono KB0.out)⟩
        clear hTz htz
        go_wp2_with fail
        go_ret
        exact ⟨rfl, Q0.out.trans (Qf.out.mono Q0.out.size)⟩

theorem terms11 {A B C T : List Nat} {N : Nat} {w : World} (hA : Bytes A) (hB : Bytes B) (hC : Bytes C) (hT : Bytes T) (hN : N < 18446744073709551616) (hr : RootsAt w) {z : Int} : Calls Tryz.prog 5 #[.agg #[.string (strOf A), .string (strOf B), .int .u64 (N : Int), .string (strOf C), .string (strOf T)], .int .i64 z] w fun e w' => e = .returned (.bool true) ∧ Below w.heap.size w w' := by
  by_cases hf : Few A B C T
  · by_cases hz : z < 1 ∨ 3 < z
    · exact terms_bad hA hB hC hT hN hr (decide_eq_true hf) hz
    · obtain ⟨n, rfl⟩ : ∃ n : Nat, z = (n : Int) := ⟨z.toNat, by omega⟩
      exact terms_good hA hB hC hT hN hr (decide_eq_true hf) (by omega) (by omega)
  · exact terms_big hA hB hC hT hN hr (decide_eq_false hf)
end Go.Proofs.YtjkdonjcngmjeaaGreatDoor.sh
