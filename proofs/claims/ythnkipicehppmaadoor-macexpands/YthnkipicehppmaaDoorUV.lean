/-
  What MacKeys answers.
-/
import Derived.Test.YthnkipicehppmaaDoorUX
namespace Go.Proofs.YthnkipicehppmaaDoor.sh
open Go Go.RowKit
set_option linter.unusedVariables false
set_option linter.unusedSimpArgs false

theorem run_rem8 {o : Oper} {a : Act} {x : Operand} {m z : Nat} (c : Nat) (ho : o.op = .binOp .rem 5 x (.const (.int .u8 (c : Int))) 5) (hx : a.eval x = .int .u8 (m : Int)) (hc : 0 < c) (hm : m < 256) (hz : z = m % c) (w : World) : (execOp a.eval o).run Tryd.prog w = .ok (.value (.int .u8 (z : Int))) w := by
  have e3 : a.eval (.const (.int .u8 (c : Int))) = .int .u8 (c : Int) := rfl
  have h1 : ((c : Int) = 0) = False := by simp; omega
  have h2 : Int.tmod (m : Int) (c : Int) = (z : Int) := by rw [hz]; rfl
  have h3 : m % c ≤ m := Nat.mod_le _ _
  unfold execOp
  simp only [ho, hx, e3]
  simp [go_sem, h1, h2, IntKind.wrap_u8']
  omega
theorem wv_partA {ops : Array Oper} {rest : List Oper} {o : Oper} {a : Act} {w : World} {Q : Exit → Act → World → Prop} {d : Nat} (hd : o.dst = some d) (hw : Region.wanted o (yielded ops a.tmps) = true) (t : TypeId) (x : Operand) (ho : o.op = .load t x) (g off : Nat) (hx : a.eval x = .pointer (some ⟨g, off, none⟩)) {t' : TypeId} (cs es : Array Value) (n : Nat) (e : TypeId) (hu : Tryd.prog.underlying t = some (.array n e)) (hs : (Tryd.prog.info? t).map (·.size) = some es.size)
    (hg : Blk w g t' cs) (hp : ∀ j v, es[j]? = some v → cs[off + j]? = some v) (h : wpList Tryd.prog ops Q rest (a.put o.dst (.agg es)) w) : wpList Tryd.prog ops Q (o :: rest) a w :=
  BigFrame.wpList_want hw fun K hK => by
    unfold Oper.wp
    rw [run_partA ho hx hu hs hg hp]
    exact hK _ _ h

set_option maxRecDepth 100000 in
set_option maxHeartbeats 4000000 in
theorem keys4_any (key : List Nat) (vi : Value) (info : List Nat) (z : Int) (w : World) (hk : key.length = 32) (hy : Bytes key) (hvi : BytesV vi w info) (hi : Bytes info) (hil : info.length ≤ maxLen) (hz : (Lit.int .u8 z).wf = true) (hr : RootsAt w) :
    Calls Tryd.prog 9 #[.agg (ints .u8 key), vi, .int .u8 z] w fun e w' => e = .returned (.bool true) ∧ Below w.heap.size w w' := by
  have hz8 := bounds_u8 hz
  obtain ⟨n, rfl⟩ := Int.eq_ofNat_of_zero_le hz8.1
  have n8 : n < 256 := by omega
  clear hz hz8 hil
  have KV : Kept _ := ⟨hvi⟩
  obtain ⟨pi, ci, ei, _, _⟩ := hvi
  obtain ⟨ni, hni⟩ : ∃ n, n = info.length := ⟨_, rfl⟩
  rw [← hni] at ei
  subst ei
  have ENI : Kept _ := ⟨hni⟩
  have KR : Kept _ := ⟨hr⟩
  have LK : Kept _ := ⟨hk⟩
  have YK : Kept _ := ⟨hy⟩
  have YI : Kept _ := ⟨hi⟩
  have h0 := hr.1
  have A0 : Blk (w.alloc (.cells (ints .u8 key) 24)) w.heap.size 24 (ints .u8 key) := blk_new w _ _
  have Q0 : Below w.heap.size w (w.alloc (.cells (ints .u8 key) 24)) := (Below.refl _ _).alloc (Nat.le_refl _) _
  clear hk hy hr hi hni
  go_enter Tryd.func9, Tryd.ntmps9
  go_wp2_with fail
  generalize hW : w.alloc (.cells (ints .u8 key) 24) = wa at *
  clear hW
  refine (alive4_any wa (KR.out.below h0 Q0)).mono ?_
  rintro e w1 ⟨rfl, hb1⟩
  have A1 := A0.under hb1
  have Q1 := Q0.trans (hb1.mono Q0.size)
  clear A0 Q0 hb1
  by_cases hb0 : ni ≤ 300
  case neg =>
    have hb0' : (300 : Int) < (ni : Int) := by omega
    go_wp2_with fail
    go_ret
    exact ⟨rfl, Q1⟩
  have hb0' : ¬ (300 : Int) < (ni : Int) := by omega
  have NI : Kept (info.length ≤ 300) := ⟨by rw [← ENI.out]; exact hb0⟩
  obtain ⟨r, hr⟩ : ∃ r, r = n % 3 := ⟨_, rfl⟩
  have Er : Kept _ := ⟨hr⟩
  obtain ⟨k, hk⟩ : ∃ k, k = r + 1 := ⟨_, rfl⟩
  have Ek : Kept _ := ⟨hk⟩
  have k1 : 1 ≤ k := by omega
  have k3 : k ≤ 3 := by omega
  have r8 : r < 256 := by omega
  obtain ⟨E, hE⟩ : ∃ E, E = macL key info := ⟨_, rfl⟩
  have EE : Kept _ := ⟨hE⟩
  have LE : Kept (E.length = 32) := ⟨by rw [hE]; exact macL_len _ _⟩
  have YE : Kept (Bytes E) := ⟨by rw [hE]; exact macL_bytes _ _⟩
  obtain ⟨M, hM⟩ : ∃ M, M = 32 * k := ⟨_, rfl⟩
  have EM : Kept _ := ⟨hM⟩
  have M96 : M ≤ 96 := by omega
  obtain ⟨X, hX⟩ : ∃ X, X = expL E [] M := ⟨_, rfl⟩
  have EX : Kept (X = tsL E [] k) := ⟨by rw [hX, ← expL_of E [] k M (by omega) (by omega), List.take_of_length_le (by rw [tsL_len]; omega)]⟩
  have EX0 : Kept _ := ⟨hX⟩
  have LX : Kept (X.length = M) := ⟨by rw [hX]; exact expL_len _ _ _ (by omega)⟩
  clear hr hk hE hM hX
  go_wp2_with (first | ((with_reducible refine wv_row (d := 24) ?hd ?hw 24 (.tmp 3) ?ho (w.heap.size) ?hx (t' := 24) (ints .u8 key) _ _ Tryd.underlying24 ?hs ?hg ?_); (case hd => rfl); (case hw => kernel_rfl); (case ho => rfl); (case hx => kernel_rfl); (case hs => rw [ints_size, LK.out]; exact t32_info); (case hg => exact A1); simp only [Act.put, List.setIfInBounds_toArray, List.set_cons_succ, List.set_cons_zero]) | ((with_reducible refine wv_val (d := 20) ?hd ?hw (.int .u8 (r : Int)) ?hr ?_); (case hd => rfl); (case hw => kernel_rfl); (case hr => intro w; exact run_rem8 3 rfl (by kernel_rfl) (by decide) n8 Er.out w); simp only [Act.put, List.setIfInBounds_toArray, List.set_cons_succ, List.set_cons_zero]) | ((with_reducible refine wv_val (d := 21) ?hd ?hw (.int .i64 (r : Int)) ?hr ?_); (case hd => rfl); (case hw => kernel_rfl); (case hr => intro w; exact run_conv83 rfl (by kernel_rfl) r8 w); simp only [Act.put, List.setIfInBounds_toArray, List.set_cons_succ, List.set_cons_zero]) | ((with_reducible refine wv_val (d := 22) ?hd ?hw (.int .i64 (k : Int)) ?hr ?_); (case hd => rfl); (case hw => kernel_rfl); (case hr => intro w; rw [Ek.out]; exact run_addI 1 rfl (by kernel_rfl) (by omega) w); simp only [Act.put, List.setIfInBounds_toArray, List.set_cons_succ, List.set_cons_zero]))
  refine (Keys_ok key info k _ w1 LK.out YK.out YI.out (by have := NI.out; omega) k1 k3 (KR.out.below h0 Q1) (KV.out.under Q1)).mono ?_
  rintro e w3 ⟨v8, rfl, R8, hb3⟩
  have K8 := R8.keys (keysL_32 key info k)
  obtain ⟨p8, c8, e8, _, hg8⟩ := K8
  rw [keysL_len] at e8
  obtain ⟨g8, cur, rfl, B8, hcur⟩ := hg8 (by intro e; have := keysL_len key info k; rw [e] at this; simp at this; omega)
  subst e8
  have KCU : Kept _ := ⟨hcur⟩
  have A3 := A1.under hb3
  have Q3 := Q1.trans (hb3.mono Q1.size)
  clear R8 hg8 hcur A1 Q1 hb3
  go_wp2_with fail
  refine (mExtract_any key info _ _ w3 YK.out (by rw [LK.out]; decide) YI.out (by have := NI.out; omega) (KR.out.below h0 Q3) (arr_bytes A3 LK.out) (KV.out.under Q3)).mono ?_
  rintro e w4 ⟨rfl, hb4⟩
  rw [← EE.out]
  have B84 := B8.under hb4
  have Q4 := Q3.trans (hb4.mono Q3.size)
  have CE : Kept (Calls Tryd.prog 14 #[.agg (ints .u8 E), .slice none 0 0, .int .i64 (M : Int)] w4 fun e w' => ∃ v, e = .returned (.tuple #[v, .int .i64 0]) ∧ Row w4.heap.size 5 .u8 X v w' ∧ Below w4.heap.size w4 w') := ⟨by rw [EX0.out]; exact Expand_ok E [] M _ w4 LE.out YE.out nil_bytes (by decide) (by omega) (KR.out.below h0 Q4) ⟨none, 0, rfl, Nat.le_refl _, fun h => absurd rfl h⟩⟩
  clear A3 B8 Q3 hb4
  go_wp2_with (first | ((with_reducible refine wv_val (d := 35) ?hd ?hw (.int .i64 (M : Int)) ?hr ?_); (case hd => rfl); (case hw => kernel_rfl); (case hr => intro w; exact run_mulC 32 rfl (by kernel_rfl) EM.out (by omega) w); simp only [Act.put, List.setIfInBounds_toArray, List.set_cons_succ, List.set_cons_zero]))
  refine CE.out.mono ?_
  rintro e w6 ⟨v10, rfl, RX, hb6⟩
  have BX : Kept _ := ⟨row_bytes RX⟩
  obtain ⟨p10, c10, e10, hc10, _⟩ := row_cells RX
  rw [LX.out] at e10 hc10
  subst e10
  have B86 := B84.under hb6
  have Q6 := Q4.trans (hb6.mono Q4.size)
  clear RX B84 Q4 hb6 CE
  go_wp2_with (first | ((with_reducible refine wv_val (d := 55) ?hd ?hw (.int .i64 (M : Int)) ?hr ?_); (case hd => rfl); (case hw => kernel_rfl); (case hr => intro w; exact run_mulC 32 rfl (by kernel_rfl) EM.out (by omega) w); simp only [Act.put, List.setIfInBounds_toArray, List.set_cons_succ, List.set_cons_zero]))
  go_loopg [60] k (fun m s60 wr => ∃ i : Nat, i + m = k ∧ s60 = .int .i64 (i : Int) ∧ Below w6.heap.size w6 wr)
  case atStart => exact ⟨0, by omega, rfl, Below.refl _ _⟩
  case round =>
    obtain ⟨i, him, rfl, HB⟩ := hrel
    have QR := Q6.trans (HB.mono Q6.size)
    by_cases hi : i < k
    case pos =>
      have hi' : (i : Int) < (k : Int) := by omega
      have B8r := B86.under HB
      obtain ⟨T, hT⟩ : ∃ T, T = tL E [] (i + 1) := ⟨_, rfl⟩
      have LT : Kept (T.length = 32) := ⟨by rw [hT]; exact tL_len _ _ i⟩
      have KT : Kept (∀ (j : Nat) (u : Value), (ints .u8 T)[j]? = some u → cur[i * 32 + j]? = some u) := ⟨KCU.out i T (by rw [keysL_get key info k i hi, ← EE.out, hT])⟩
      have KI : Kept ((Tryd.prog.info? 24).map (·.size) = some (ints .u8 T).size) := ⟨by rw [ints_size, LT.out]; exact t32_info⟩
      obtain ⟨a2, ha2⟩ : ∃ a, a = 32 * i := ⟨_, rfl⟩
      obtain ⟨a3, ha3⟩ : ∃ a, a = a2 + 32 := ⟨_, rfl⟩
      obtain ⟨q2, hq2⟩ : ∃ q, q = (if c10 = a2 then p10 else p10.map (·.add a2)) := ⟨_, rfl⟩
      have E2 : Kept _ := ⟨ha2⟩
      have Ea3 : Kept _ := ⟨ha3⟩
      have CT : Kept ((X.drop a2).take 32 = T) := ⟨by rw [EX.out, ha2, tsL_cut E [] k i hi, hT]⟩
      have VL0 : Kept (∀ w', Below wr.heap.size wr w' → IntsV .u8 (.slice q2 32 (c10 - a2)) w' T) := ⟨fun w' hb => by
        have h := BytesV.piece (k := a2) (m := 32) BX.out (by rw [LX.out]; have := EM.out; omega)
        rw [CT.out, ← hq2] at h
        exact (h.under HB).under hb⟩
      have CUT2 : Kept (∀ {o : Oper} {a : Act}, o.op = .slice 22 (.tmp 67) (some (.tmp 69)) (some (.tmp 72)) none → a.eval (.tmp 67) = .slice p10 M c10 → a.eval (.tmp 69) = .int .i64 (a2 : Int) → a.eval (.tmp 72) = .int .i64 (a3 : Int) → ∀ w, (execOp a.eval o).run Tryd.prog w = .ok (.value (.slice q2 32 (c10 - a2))) w) := ⟨fun ho hx hy hz w => by
        have := cuts_run ho hx hy hz Tryd.underlying22 sz_u8 (by omega) (by have := EM.out; omega) w
        rw [this, ← hq2, show a3 - a2 = 32 from by omega]⟩
      have a62 : a2 ≤ 96 := by omega
      clear hT hq2 CT ha2 ha3
      go_wp2_with (first | ((with_reducible refine wv_val (d := 63) ?hd ?hw (.pointer (some ⟨g8, i * 32, none⟩)) ?hr ?_); (case hd => rfl); (case hw => kernel_rfl); (case hr => intro w; exact run_idxK (l := k) (c := c8) rfl (by kernel_rfl) (by kernel_rfl) hi w); simp only [Act.put, List.setIfInBounds_toArray, List.set_cons_succ, List.set_cons_zero]) | ((with_reducible refine wv_partA (d := 64) ?hd ?hw 24 (.tmp 63) ?ho g8 (i * 32) ?hx (t' := 24) cur (ints .u8 T) _ _ Tryd.underlying24 ?hs ?hg ?hp ?_); (case hd => rfl); (case hw => kernel_rfl); (case ho => rfl); (case hx => kernel_rfl); (case hs => exact KI.out); (case hg => exact B8r); (case hp => exact KT.out); simp only [Act.put, List.setIfInBounds_toArray, List.set_cons_succ, List.set_cons_zero]) | (refine wl_store rfl 24 (.tmp 13) (.tmp 64) rfl wr.heap.size (ints .u8 T) rfl rfl _ (blk_new wr _ _) (by rw [ints_size, LT.out]; exact t32_info) (by rw [ints_size, LT.out]; rfl) (ints_one _ _) ?_))
      intro w8 A8 P8
      have hb8 : Below wr.heap.size wr w8 := ((Below.refl _ _).alloc (Nat.le_refl _) _).trans (P8.below (Nat.le_refl _))
      generalize hg13 : wr.heap.size = g13 at *
      have VS : Kept (∀ w', Below w8.heap.size w8 w' → IntsV .u8 (.slice (some ⟨g13, 0, none⟩) 32 32) w' T) := ⟨fun w' hb => (arr_bytes A8 LT.out).under hb⟩
      have VL : Kept (∀ w', Below w8.heap.size w8 w' → IntsV .u8 (.slice q2 32 (c10 - a2)) w' T) := ⟨fun w' hb => VL0.out w' (hb8.trans (hb.mono (by rw [← hg13]; exact Nat.le_trans (by simp) (Nat.le_of_eq P8.size.symm))))⟩
      obtain ⟨S1, hS1⟩ : ∃ S, S = strOf T := ⟨_, rfl⟩
      have ES : Kept (Value.string S1 = .string (strOf T)) := ⟨by rw [hS1]⟩
      have HB8 : Below w6.heap.size w6 w8 := HB.trans (hb8.mono (by rw [← hg13]; exact HB.size))
      clear hS1 A8 P8 VL0 hg13 hb8 B8r HB
      go_wp2_with fail
      refine region_ownL w8 11 [(65, .slice (some ⟨g13, 0, none⟩) 32 32), (66, .string S1), (67, .slice p10 M c10), (68, .int .i64 (i : Int)), (69, .int .i64 (a2 : Int)), (70, .int .i64 (i : Int)), (71, .int .i64 (a2 : Int)), (72, .int .i64 (a3 : Int)), (73, .slice q2 32 (c10 - a2)), (74, .string S1), (75, .bool false)] [] [] [] rfl (by kernel_rfl) (by kernel_rfl) (by kernel_rfl) (by kernel_rfl) (by kernel_rfl) (by kernel_rfl) (by kernel_rfl) (by kernel_rfl) (by kernel_rfl) (by kernel_rfl) (by kernel_rfl) ?hst1 ?hst2 (Below.refl _ _) (fun hA => ⟨ow_val hA (wants_none rfl) 65 (.slice (some ⟨g13, 0, none⟩) 32 32) (by kernel_rfl) rfl rfl rfl rfl (by kernel_rfl) (fun w => by kernel_rfl), ow_str hA (wants_none rfl) 66 (.string S1) (by kernel_rfl) rfl rfl rfl rfl (by kernel_rfl) (.tmp 65) rfl _ (by kernel_rfl) T (fun w1 hb => VS.out w1 hb) ES.out, ow_val hA (wants_none rfl) 67 (.slice p10 M c10) (by kernel_rfl) rfl rfl rfl rfl (by kernel_rfl) (fun w => by kernel_rfl), ow_val hA (wants_none rfl) 68 (.int .i64 (i : Int)) (by kernel_rfl) rfl rfl rfl rfl (by kernel_rfl) (fun w => by kernel_rfl), ow_val hA (wants_none rfl) 69 (.int .i64 (a2 : Int)) (by kernel_rfl) rfl rfl rfl rfl (by kernel_rfl) (fun w => run_mulC 32 rfl (by kernel_rfl) E2.out (by omega) w), ow_val hA (wants_none rfl) 70 (.int .i64 (i : Int)) (by kernel_rfl) rfl rfl rfl rfl (by kernel_rfl) (fun w => by kernel_rfl), ow_val hA (wants_none rfl) 71 (.int .i64 (a2 : Int)) (by kernel_rfl) rfl rfl rfl rfl (by kernel_rfl) (fun w => run_mulC 32 rfl (by kernel_rfl) E2.out (by omega) w), ow_val hA (wants_none rfl) 72 (.int .i64 (a3 : Int)) (by kernel_rfl) rfl rfl rfl rfl (by kernel_rfl) (fun w => by rw [Ea3.out]; exact run_addI 32 rfl (by kernel_rfl) (by omega) w), ow_val hA (wants_none rfl) 73 (.slice q2 32 (c10 - a2)) (by kernel_rfl) rfl rfl rfl rfl (by kernel_rfl) (fun w => CUT2.out rfl (by kernel_rfl) (by kernel_rfl) (by kernel_rfl) w), ow_str hA (wants_none rfl) 74 (.string S1) (by kernel_rfl) rfl rfl rfl rfl (by kernel_rfl) (.tmp 73) rfl _ (by kernel_rfl) T (fun w1 hb => VL.out w1 hb) ES.out, ow_val hA (wants_none rfl) 75 (.bool false) (by kernel_rfl) rfl rfl rfl rfl (by kernel_rfl) (fun w => run_neq_str (s := S1) rfl (by kernel_rfl) (by kernel_rfl) w), trivial⟩) ?_
      case hst1 => intro q hq; cases hq
      case hst2 => intro q hq; cases hq
      intro fv2 w9 hf hD hb9
      simp only [putR, List.foldl_cons, List.foldl_nil, List.map_cons, List.map_nil, Act.put, List.setIfInBounds_toArray, List.set_cons_succ, List.set_cons_zero]
      have HB9 := HB8.trans (hb9.mono HB8.size)
      clear hf hD VS VL CUT2 HB8 hb9
      refine (show wpList _ _ _ [] _ _ from ?_)
      refine wpList_nil ?_
      go_wp2_with fail
      go_roundg (gk - 1)
      case measure => omega
      case rel => exact ⟨i + 1, by omega, by simp, HB9⟩
    case neg =>
      have hi' : ¬ (i : Int) < (k : Int) := by omega
      go_wp2_with fail
      go_ret
      exact ⟨rfl, QR⟩
end Go.Proofs.YthnkipicehppmaaDoor.sh
