/-
  AeadBig, walked.
-/
import Derived.Test.YtpamcmhfimnfbaaZE
namespace Go.Proofs.Ytpamcmhfimnfbaa.sh
open Go Go.RowKit
set_option linter.unusedVariables false
set_option linter.unusedSimpArgs false

section
variable {h : List Oper} {A0 A : Act} {W0 : World} {S : Nat → Option (Value → World → Prop)} {sp O : List Nat} {E : List (Nat × Nat)} {i : Nat} {o : Oper}
theorem ow_makeV (hA : Full h A0 A S sp) (hw : Wants h A0 A S O E W0.heap.size i o) (d x n : Nat) (hd : o.dst = some d) (ho : o.op = .makeSlice 24 (.tmp x) (.tmp x)) (hwx : waitsFor h o x = true) (hx : A.tmps[x]? = some (.int .i64 (n : Int))) (hsx : sp.contains x = false) (hE : (E.all fun q => q.2 != x || q.1 == i) = true) (hn : n < 1000000) (Z : List Nat) (hZ : Z = List.replicate n 0) (hp : S d = some (BytesS Z)) : OwnOk Try.prog h A0 W0 (relR A S) O E i o :=
  ow_run hw d hd fun a w hF hB hgot => by
    have e := gotE_det hA hgot hwx hsx hE hx
    have hv : BytesV (.slice (some ⟨w.heap.size, 0, none⟩) n n) (w.alloc (.cells (ints .u8 (List.replicate n 0)) 5)) (List.replicate n 0) := arr_bytes (blk_new w _ _) (by rw [List.length_replicate])
    rw [← hZ] at hv
    refine ⟨_, _, none, ?_, rel_spec _ hp hv, grown_none ((Below.refl _ _).alloc (Nat.le_refl _) _), fun b hb => (by cases hb), fun _ b hb => .inl ?_⟩
    · unfold execOp
      simp only [ho, e]
      have := run_make8 n hn .i64 w
      simp [this, hZ]
    · cases hb
      exact ⟨Nat.le_refl _, by simp⟩
end
theorem run_eq3 {o : Oper} {a : Act} {x y : Operand} {r : Nat} (ho : o.op = .binOp .eql 3 x y 3) (hx : a.eval x = .int .i64 (r : Int)) (hy : a.eval y = .int .i64 (r : Int)) (w : World) : (execOp a.eval o).run Try.prog w = .ok (.value (.bool true)) w := by
  unfold execOp
  simp only [ho, hx, hy]
  simp [go_sem]
theorem run_rem8 {o : Oper} {a : Act} {x : Operand} {i z : Nat} (ho : o.op = .binOp .rem 5 x (.const (.int .u8 20)) 5) (hx : a.eval x = .int .u8 (i : Int)) (hz : z = i % 20) (w : World) : (execOp a.eval o).run Try.prog w = .ok (.value (.int .u8 (z : Int))) w := by
  have e3 : a.eval (.const (.int .u8 20)) = .int .u8 20 := rfl
  have h3 : (i : Int).tmod 20 = (z : Int) := by rw [hz, Int.tmod_eq_emod_of_nonneg (by omega)]; omega
  unfold execOp
  simp only [ho, hx, e3]
  simp [go_sem, h3]

set_option maxRecDepth 100000 in
set_option maxHeartbeats 4000000 in
theorem big7 (key : List Nat) (n : Nat) (vd : Value) (d : List Nat) (y0 : Int) (w : World) (hk : key.length = 32) (hy : Bytes key) (hn : n < 18446744073709551616) (hvd : BytesV vd w d) (hyd : Bytes d) (hld : d.length ≤ maxLen) (h8 : (Lit.int .u8 y0).wf = true) :
    Calls Try.prog 6 #[.agg (lockA key n vd), .int .u8 y0] w fun e w' => e = .returned (.bool true) ∧ Below w.heap.size w w' := by
  obtain ⟨y, rfl, hy8⟩ : ∃ y : Nat, y0 = (y : Int) ∧ y < 256 := by have := bounds_u8 h8; exact ⟨y0.toNat, by omega, by omega⟩
  obtain ⟨nd, hnd⟩ : ∃ n, n = d.length := ⟨_, rfl⟩
  obtain ⟨pd, cd, rfl⟩ := slice_form hvd hnd.symm
  have LK : Kept _ := ⟨hk⟩
  have A0 : Blk (w.alloc (.cells (lockA key n (.slice pd nd cd)) 26)) w.heap.size 26 (lockA key n (.slice pd nd cd)) := blk_new _ _ _
  have Q0 := lock_below w (lockA key n (.slice pd nd cd))
  by_cases hD : 1000 < nd
  case pos =>
    have hD' : (1000 : Int) < (nd : Int) := by omega
    clear hk hy hn hvd hyd hld hnd h8
    go_enter Try.func6, Try.ntmps6
    go_wp2_with fail
    refine (alive7 _).mono ?_
    rintro e w1 ⟨rfl, hb1⟩
    have B0 := A0.under hb1
    go_wp2_with (first | ((with_reducible refine wv_val (d := 16) ?hd ?hw (.pointer (some ⟨w.heap.size, 33, none⟩)) ?hr ?_); (case hd => rfl); (case hw => kernel_rfl); (case hr => intro w; kernel_rfl); simp only [Act.put, List.setIfInBounds_toArray, List.set_cons_succ, List.set_cons_zero]) | ((with_reducible refine wv_elem (d := 17) ?hd ?hw 24 ag_bytes (.tmp 16) ?ho (⟨w.heap.size, 33, none⟩) ?hx (.slice pd nd cd) ?hc ?_); (case hd => rfl); (case hw => kernel_rfl); (case ho => rfl); (case hx => kernel_rfl); (case hc => exact B0.cell (lock_ad _ _ _ LK.out)); simp only [Act.put, List.setIfInBounds_toArray, List.set_cons_succ, List.set_cons_zero]))
    go_ret
    exact ⟨rfl, Q0.trans (hb1.mono Q0.size)⟩
  case neg =>
    have hD' : ¬ (1000 : Int) < (nd : Int) := by omega
    obtain ⟨c, hc⟩ : ∃ c, c = y % 20 := ⟨_, rfl⟩
    obtain ⟨k, hk2⟩ : ∃ k, k = 59990 + c := ⟨_, rfl⟩
    obtain ⟨k2, hk3⟩ : ∃ q, q = k + 16 := ⟨_, rfl⟩
    have Ec : Kept _ := ⟨hc⟩
    have Ek : Kept _ := ⟨hk2⟩
    have Ek2 : Kept _ := ⟨hk3⟩
    have c20 : c < 20 := by omega
    have k62 : k < 4611686018427387904 := by omega
    have k262 : k2 < 4611686018427387904 := by omega
    have kB : k < 61000 := by omega
    have k2B : k2 < 62000 := by omega
    obtain ⟨ZK, hZK⟩ : ∃ l : List Nat, l = List.replicate k 0 := ⟨_, rfl⟩
    obtain ⟨ZK2, hZK2⟩ : ∃ l : List Nat, l = List.replicate k2 0 := ⟨_, rfl⟩
    have LZK : ZK.length = k := by rw [hZK, List.length_replicate]
    have LZK2 : ZK2.length = k2 := by rw [hZK2, List.length_replicate]
    have YZK : Bytes ZK := by rw [hZK]; exact bytes_zero k
    have YZK2 : Bytes ZK2 := by rw [hZK2]; exact bytes_zero k2
    obtain ⟨X, hX⟩ : ∃ l, l = (sealP key n [] ZK).1 := ⟨_, rfl⟩
    obtain ⟨r1, hr1⟩ : ∃ r : Int, r = ((sealP key n [] ZK).2 : Int) := ⟨_, rfl⟩
    obtain ⟨X2, hX2⟩ : ∃ l, l = (sealP key n ZK []).1 := ⟨_, rfl⟩
    obtain ⟨r2, hr2⟩ : ∃ r : Int, r = ((sealP key n ZK []).2 : Int) := ⟨_, rfl⟩
    obtain ⟨X3, hX3⟩ : ∃ l, l = (openP key n [] ZK2).1 := ⟨_, rfl⟩
    obtain ⟨r3, hr3⟩ : ∃ r : Int, r = ((openP key n [] ZK2).2 : Int) := ⟨_, rfl⟩
    have C1 : Kept (∀ (v : Value) (w' : World), BytesS ZK v w' → Calls Try.prog 9 [.agg (ints .u8 key), .int .u64 (n : Int), .slice none 0 0, v].toArray w' fun e w2 => ∃ v, e = .returned (.tuple #[v, .int .i64 r1]) ∧ BytesV v w2 X ∧ Below w'.heap.size w' w2) := ⟨fun v w' hv => by
      rw [hX, hr1]
      exact SealD key n [] ZK _ v w' hk hy hn (nil_bytesV _) hv nil_bytes YZK⟩
    have C2 : Kept (∀ (v : Value) (w' : World), BytesS ZK v w' → Calls Try.prog 9 [.agg (ints .u8 key), .int .u64 (n : Int), v, .slice none 0 0].toArray w' fun e w2 => ∃ v, e = .returned (.tuple #[v, .int .i64 r2]) ∧ BytesV v w2 X2 ∧ Below w'.heap.size w' w2) := ⟨fun v w' hv => by
      rw [hX2, hr2]
      exact SealD key n ZK [] v _ w' hk hy hn hv (nil_bytesV _) YZK nil_bytes⟩
    have C3 : Kept (∀ (v : Value) (w' : World), BytesS ZK2 v w' → Calls Try.prog 11 [.agg (ints .u8 key), .int .u64 (n : Int), .slice none 0 0, v].toArray w' fun e w2 => ∃ v, e = .returned (.tuple #[v, .int .i64 r3]) ∧ BytesV v w2 X3 ∧ Below w'.heap.size w' w2) := ⟨fun v w' hv => by
      rw [hX3, hr3]
      exact OpenD key n [] ZK2 _ v w' hk hy hn (nil_bytesV _) hv nil_bytes YZK2⟩
    have hbig : Kept (60000 < k → r1 = 3 ∧ r2 = 3 ∧ r3 = 3) := ⟨fun h => by
      rw [hr1, hr2, hr3, sealP_big _ _ _ _ (.inr (by omega)), sealP_big _ _ _ _ (.inl (by omega)), openP_big _ _ _ _ (.inr (by omega))]
      exact ⟨rfl, rfl, rfl⟩⟩
    have hok : Kept (¬ 60000 < k → r1 = 0 ∧ r2 = 0 ∧ X.length = k + 16 ∧ ∀ (v : Value) (w' : World), BytesV v w' X → Calls Try.prog 11 #[.agg (ints .u8 key), .int .u64 (n : Int), .slice none 0 0, v] w' fun e w2 => ∃ v, e = .returned (.tuple #[v, .int .i64 0]) ∧ BytesV v w2 ZK ∧ Below w'.heap.size w' w2) := ⟨fun h => by
      have e1 : X = sealL key n [] ZK := by rw [hX, sealP_ok _ _ _ _ (Nat.zero_le _) (by omega)]
      rw [hr1, hr2, sealP_ok _ _ _ _ (Nat.zero_le _) (by omega), sealP_ok _ _ _ _ (by omega) (Nat.zero_le _)]
      refine ⟨rfl, rfl, by rw [e1, sealL_len, LZK], fun v w' hv => ?_⟩
      have h1 := OpenD key n [] X _ v w' hk hy hn (nil_bytesV _) hv nil_bytes (by rw [e1]; exact sealL_bytes _ _ _ YZK)
      rw [e1, openP_seal _ _ _ _ (Nat.zero_le _) (by omega)] at h1
      exact h1⟩
    have KLZ : Kept _ := ⟨LZK⟩
    have HZK : Kept _ := ⟨hZK⟩
    have HZK2 : Kept _ := ⟨hZK2⟩
    clear hk hy hn hvd hyd hld hnd h8 hc hk2 hk3 hX hr1 hX2 hr2 hX3 hr3 YZK YZK2 LZK LZK2 hZK hZK2
    go_enter Try.func6, Try.ntmps6
    go_wp2_with fail
    refine (alive7 _).mono ?_
    rintro e w1 ⟨rfl, hb1⟩
    have B0 := A0.under hb1
    have Q1 := Q0.trans (hb1.mono Q0.size)
    clear A0 Q0 hb1
    go_wp2_with (first | ((with_reducible refine wv_val (d := 16) ?hd ?hw (.pointer (some ⟨w.heap.size, 33, none⟩)) ?hr ?_); (case hd => rfl); (case hw => kernel_rfl); (case hr => intro w; kernel_rfl); simp only [Act.put, List.setIfInBounds_toArray, List.set_cons_succ, List.set_cons_zero]) | ((with_reducible refine wv_elem (d := 17) ?hd ?hw 24 ag_bytes (.tmp 16) ?ho (⟨w.heap.size, 33, none⟩) ?hx (.slice pd nd cd) ?hc ?_); (case hd => rfl); (case hw => kernel_rfl); (case ho => rfl); (case hx => kernel_rfl); (case hc => exact B0.cell (lock_ad _ _ _ LK.out)); simp only [Act.put, List.setIfInBounds_toArray, List.set_cons_succ, List.set_cons_zero]) | ((with_reducible refine wv_val (d := 21) ?hd ?hw (.int .u8 (c : Int)) ?hr ?_); (case hd => rfl); (case hw => kernel_rfl); (case hr => intro w; exact run_rem8 rfl (by kernel_rfl) Ec.out w); simp only [Act.put, List.setIfInBounds_toArray, List.set_cons_succ, List.set_cons_zero]) | ((with_reducible refine wv_val (d := 22) ?hd ?hw (.int .i64 (c : Int)) ?hr ?_); (case hd => rfl); (case hw => kernel_rfl); (case hr => intro w; exact run_conv83 rfl (by kernel_rfl) (by omega) w); simp only [Act.put, List.setIfInBounds_toArray, List.set_cons_succ, List.set_cons_zero]) | ((with_reducible refine wv_val (d := 23) ?hd ?hw (.int .i64 (k : Int)) ?hr ?_); (case hd => rfl); (case hw => kernel_rfl); (case hr => intro w; exact run_addC 59990 rfl (by kernel_rfl) Ek.out k62 w); simp only [Act.put, List.setIfInBounds_toArray, List.set_cons_succ, List.set_cons_zero]))
    refine region_ownNL w1 12 [(25, .pointer (some ⟨w.heap.size, 0, none⟩)), (26, .agg (ints .u8 key)), (27, .pointer (some ⟨w.heap.size, 32, none⟩)), (28, .int .u64 (n : Int)), (29, .int .i64 (k : Int)), (33, .int .i64 r1), (7, .int .i64 r1)] [(30, BytesS ZK), (31, PairV r1 X), (24, PairV r1 X), (32, BytesS X), (6, BytesS X)] [] [] rfl (by kernel_rfl) (by kernel_rfl) (by kernel_rfl) (by kernel_rfl) (by kernel_rfl) (by kernel_rfl) (by kernel_rfl) (by kernel_rfl) (by kernel_rfl) (by kernel_rfl) (by kernel_rfl) ?hst1 ?hst2 (Below.refl _ _) (fun hA => ⟨ow_val hA (wants_none rfl) 25 (.pointer (some ⟨w.heap.size, 0, none⟩)) (by kernel_rfl) rfl rfl rfl rfl (by kernel_rfl) (fun w => by kernel_rfl), ow_partA hA (wants_none rfl) 26 (.agg (ints .u8 key)) (by kernel_rfl) rfl rfl rfl rfl (by kernel_rfl) 22 (.tmp 25) rfl (w.heap.size) 0 (by kernel_rfl) 26 (lockA key n (.slice pd nd cd)) (ints .u8 key) 32 5 Try.underlying22 (by rw [ints_size, LK.out]; exact t32_info) (fun w1 hb => B0.under hb) (lock_key _ _ _) rfl, ow_val hA (wants_none rfl) 27 (.pointer (some ⟨w.heap.size, 32, none⟩)) (by kernel_rfl) rfl rfl rfl rfl (by kernel_rfl) (fun w => by kernel_rfl), ow_elem hA (wants_none rfl) 28 (.int .u64 (n : Int)) (by kernel_rfl) rfl rfl rfl rfl (by kernel_rfl) 23 ag_u64 (.tmp 27) rfl (⟨w.heap.size, 32, none⟩) (by kernel_rfl) (fun w1 hb => (B0.under hb).cell (lock_num _ _ _ LK.out)), ow_val hA (wants_none rfl) 29 (.int .i64 (k : Int)) (by kernel_rfl) rfl rfl rfl rfl (by kernel_rfl) (fun w => by kernel_rfl), ow_makeV hA (wants_none rfl) 30 29 k rfl rfl (by kernel_rfl) (by kernel_rfl) rfl rfl (by omega) ZK HZK.out rfl, ow_call (wants_none rfl) 31 9 Try.f9 _ [.tmp 26, .tmp 28, .const (.slice none 0 0), .tmp 30] _ rfl rfl Try.func9 (by kernel_rfl) rfl (fun a w1 hF hb hgot => by rw [List.map_cons, List.map_cons, List.map_cons, List.map_cons, List.map_nil, gotE_det (v := .agg (ints .u8 key)) hA hgot (by kernel_rfl) rfl rfl (by kernel_rfl), gotE_det (v := .int .u64 (n : Int)) hA hgot (by kernel_rfl) rfl rfl (by kernel_rfl)]; exact (C1.out _ w1 (gotE_spec hgot (BytesS ZK) (by kernel_rfl) rfl rfl).1).mono fun e w2 hh => by obtain ⟨u, h1, h2, h3⟩ := hh; exact ⟨_, h1, rel_spec _ rfl ⟨u, rfl, h2⟩, h3, fun h => by cases h⟩), ow_pure (wants_none rfl) 24 31 rfl _ _ rfl rfl (by kernel_rfl) rfl rfl (fun a w1 h1 => mv_pair rfl h1), ow_pure (wants_none rfl) 32 24 rfl _ _ rfl rfl (by kernel_rfl) rfl rfl (fun a w1 h1 => ex_fst rfl h1), ow_pureD hA (wants_none rfl) 33 24 rfl _ (.int .i64 r1) rfl rfl (by kernel_rfl) (by kernel_rfl) rfl rfl (fun a w1 h1 => ex_snd rfl h1), ow_pure (wants_none rfl) 6 32 rfl _ _ rfl rfl (by kernel_rfl) rfl rfl (fun a w1 h1 => as_bytes rfl h1), ow_val hA (wants_none rfl) 7 (.int .i64 r1) (by kernel_rfl) rfl rfl rfl rfl (by kernel_rfl) (fun w => by kernel_rfl), trivial⟩) ?_
    case hst1 =>
      intro q hq hO v u3 u4 h1 h2 h3 h4
      simp only [List.mem_cons, List.not_mem_nil, or_false] at hq
      rcases hq with rfl | rfl | rfl | rfl | rfl
      · exact BytesV.under h1 (h4 rfl)
      · exact PairV.under h1 (h4 rfl)
      · exact PairV.under h1 (h4 rfl)
      · exact BytesV.under h1 (h4 rfl)
      · exact BytesV.under h1 (h4 rfl)
    case hst2 => intro q hq hO; cases hO
    intro fv w2 hf hDD hb2
    have h6 := (hf 6 _ rfl rfl).1
    simp only [putR, List.foldl_cons, List.foldl_nil, List.map_cons, List.map_nil, Act.put, List.setIfInBounds_toArray, List.set_cons_succ, List.set_cons_zero]
    obtain ⟨v6, e6⟩ : ∃ v, v = fv 6 := ⟨_, rfl⟩
    rw [← e6] at h6 ⊢
    have V6 : Kept (BytesV v6 w2 X) := ⟨h6⟩
    generalize fv 30 = f30 at *
    generalize fv 31 = f31 at *
    generalize fv 24 = f24 at *
    generalize fv 32 = f32 at *
    have B2 := B0.under hb2
    have Q2 := Q1.trans (hb2.mono Q1.size)
    clear hf hDD h6 e6 B0 Q1 hb2 C1
    refine (show wpList _ _ _ [] _ _ from ?_)
    refine wpList_nil ?_
    go_wp2_with fail
    refine region_ownNL w2 12 [(35, .pointer (some ⟨w.heap.size, 0, none⟩)), (36, .agg (ints .u8 key)), (37, .pointer (some ⟨w.heap.size, 32, none⟩)), (38, .int .u64 (n : Int)), (39, .int .i64 (k : Int)), (43, .int .i64 r2), (9, .int .i64 r2)] [(40, BytesS ZK), (41, PairV r2 X2), (34, PairV r2 X2), (42, BytesS X2), (8, BytesS X2)] [] [] rfl (by kernel_rfl) (by kernel_rfl) (by kernel_rfl) (by kernel_rfl) (by kernel_rfl) (by kernel_rfl) (by kernel_rfl) (by kernel_rfl) (by kernel_rfl) (by kernel_rfl) (by kernel_rfl) ?hst1 ?hst2 (Below.refl _ _) (fun hA => ⟨ow_val hA (wants_none rfl) 35 (.pointer (some ⟨w.heap.size, 0, none⟩)) (by kernel_rfl) rfl rfl rfl rfl (by kernel_rfl) (fun w => by kernel_rfl), ow_partA hA (wants_none rfl) 36 (.agg (ints .u8 key)) (by kernel_rfl) rfl rfl rfl rfl (by kernel_rfl) 22 (.tmp 35) rfl (w.heap.size) 0 (by kernel_rfl) 26 (lockA key n (.slice pd nd cd)) (ints .u8 key) 32 5 Try.underlying22 (by rw [ints_size, LK.out]; exact t32_info) (fun w1 hb => B2.under hb) (lock_key _ _ _) rfl, ow_val hA (wants_none rfl) 37 (.pointer (some ⟨w.heap.size, 32, none⟩)) (by kernel_rfl) rfl rfl rfl rfl (by kernel_rfl) (fun w => by kernel_rfl), ow_elem hA (wants_none rfl) 38 (.int .u64 (n : Int)) (by kernel_rfl) rfl rfl rfl rfl (by kernel_rfl) 23 ag_u64 (.tmp 37) rfl (⟨w.heap.size, 32, none⟩) (by kernel_rfl) (fun w1 hb => (B2.under hb).cell (lock_num _ _ _ LK.out)), ow_val hA (wants_none rfl) 39 (.int .i64 (k : Int)) (by kernel_rfl) rfl rfl rfl rfl (by kernel_rfl) (fun w => by kernel_rfl), ow_makeV hA (wants_none rfl) 40 39 k rfl rfl (by kernel_rfl) (by kernel_rfl) rfl rfl (by omega) ZK HZK.out rfl, ow_call (wants_none rfl) 41 9 Try.f9 _ [.tmp 36, .tmp 38, .tmp 40, .const (.slice none 0 0)] _ rfl rfl Try.func9 (by kernel_rfl) rfl (fun a w1 hF hb hgot => by rw [List.map_cons, List.map_cons, List.map_cons, List.map_cons, List.map_nil, gotE_det (v := .agg (ints .u8 key)) hA hgot (by kernel_rfl) rfl rfl (by kernel_rfl), gotE_det (v := .int .u64 (n : Int)) hA hgot (by kernel_rfl) rfl rfl (by kernel_rfl)]; exact (C2.out _ w1 (gotE_spec hgot (BytesS ZK) (by kernel_rfl) rfl rfl).1).mono fun e w2 hh => by obtain ⟨u, h1, h2, h3⟩ := hh; exact ⟨_, h1, rel_spec _ rfl ⟨u, rfl, h2⟩, h3, fun h => by cases h⟩), ow_pure (wants_none rfl) 34 41 rfl _ _ rfl rfl (by kernel_rfl) rfl rfl (fun a w1 h1 => mv_pair rfl h1), ow_pure (wants_none rfl) 42 34 rfl _ _ rfl rfl (by kernel_rfl) rfl rfl (fun a w1 h1 => ex_fst rfl h1), ow_pureD hA (wants_none rfl) 43 34 rfl _ (.int .i64 r2) rfl rfl (by kernel_rfl) (by kernel_rfl) rfl rfl (fun a w1 h1 => ex_snd rfl h1), ow_pure (wants_none rfl) 8 42 rfl _ _ rfl rfl (by kernel_rfl) rfl rfl (fun a w1 h1 => as_bytes rfl h1), ow_val hA (wants_none rfl) 9 (.int .i64 r2) (by kernel_rfl) rfl rfl rfl rfl (by kernel_rfl) (fun w => by kernel_rfl), trivial⟩) ?_
    case hst1 =>
      intro q hq hO v u3 u4 h1 h2 h3 h4
      simp only [List.mem_cons, List.not_mem_nil, or_false] at hq
      rcases hq with rfl | rfl | rfl | rfl | rfl
      · exact BytesV.under h1 (h4 rfl)
      · exact PairV.under h1 (h4 rfl)
      · exact PairV.under h1 (h4 rfl)
      · exact BytesV.under h1 (h4 rfl)
      · exact BytesV.under h1 (h4 rfl)
    case hst2 => intro q hq hO; cases hO
    intro fv w3 hf hDD hb3
    simp only [putR, List.foldl_cons, List.foldl_nil, List.map_cons, List.map_nil, Act.put, List.setIfInBounds_toArray, List.set_cons_succ, List.set_cons_zero]
    generalize fv 40 = f40 at *
    generalize fv 41 = f41 at *
    generalize fv 34 = f34 at *
    generalize fv 42 = f42 at *
    generalize fv 8 = f8 at *
    have B3 := B2.under hb3
    have Q3 := Q2.trans (hb3.mono Q2.size)
    have V63 : Kept _ := ⟨V6.out.under hb3⟩
    clear hf hDD B2 Q2 hb3 C2 V6
    refine (show wpList _ _ _ [] _ _ from ?_)
    refine wpList_nil ?_
    by_cases hK : 60000 < k
    case pos =>
      have hK' : (60000 : Int) < (k : Int) := by omega
      have HB := hbig.out hK
      clear hbig hok V63
      go_wp2_with fail
      refine region_ownNL w3 13 [(47, .pointer (some ⟨w.heap.size, 0, none⟩)), (48, .agg (ints .u8 key)), (49, .pointer (some ⟨w.heap.size, 32, none⟩)), (50, .int .u64 (n : Int)), (51, .int .i64 (k : Int)), (52, .int .i64 (k2 : Int)), (56, .int .i64 r3), (11, .int .i64 r3)] [(53, BytesS ZK2), (54, PairV r3 X3), (46, PairV r3 X3), (55, BytesS X3), (10, BytesS X3)] [] [] rfl (by kernel_rfl) (by kernel_rfl) (by kernel_rfl) (by kernel_rfl) (by kernel_rfl) (by kernel_rfl) (by kernel_rfl) (by kernel_rfl) (by kernel_rfl) (by kernel_rfl) (by kernel_rfl) ?hst1 ?hst2 (Below.refl _ _) (fun hA => ⟨ow_val hA (wants_none rfl) 47 (.pointer (some ⟨w.heap.size, 0, none⟩)) (by kernel_rfl) rfl rfl rfl rfl (by kernel_rfl) (fun w => by kernel_rfl), ow_partA hA (wants_none rfl) 48 (.agg (ints .u8 key)) (by kernel_rfl) rfl rfl rfl rfl (by kernel_rfl) 22 (.tmp 47) rfl (w.heap.size) 0 (by kernel_rfl) 26 (lockA key n (.slice pd nd cd)) (ints .u8 key) 32 5 Try.underlying22 (by rw [ints_size, LK.out]; exact t32_info) (fun w1 hb => B3.under hb) (lock_key _ _ _) rfl, ow_val hA (wants_none rfl) 49 (.pointer (some ⟨w.heap.size, 32, none⟩)) (by kernel_rfl) rfl rfl rfl rfl (by kernel_rfl) (fun w => by kernel_rfl), ow_elem hA (wants_none rfl) 50 (.int .u64 (n : Int)) (by kernel_rfl) rfl rfl rfl rfl (by kernel_rfl) 23 ag_u64 (.tmp 49) rfl (⟨w.heap.size, 32, none⟩) (by kernel_rfl) (fun w1 hb => (B3.under hb).cell (lock_num _ _ _ LK.out)), ow_val hA (wants_none rfl) 51 (.int .i64 (k : Int)) (by kernel_rfl) rfl rfl rfl rfl (by kernel_rfl) (fun w => by kernel_rfl), ow_val hA (wants_none rfl) 52 (.int .i64 (k2 : Int)) (by kernel_rfl) rfl rfl rfl rfl (by kernel_rfl) (fun w => run_addZ 16 rfl (by kernel_rfl) Ek2.out k262 w), ow_makeV hA (wants_none rfl) 53 52 k2 rfl rfl (by kernel_rfl) (by kernel_rfl) rfl rfl (by omega) ZK2 HZK2.out rfl, ow_call (wants_none rfl) 54 11 Try.f11 _ [.tmp 48, .tmp 50, .const (.slice none 0 0), .tmp 53] _ rfl rfl Try.func11 (by kernel_rfl) rfl (fun a w1 hF hb hgot => by rw [List.map_cons, List.map_cons, List.map_cons, List.map_cons, List.map_nil, gotE_det (v := .agg (ints .u8 key)) hA hgot (by kernel_rfl) rfl rfl (by kernel_rfl), gotE_det (v := .int .u64 (n : Int)) hA hgot (by kernel_rfl) rfl rfl (by kernel_rfl)]; exact (C3.out _ w1 (gotE_spec hgot (BytesS ZK2) (by kernel_rfl) rfl rfl).1).mono fun e w2 hh => by obtain ⟨u, h1, h2, h3⟩ := hh; exact ⟨_, h1, rel_spec _ rfl ⟨u, rfl, h2⟩, h3, fun h => by cases h⟩), ow_pure (wants_none rfl) 46 54 rfl _ _ rfl rfl (by kernel_rfl) rfl rfl (fun a w1 h1 => mv_pair rfl h1), ow_pure (wants_none rfl) 55 46 rfl _ _ rfl rfl (by kernel_rfl) rfl rfl (fun a w1 h1 => ex_fst rfl h1), ow_pureD hA (wants_none rfl) 56 46 rfl _ (.int .i64 r3) rfl rfl (by kernel_rfl) (by kernel_rfl) rfl rfl (fun a w1 h1 => ex_snd rfl h1), ow_pure (wants_none rfl) 10 55 rfl _ _ rfl rfl (by kernel_rfl) rfl rfl (fun a w1 h1 => as_bytes rfl h1), ow_val hA (wants_none rfl) 11 (.int .i64 r3) (by kernel_rfl) rfl rfl rfl rfl (by kernel_rfl) (fun w => by kernel_rfl), trivial⟩) ?_
      case hst1 =>
        intro q hq hO v u3 u4 h1 h2 h3 h4
        simp only [List.mem_cons, List.not_mem_nil, or_false] at hq
        rcases hq with rfl | rfl | rfl | rfl | rfl
        · exact BytesV.under h1 (h4 rfl)
        · exact PairV.under h1 (h4 rfl)
        · exact PairV.under h1 (h4 rfl)
        · exact BytesV.under h1 (h4 rfl)
        · exact BytesV.under h1 (h4 rfl)
      case hst2 => intro q hq hO; cases hO
      intro fv w4 hf hDD hb4
      simp only [putR, List.foldl_cons, List.foldl_nil, List.map_cons, List.map_nil, Act.put, List.setIfInBounds_toArray, List.set_cons_succ, List.set_cons_zero]
      generalize fv 53 = f53 at *
      generalize fv 54 = f54 at *
      generalize fv 46 = f46 at *
      generalize fv 55 = f55 at *
      generalize fv 10 = f10 at *
      have Q4 := Q3.trans (hb4.mono Q3.size)
      clear hf hDD B3 Q3 hb4 C3
      obtain ⟨rfl, rfl, rfl⟩ := HB
      refine (show wpList _ _ _ [] _ _ from ?_)
      refine wpList_nil ?_
      go_wp2_with fail
      go_ret
      exact ⟨rfl, Q4⟩
    case neg =>
      have hK' : ¬ (60000 : Int) < (k : Int) := by omega
      obtain ⟨rfl, rfl, hl, CO⟩ := hok.out hK
      obtain ⟨px, cx, rfl⟩ := slice_form V63.out hl
      have C4 := CO _ w3 V63.out
      clear hbig hok V63 CO hl C3
      go_wp2_with (first | ((with_reducible refine wv_val (d := 68) ?hd ?hw (.pointer (some ⟨w.heap.size, 0, none⟩)) ?hr ?_); (case hd => rfl); (case hw => kernel_rfl); (case hr => intro w; kernel_rfl); simp only [Act.put, List.setIfInBounds_toArray, List.set_cons_succ, List.set_cons_zero]) | ((with_reducible refine wv_partA (d := 69) ?hd ?hw 22 (.tmp 68) ?ho (w.heap.size) 0 ?hx (t' := 26) (lockA key n (.slice pd nd cd)) (ints .u8 key) 32 5 Try.underlying22 ?hs ?hg ?hp ?_); (case hd => rfl); (case hw => kernel_rfl); (case ho => rfl); (case hx => kernel_rfl); (case hs => rw [ints_size, LK.out]; exact t32_info); (case hg => exact B3); (case hp => exact lock_key _ _ _); simp only [Act.put, List.setIfInBounds_toArray, List.set_cons_succ, List.set_cons_zero]) | ((with_reducible refine wv_val (d := 70) ?hd ?hw (.pointer (some ⟨w.heap.size, 32, none⟩)) ?hr ?_); (case hd => rfl); (case hw => kernel_rfl); (case hr => intro w; kernel_rfl); simp only [Act.put, List.setIfInBounds_toArray, List.set_cons_succ, List.set_cons_zero]) | ((with_reducible refine wv_elem (d := 71) ?hd ?hw 23 ag_u64 (.tmp 70) ?ho (⟨w.heap.size, 32, none⟩) ?hx (.int .u64 (n : Int)) ?hc ?_); (case hd => rfl); (case hw => kernel_rfl); (case ho => rfl); (case hx => kernel_rfl); (case hc => exact B3.cell (lock_num _ _ _ LK.out)); simp only [Act.put, List.setIfInBounds_toArray, List.set_cons_succ, List.set_cons_zero]))
      refine C4.mono ?_
      rintro e w4 ⟨v4, rfl, h4, hb4⟩
      have Q4 := Q3.trans (hb4.mono Q3.size)
      obtain ⟨py, cy, rfl⟩ := slice_form h4 KLZ.out
      clear B3 Q3 hb4 h4 C4
      go_wp2_with (first | ((with_reducible refine wv_val (d := 90) ?hd ?hw (.bool true) ?hr ?_); (case hd => rfl); (case hw => kernel_rfl); (case hr => intro w; exact run_eq3 (r := k) rfl (by kernel_rfl) (by kernel_rfl) w); simp only [Act.put, List.setIfInBounds_toArray, List.set_cons_succ, List.set_cons_zero]))
      go_ret
      exact ⟨rfl, Q4⟩
end Go.Proofs.Ytpamcmhfimnfbaa.sh
