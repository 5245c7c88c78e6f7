/-
  WholeShared, walked.
-/
import Derived.Test.YtkibojjbghopkaaDoorWP
namespace Go.Proofs.YtkibojjbghopkaaDoor.sh
open Go Go.RowKit
set_option linter.unusedVariables false
set_option linter.unusedSimpArgs false

theorem numA_ints (n : Nat) : numA n = ints .u8 (digs n 32) := by simp [numA, ints, digs]
theorem run_eq3w {o : Oper} {a : Act} {x y : Operand} {r : Nat} (ho : o.op = .binOp .eql 3 x y 3) (hx : a.eval x = .int .i64 (r : Int)) (hy : a.eval y = .int .i64 (r : Int)) (w : World) : (execOp a.eval o).run Tryd.prog w = .ok (.value (.bool true)) w := by
  unfold execOp
  simp only [ho, hx, hy]
  simp [go_sem]
theorem key_bytes {w : World} {g off : Nat} {t : TypeId} {cur : Array Value} {k : List Nat} (h : Blk w g t cur) (hk : k.length = 32) (hp : ∀ (j : Nat) (v : Value), (ints .u8 k)[j]? = some v → cur[off + j]? = some v) : BytesV (.slice (some ⟨g, off, none⟩) 32 32) w k := by
  refine ⟨_, 32, by rw [hk], by omega, fun _ => ⟨_, rfl, h.lt, fun j x hx => ?_⟩⟩
  rw [addr_add]
  exact h.cell (hp j _ (ints_get hx))

set_option maxRecDepth 100000 in
set_option maxHeartbeats 4000000 in
theorem shared7 (a b : Nat) (vt : Value) (tx : List Nat) (w : World) (la : a < 115792089237316195423570985008687907853269984665640564039457584007913129639936) (lb : b < 115792089237316195423570985008687907853269984665640564039457584007913129639936) (hvt : BytesV vt w tx) (hyt : Bytes tx) (hlt : tx.length ≤ maxLen) (hp : PrimeAt w) (hr : RootsAt w) :
    Calls Tryd.prog 3 #[.agg (numA a), .agg (numA b), vt] w fun e w' => e = .returned (.bool true) ∧ Below w.heap.size w w' := by
  have La : Kept _ := ⟨la⟩
  have Lb : Kept _ := ⟨lb⟩
  have HP : Kept _ := ⟨hp⟩
  have HR : Kept _ := ⟨hr⟩
  obtain ⟨pb, hpb⟩ : ∃ r, r = XN b 9 := ⟨_, rfl⟩
  obtain ⟨ca, hca⟩ : ∃ r, r = clampN a := ⟨_, rfl⟩
  obtain ⟨cb, hcb⟩ : ∃ r, r = clampN b := ⟨_, rfl⟩
  obtain ⟨pca, hpca⟩ : ∃ r, r = XN ca 9 := ⟨_, rfl⟩
  obtain ⟨r, hrr⟩ : ∃ r, r = XN a pb := ⟨_, rfl⟩
  have Epb : Kept (pb = XN b 9) := ⟨hpb⟩
  have Eca : Kept (ca = clampN a) := ⟨hca⟩
  have Ecb : Kept (cb = clampN b) := ⟨hcb⟩
  have Epca : Kept (pca = XN ca 9) := ⟨hpca⟩
  have ERa : Kept (r = XN a pb) := ⟨hrr⟩
  have ERb : Kept (r = XN cb pca) := ⟨by rw [hrr, hpb, hpca, hca, hcb, XN_ck b (clampN b) _ _ (clamp_twice b) rfl, XN_ck a (clampN a) 9 9 (clamp_twice a) rfl]; exact XN_comm a b 9⟩
  have Lpb : Kept (pb < 115792089237316195423570985008687907853269984665640564039457584007913129639936) := ⟨by rw [hpb]; exact XN_lt _ _⟩
  have Lca : Kept (ca < 115792089237316195423570985008687907853269984665640564039457584007913129639936) := ⟨by rw [hca]; exact clampN_lt _⟩
  have Lcb : Kept (cb < 115792089237316195423570985008687907853269984665640564039457584007913129639936) := ⟨by rw [hcb]; exact clampN_lt _⟩
  have Lpca : Kept (pca < 115792089237316195423570985008687907853269984665640564039457584007913129639936) := ⟨by rw [hpca]; exact XN_lt _ _⟩
  have RZ : Kept ((!decide (r % 57896044618658097711785492504343953926634992332820282019728792003956564819949 = 0)) = true) := ⟨by
    have h1 : r % 57896044618658097711785492504343953926634992332820282019728792003956564819949 = r := by rw [hrr]; exact Nat.mod_eq_of_lt (XN_ltp _ _)
    have h2 : ¬ r = 0 := by rw [hrr, hpb]; exact XN_some a b
    rw [h1, decide_eq_false h2]; rfl⟩
  obtain ⟨RL, hRL⟩ : ∃ l, l = digs r 32 := ⟨_, rfl⟩
  have ERL : Kept (numA r = ints .u8 RL) := ⟨by rw [hRL]; exact numA_ints r⟩
  have LRL : Kept (RL.length = 32) := ⟨by rw [hRL]; exact digs_len _ _⟩
  have YRL : Kept (Bytes RL) := ⟨by rw [hRL]; exact digs_bytes _ _⟩
  have KT : Kept _ := ⟨hvt⟩
  obtain ⟨nt, hnt⟩ : ∃ n, n = tx.length := ⟨_, rfl⟩
  obtain ⟨pt, ct, rfl⟩ := slice_form hvt hnt.symm
  have ENT : Kept _ := ⟨hnt⟩
  have YT : Kept _ := ⟨hyt⟩
  clear la lb hp hr hpb hca hcb hpca hrr hRL hvt hyt hlt hnt
  go_enter Tryd.func3, Tryd.ntmps3
  go_wp2_with fail
  generalize hW : (w.alloc (.cells (numA a) 22)).alloc (.cells (numA b) 22) = w0
  obtain ⟨Aa, Ab, Q0⟩ := two_nums w a b w0 hW
  clear hW
  have HP0 : Kept (PrimeAt w0) := ⟨PrimeAt.below HP.out Q0⟩
  have C0 : Kept (∀ w', Below w0.heap.size w0 w' → Calls Tryd.prog 5 [.agg (numA b)].toArray w' fun e w2 => e = .returned (.agg (numA pb)) ∧ Below w'.heap.size w' w2) := ⟨fun w' hb => by rw [Epb.out]; exact Pub_any b w' Lb.out (PrimeAt.below HP0.out hb)⟩
  have C1 : Kept (∀ w', Below w0.heap.size w0 w' → Calls Tryd.prog 4 [.agg (numA a), .agg (numA pb)].toArray w' fun e w2 => e = .returned (.tuple #[.agg (numA r), .bool true]) ∧ Below w'.heap.size w' w2) := ⟨fun w' hb => by have hc := Shared_any a pb w' La.out Lpb.out (PrimeAt.below HP0.out hb); rw [← ERa.out, RZ.out] at hc; exact hc⟩
  refine region_made1 (W0 := w0) [(20, .agg (numA a)), (21, .agg (numA b)), (22, .agg (numA pb)), (23, .tuple #[.agg (numA r), .bool true]), (19, .tuple #[.agg (numA r), .bool true]), (24, .agg (numA r)), (25, .bool true), (8, .bool true)] 7 8 7 r (by kernel_rfl) (by kernel_rfl) (by kernel_rfl) (by kernel_rfl) (by kernel_rfl) (by kernel_rfl) (by kernel_rfl) (by kernel_rfl) (by kernel_rfl) (by kernel_rfl) (by kernel_rfl) (Below.refl _ _) ⟨ok_get (by rfl) 20 (w.heap.size) a (.tmp 3) rfl (by kernel_rfl) rfl (by kernel_rfl) (fun w hb => At.under Aa hb), ok_get (by rfl) 21 (w.heap.size + 1) b (.tmp 4) rfl (by kernel_rfl) rfl (by kernel_rfl) (fun w hb => At.under Ab hb), ok_call (by rfl) 22 5 Tryd.f5 _ (.func 5) [.tmp 21] _ [.agg (numA b)] (.agg (numA pb)) rfl (by kernel_rfl) rfl (by kernel_rfl) (by kernel_rfl) Tryd.func5 (by kernel_rfl) rfl C0.out, ok_call (by rfl) 23 4 Tryd.f4 _ (.func 4) [.tmp 20, .tmp 22] _ [.agg (numA a), .agg (numA pb)] (.tuple #[.agg (numA r), .bool true]) rfl (by kernel_rfl) rfl (by kernel_rfl) (by kernel_rfl) Tryd.func4 (by kernel_rfl) rfl C1.out, ok_val (by rfl) 19 (.tuple #[.agg (numA r), .bool true]) rfl (by kernel_rfl) (fun w => by kernel_rfl), ok_val (by rfl) 24 (.agg (numA r)) rfl (by kernel_rfl) (fun w => by kernel_rfl), ok_val (by rfl) 25 (.bool true) rfl (by kernel_rfl) (fun w => by kernel_rfl), ok_new (by rfl) 7 rfl Go.Proofs.YtkibojjbghopkaaDoor.zero32 rfl makes_num, ok_put 7 r 7 24 (by rfl) rfl rfl (by kernel_rfl) (by rfl) (by kernel_rfl) (by kernel_rfl) (by kernel_rfl), ok_val (by rfl) 8 (.bool true) rfl (by kernel_rfl) (fun w => by kernel_rfl), trivial⟩ ?_
  intro g7 w2 hg7 F7 hb2
  simp only [putAll, List.foldl_cons, List.foldl_nil, Act.put, List.setIfInBounds_toArray, List.set_cons_succ, List.set_cons_zero]
  clear C0 C1 HP0
  have Aa2 := Aa.under hb2
  have Ab2 := Ab.under hb2
  have Q2 := Q0.trans (hb2.mono Q0.size)
  clear Aa Ab Q0 hb2 hg7
  have HP2 : Kept (PrimeAt w2) := ⟨PrimeAt.below HP.out Q2⟩
  go_wp2_with fail
  have C0 : Kept (∀ w', Below w2.heap.size w2 w' → Calls Tryd.prog 6 [.agg (numA b)].toArray w' fun e w3 => e = .returned (.agg (numA cb)) ∧ Below w'.heap.size w' w3) := ⟨fun w' hb => by rw [Ecb.out]; exact Clamp_any b w' Lb.out⟩
  have C1 : Kept (∀ w', Below w2.heap.size w2 w' → Calls Tryd.prog 6 [.agg (numA a)].toArray w' fun e w3 => e = .returned (.agg (numA ca)) ∧ Below w'.heap.size w' w3) := ⟨fun w' hb => by rw [Eca.out]; exact Clamp_any a w' La.out⟩
  have C2 : Kept (∀ w', Below w2.heap.size w2 w' → Calls Tryd.prog 5 [.agg (numA ca)].toArray w' fun e w3 => e = .returned (.agg (numA pca)) ∧ Below w'.heap.size w' w3) := ⟨fun w' hb => by rw [Epca.out]; exact Pub_any ca w' Lca.out (PrimeAt.below HP2.out hb)⟩
  have C3 : Kept (∀ w', Below w2.heap.size w2 w' → Calls Tryd.prog 4 [.agg (numA cb), .agg (numA pca)].toArray w' fun e w3 => e = .returned (.tuple #[.agg (numA r), .bool true]) ∧ Below w'.heap.size w' w3) := ⟨fun w' hb => by have hc := Shared_any cb pca w' Lcb.out Lpca.out (PrimeAt.below HP2.out hb); rw [← ERb.out, RZ.out] at hc; exact hc⟩
  refine region_made1 (W0 := w2) [(27, .agg (numA b)), (28, .agg (numA cb)), (29, .agg (numA a)), (30, .agg (numA ca)), (31, .agg (numA pca)), (32, .tuple #[.agg (numA r), .bool true]), (26, .tuple #[.agg (numA r), .bool true]), (33, .agg (numA r)), (34, .bool true), (10, .bool true)] 9 10 9 r (by kernel_rfl) (by kernel_rfl) (by kernel_rfl) (by kernel_rfl) (by kernel_rfl) (by kernel_rfl) (by kernel_rfl) (by kernel_rfl) (by kernel_rfl) (by kernel_rfl) (by kernel_rfl) (Below.refl _ _) ⟨ok_get (by rfl) 27 (w.heap.size + 1) b (.tmp 4) rfl (by kernel_rfl) rfl (by kernel_rfl) (fun w hb => At.under Ab2 hb), ok_call (by rfl) 28 6 Tryd.f6 _ (.func 6) [.tmp 27] _ [.agg (numA b)] (.agg (numA cb)) rfl (by kernel_rfl) rfl (by kernel_rfl) (by kernel_rfl) Tryd.func6 (by kernel_rfl) rfl C0.out, ok_get (by rfl) 29 (w.heap.size) a (.tmp 3) rfl (by kernel_rfl) rfl (by kernel_rfl) (fun w hb => At.under Aa2 hb), ok_call (by rfl) 30 6 Tryd.f6 _ (.func 6) [.tmp 29] _ [.agg (numA a)] (.agg (numA ca)) rfl (by kernel_rfl) rfl (by kernel_rfl) (by kernel_rfl) Tryd.func6 (by kernel_rfl) rfl C1.out, ok_call (by rfl) 31 5 Tryd.f5 _ (.func 5) [.tmp 30] _ [.agg (numA ca)] (.agg (numA pca)) rfl (by kernel_rfl) rfl (by kernel_rfl) (by kernel_rfl) Tryd.func5 (by kernel_rfl) rfl C2.out, ok_call (by rfl) 32 4 Tryd.f4 _ (.func 4) [.tmp 28, .tmp 31] _ [.agg (numA cb), .agg (numA pca)] (.tuple #[.agg (numA r), .bool true]) rfl (by kernel_rfl) rfl (by kernel_rfl) (by kernel_rfl) Tryd.func4 (by kernel_rfl) rfl C3.out, ok_val (by rfl) 26 (.tuple #[.agg (numA r), .bool true]) rfl (by kernel_rfl) (fun w => by kernel_rfl), ok_val (by rfl) 33 (.agg (numA r)) rfl (by kernel_rfl) (fun w => by kernel_rfl), ok_val (by rfl) 34 (.bool true) rfl (by kernel_rfl) (fun w => by kernel_rfl), ok_new (by rfl) 9 rfl Go.Proofs.YtkibojjbghopkaaDoor.zero32 rfl makes_num, ok_put 9 r 9 33 (by rfl) rfl rfl (by kernel_rfl) (by rfl) (by kernel_rfl) (by kernel_rfl) (by kernel_rfl), ok_val (by rfl) 10 (.bool true) rfl (by kernel_rfl) (fun w => by kernel_rfl), trivial⟩ ?_
  intro g9 w3 hg9 F9 hb3
  simp only [putAll, List.foldl_cons, List.foldl_nil, Act.put, List.setIfInBounds_toArray, List.set_cons_succ, List.set_cons_zero]
  have B7 : Blk w3 g7 22 (ints .u8 RL) := by rw [← ERL.out]; exact F7.under hb3
  have B9 : Blk w3 g9 22 (ints .u8 RL) := by rw [← ERL.out]; exact F9
  have Q3 := Q2.trans (hb3.mono Q2.size)
  clear C0 C1 C2 C3 HP2 Aa2 Ab2 F7 F9 Q2 hb3 hg9
  rw [ERL.out]
  by_cases h5 : 500 < nt
  case pos =>
    have h5' : (500 : Int) < (nt : Int) := by omega
    go_wp2_with (first | ((with_reducible refine wv_row (d := 42) ?hd ?hw 22 (.tmp 7) ?ho (g7) ?hx (t' := 22) (ints .u8 RL) _ _ Tryd.underlying22 ?hs ?hg ?_); (case hd => rfl); (case hw => kernel_rfl); (case ho => rfl); (case hx => kernel_rfl); (case hs => rw [ints_size, LRL.out]; exact t32_info); (case hg => exact B7); simp only [Act.put, List.setIfInBounds_toArray, List.set_cons_succ, List.set_cons_zero]) | ((with_reducible refine wv_row (d := 43) ?hd ?hw 22 (.tmp 9) ?ho (g9) ?hx (t' := 22) (ints .u8 RL) _ _ Tryd.underlying22 ?hs ?hg ?_); (case hd => rfl); (case hw => kernel_rfl); (case ho => rfl); (case hx => kernel_rfl); (case hs => rw [ints_size, LRL.out]; exact t32_info); (case hg => exact B9); simp only [Act.put, List.setIfInBounds_toArray, List.set_cons_succ, List.set_cons_zero]) | ((with_reducible refine wv_val (d := 44) ?hd ?hw (.bool false) ?hr ?_); (case hd => rfl); (case hw => kernel_rfl); (case hr => intro w; rw [run_neq_row RL RL rfl (by kernel_rfl) (by kernel_rfl) LRL.out LRL.out Tryd.underlying22 Tryd.underlying5 sz_u8 ag_u8 eg32]; rw [decide_eq_true rfl]; rfl); simp only [Act.put, List.setIfInBounds_toArray, List.set_cons_succ, List.set_cons_zero]))
    go_ret
    exact ⟨rfl, Q3⟩
  case neg =>
    have h5' : ¬ (500 : Int) < (nt : Int) := by omega
    obtain ⟨K0, hK0⟩ : ∃ l, l = tL (macL RL tx) [] 1 := ⟨_, rfl⟩
    obtain ⟨K1, hK1⟩ : ∃ l, l = tL (macL RL tx) [] 2 := ⟨_, rfl⟩
    have EK0 : Kept ((keysL RL tx 2)[0]? = some K0) := ⟨by rw [hK0]; exact keysL_get RL tx 2 0 (by decide)⟩
    have EK1 : Kept ((keysL RL tx 2)[1]? = some K1) := ⟨by rw [hK1]; exact keysL_get RL tx 2 1 (by decide)⟩
    have LK0 : Kept (K0.length = 32) := ⟨by rw [hK0]; exact tL_len _ _ 0⟩
    have LK1 : Kept (K1.length = 32) := ⟨by rw [hK1]; exact tL_len _ _ 1⟩
    have YK0 : Kept (Bytes K0) := ⟨by rw [hK0]; exact tL_bytes _ _ _⟩
    have YK1 : Kept (Bytes K1) := ⟨by rw [hK1]; exact tL_bytes _ _ _⟩
    obtain ⟨X, hX⟩ : ∃ l, l = sealL K0 7 K1 tx := ⟨_, rfl⟩
    obtain ⟨nx, hnx⟩ : ∃ q, q = nt + 16 := ⟨_, rfl⟩
    have LX : Kept (X.length = nx) := ⟨by rw [hX, sealL_len, hnx, ENT.out]⟩
    have Enx : Kept _ := ⟨hnx⟩
    have nx62 : nx < 4611686018427387904 := by omega
    have CKY : Kept (∀ w', Below w3.heap.size w3 w' → Calls Tryd.prog 7 #[.agg (ints .u8 RL), .slice pt nt ct, .int .i64 2] w' fun e w2 => ∃ v, e = .returned (.tuple #[v, .int .i64 0]) ∧ KeysV v w2 (keysL RL tx 2) ∧ Below w'.heap.size w' w2) := ⟨fun w' hb => by
      refine (Keys_ok RL tx 2 _ w' LRL.out YRL.out YT.out (by rw [← ENT.out]; omega) (by decide) (by decide) ((HR.out.below HR.out.1 Q3).under hb) ((KT.out.under Q3).under hb)).mono ?_
      rintro e w2 ⟨v, h1, h2, h3⟩
      exact ⟨v, h1, h2.keys (keysL_32 RL tx 2), h3⟩⟩
    have CSQ : Kept (∀ (va : Value) (w' : World), Below w.heap.size w w' → BytesV va w' K1 → Calls Tryd.prog 8 [.agg (ints .u8 K0), .int .u64 7, va, .slice pt nt ct].toArray w' fun e w2 => ∃ v, e = .returned (.tuple #[v, .int .i64 0]) ∧ BytesV v w2 X ∧ Below w'.heap.size w' w2) := ⟨fun va w' hb hv => by
      have h := SealD K0 7 K1 tx va _ w' LK0.out YK0.out (by decide) hv (KT.out.under hb) YK1.out YT.out
      rw [sealP_ok _ _ _ _ (by rw [LK1.out]; decide) (by rw [← ENT.out]; omega), ← hX] at h
      exact h⟩
    have COQ : Kept (∀ (va vx : Value) (w' : World), BytesV va w' K1 → BytesV vx w' X → Calls Tryd.prog 9 [.agg (ints .u8 K0), .int .u64 7, va, vx].toArray w' fun e w2 => ∃ v, e = .returned (.tuple #[v, .int .i64 0]) ∧ BytesV v w2 tx ∧ Below w'.heap.size w' w2) := ⟨fun va vx w' hv hx => by
      have h := OpenD K0 7 K1 X va vx w' LK0.out YK0.out (by decide) hv hx YK1.out (by rw [hX]; exact sealL_bytes _ _ _ YT.out)
      rw [hX, openP_seal _ _ _ _ (by rw [LK1.out]; decide) (by rw [← ENT.out]; omega)] at h
      exact h⟩
    clear hK0 hK1 hX hnx
    go_wp2_with (first | ((with_reducible refine wv_row (d := 42) ?hd ?hw 22 (.tmp 7) ?ho (g7) ?hx (t' := 22) (ints .u8 RL) _ _ Tryd.underlying22 ?hs ?hg ?_); (case hd => rfl); (case hw => kernel_rfl); (case ho => rfl); (case hx => kernel_rfl); (case hs => rw [ints_size, LRL.out]; exact t32_info); (case hg => exact B7); simp only [Act.put, List.setIfInBounds_toArray, List.set_cons_succ, List.set_cons_zero]) | ((with_reducible refine wv_row (d := 43) ?hd ?hw 22 (.tmp 9) ?ho (g9) ?hx (t' := 22) (ints .u8 RL) _ _ Tryd.underlying22 ?hs ?hg ?_); (case hd => rfl); (case hw => kernel_rfl); (case ho => rfl); (case hx => kernel_rfl); (case hs => rw [ints_size, LRL.out]; exact t32_info); (case hg => exact B9); simp only [Act.put, List.setIfInBounds_toArray, List.set_cons_succ, List.set_cons_zero]) | ((with_reducible refine wv_val (d := 44) ?hd ?hw (.bool false) ?hr ?_); (case hd => rfl); (case hw => kernel_rfl); (case hr => intro w; rw [run_neq_row RL RL rfl (by kernel_rfl) (by kernel_rfl) LRL.out LRL.out Tryd.underlying22 Tryd.underlying5 sz_u8 ag_u8 eg32]; rw [decide_eq_true rfl]; rfl); simp only [Act.put, List.setIfInBounds_toArray, List.set_cons_succ, List.set_cons_zero]) | ((with_reducible refine wv_row (d := 50) ?hd ?hw 22 (.tmp 7) ?ho (g7) ?hx (t' := 22) (ints .u8 RL) _ _ Tryd.underlying22 ?hs ?hg ?_); (case hd => rfl); (case hw => kernel_rfl); (case ho => rfl); (case hx => kernel_rfl); (case hs => rw [ints_size, LRL.out]; exact t32_info); (case hg => exact B7); simp only [Act.put, List.setIfInBounds_toArray, List.set_cons_succ, List.set_cons_zero]))
    refine (CKY.out w3 (Below.refl _ _)).mono ?_
    rintro e w4 ⟨v4, rfl, K4, hb4⟩
    obtain ⟨p8, c8, e8, _, hg8⟩ := K4
    rw [keysL_len] at e8
    obtain ⟨g8, cur, rfl, B84, hcur⟩ := hg8 (by intro e; rw [e] at EK0; cases EK0.out)
    subst e8
    have P0 : Kept (∀ (j : Nat) (v : Value), (ints .u8 K0)[j]? = some v → cur[0 + j]? = some v) := ⟨hcur 0 K0 EK0.out⟩
    have P1 : Kept (∀ (j : Nat) (v : Value), (ints .u8 K1)[j]? = some v → cur[32 + j]? = some v) := ⟨hcur 1 K1 EK1.out⟩
    have D9 := B9.under hb4
    clear hg8 hcur B7 B9
    go_wp2_with (first | ((with_reducible refine wv_row (d := 56) ?hd ?hw 22 (.tmp 9) ?ho (g9) ?hx (t' := 22) (ints .u8 RL) _ _ Tryd.underlying22 ?hs ?hg ?_); (case hd => rfl); (case hw => kernel_rfl); (case ho => rfl); (case hx => kernel_rfl); (case hs => rw [ints_size, LRL.out]; exact t32_info); (case hg => exact D9); simp only [Act.put, List.setIfInBounds_toArray, List.set_cons_succ, List.set_cons_zero]))
    refine (CKY.out w4 hb4).mono ?_
    rintro e w5 ⟨v5, rfl, K5, hb5⟩
    obtain ⟨p8, d8, e8, _, hg8⟩ := K5
    rw [keysL_len] at e8
    obtain ⟨h8, cuh, rfl, C8, hcuh⟩ := hg8 (by intro e; rw [e] at EK0; cases EK0.out)
    subst e8
    have PH0 : Kept (∀ (j : Nat) (v : Value), (ints .u8 K0)[j]? = some v → cuh[0 + j]? = some v) := ⟨hcuh 0 K0 EK0.out⟩
    have PH1 : Kept (∀ (j : Nat) (v : Value), (ints .u8 K1)[j]? = some v → cuh[32 + j]? = some v) := ⟨hcuh 1 K1 EK1.out⟩
    have B8 := B84.under hb5
    have Q5 := Q3.trans ((hb4.trans (hb5.mono hb4.size)).mono Q3.size)
    clear hg8 hcuh B84 D9 hb4 hb5 Q3 CKY EK0 EK1
    go_wp2_with fail
    refine region_ownL w5 34 [(61, .int .i64 0), (62, .bool false), (63, .bool false), (64, .int .i64 0), (65, .bool false), (66, .bool false), (67, .bool false), (68, .slice (some ⟨g8, 0, none⟩) 2 c8), (69, .int .i64 2), (70, .bool false), (71, .bool false), (72, .bool false), (73, .slice (some ⟨h8, 0, none⟩) 2 d8), (74, .int .i64 2), (75, .bool false), (76, .bool false), (77, .bool false), (78, .slice (some ⟨g8, 0, none⟩) 2 c8), (79, .pointer (some ⟨g8, 0, none⟩)), (80, .agg (ints .u8 K0)), (81, .slice (some ⟨h8, 0, none⟩) 2 d8), (82, .pointer (some ⟨h8, 0, none⟩)), (83, .agg (ints .u8 K0)), (84, .bool false), (85, .bool false), (86, .bool false), (87, .slice (some ⟨g8, 0, none⟩) 2 c8), (88, .pointer (some ⟨g8, 32, none⟩)), (89, .agg (ints .u8 K1)), (90, .slice (some ⟨h8, 0, none⟩) 2 d8), (91, .pointer (some ⟨h8, 32, none⟩)), (92, .agg (ints .u8 K1)), (93, .bool false), (94, .bool false)] [] [] [] rfl (by kernel_rfl) (by kernel_rfl) (by kernel_rfl) (by kernel_rfl) (by kernel_rfl) (by kernel_rfl) (by kernel_rfl) (by kernel_rfl) (by kernel_rfl) (by kernel_rfl) (by kernel_rfl) ?hst1 ?hst2 (Below.refl _ _) (fun hA => ⟨ow_val hA (wants_none rfl) 61 (.int .i64 0) (by kernel_rfl) rfl rfl rfl rfl (by kernel_rfl) (fun w => by kernel_rfl), ow_val hA (wants_none rfl) 62 (.bool false) (by kernel_rfl) rfl rfl rfl rfl (by kernel_rfl) (fun w => by kernel_rfl), ow_val hA (wants_none rfl) 63 (.bool false) (by kernel_rfl) rfl rfl rfl rfl (by kernel_rfl) (fun w => by kernel_rfl), ow_val hA (wants_at hA 2 false 63 rfl rfl (by kernel_rfl) rfl rfl (by kernel_rfl)) 64 (.int .i64 0) (by kernel_rfl) rfl rfl rfl rfl (by kernel_rfl) (fun w => by kernel_rfl), ow_val hA (wants_at hA 2 false 63 rfl rfl (by kernel_rfl) rfl rfl (by kernel_rfl)) 65 (.bool false) (by kernel_rfl) rfl rfl rfl rfl (by kernel_rfl) (fun w => by kernel_rfl), ow_val hA (wants_none rfl) 66 (.bool false) (by kernel_rfl) rfl rfl rfl rfl (by kernel_rfl) (fun w => by kernel_rfl), ow_val hA (wants_none rfl) 67 (.bool false) (by kernel_rfl) rfl rfl rfl rfl (by kernel_rfl) (fun w => by kernel_rfl), ow_val hA (wants_at hA 6 false 67 rfl rfl (by kernel_rfl) rfl rfl (by kernel_rfl)) 68 (.slice (some ⟨g8, 0, none⟩) 2 c8) (by kernel_rfl) rfl rfl rfl rfl (by kernel_rfl) (fun w => by kernel_rfl), ow_val hA (wants_at hA 6 false 67 rfl rfl (by kernel_rfl) rfl rfl (by kernel_rfl)) 69 (.int .i64 2) (by kernel_rfl) rfl rfl rfl rfl (by kernel_rfl) (fun w => by kernel_rfl), ow_val hA (wants_at hA 6 false 67 rfl rfl (by kernel_rfl) rfl rfl (by kernel_rfl)) 70 (.bool false) (by kernel_rfl) rfl rfl rfl rfl (by kernel_rfl) (fun w => by kernel_rfl), ow_val hA (wants_none rfl) 71 (.bool false) (by kernel_rfl) rfl rfl rfl rfl (by kernel_rfl) (fun w => by kernel_rfl), ow_val hA (wants_none rfl) 72 (.bool false) (by kernel_rfl) rfl rfl rfl rfl (by kernel_rfl) (fun w => by kernel_rfl), ow_val hA (wants_at hA 11 false 72 rfl rfl (by kernel_rfl) rfl rfl (by kernel_rfl)) 73 (.slice (some ⟨h8, 0, none⟩) 2 d8) (by kernel_rfl) rfl rfl rfl rfl (by kernel_rfl) (fun w => by kernel_rfl), ow_val hA (wants_at hA 11 false 72 rfl rfl (by kernel_rfl) rfl rfl (by kernel_rfl)) 74 (.int .i64 2) (by kernel_rfl) rfl rfl rfl rfl (by kernel_rfl) (fun w => by kernel_rfl), ow_val hA (wants_at hA 11 false 72 rfl rfl (by kernel_rfl) rfl rfl (by kernel_rfl)) 75 (.bool false) (by kernel_rfl) rfl rfl rfl rfl (by kernel_rfl) (fun w => by kernel_rfl), ow_val hA (wants_none rfl) 76 (.bool false) (by kernel_rfl) rfl rfl rfl rfl (by kernel_rfl) (fun w => by kernel_rfl), ow_val hA (wants_none rfl) 77 (.bool false) (by kernel_rfl) rfl rfl rfl rfl (by kernel_rfl) (fun w => by kernel_rfl), ow_val hA (wants_at hA 16 false 77 rfl rfl (by kernel_rfl) rfl rfl (by kernel_rfl)) 78 (.slice (some ⟨g8, 0, none⟩) 2 c8) (by kernel_rfl) rfl rfl rfl rfl (by kernel_rfl) (fun w => by kernel_rfl), ow_val hA (wants_at hA 16 false 77 rfl rfl (by kernel_rfl) rfl rfl (by kernel_rfl)) 79 (.pointer (some ⟨g8, 0, none⟩)) (by kernel_rfl) rfl rfl rfl rfl (by kernel_rfl) (fun w => run_idxK (i := 0) (l := 2) (c := c8) rfl (by kernel_rfl) (by kernel_rfl) (by decide) w), ow_partA hA (wants_at hA 16 false 77 rfl rfl (by kernel_rfl) rfl rfl (by kernel_rfl)) 80 (.agg (ints .u8 K0)) (by kernel_rfl) rfl rfl rfl rfl (by kernel_rfl) 22 (.tmp 79) rfl (g8) 0 (by kernel_rfl) 22 (cur) (ints .u8 K0) 32 5 Tryd.underlying22 (by rw [ints_size, LK0.out]; exact t32_info) (fun w1 hb => B8.under hb) (P0.out) rfl, ow_val hA (wants_at hA 16 false 77 rfl rfl (by kernel_rfl) rfl rfl (by kernel_rfl)) 81 (.slice (some ⟨h8, 0, none⟩) 2 d8) (by kernel_rfl) rfl rfl rfl rfl (by kernel_rfl) (fun w => by kernel_rfl), ow_val hA (wants_at hA 16 false 77 rfl rfl (by kernel_rfl) rfl rfl (by kernel_rfl)) 82 (.pointer (some ⟨h8, 0, none⟩)) (by kernel_rfl) rfl rfl rfl rfl (by kernel_rfl) (fun w => run_idxK (i := 0) (l := 2) (c := d8) rfl (by kernel_rfl) (by kernel_rfl) (by decide) w), ow_partA hA (wants_at hA 16 false 77 rfl rfl (by kernel_rfl) rfl rfl (by kernel_rfl)) 83 (.agg (ints .u8 K0)) (by kernel_rfl) rfl rfl rfl rfl (by kernel_rfl) 22 (.tmp 82) rfl (h8) 0 (by kernel_rfl) 22 (cuh) (ints .u8 K0) 32 5 Tryd.underlying22 (by rw [ints_size, LK0.out]; exact t32_info) (fun w1 hb => C8.under hb) (PH0.out) rfl, ow_val hA (wants_at hA 16 false 77 rfl rfl (by kernel_rfl) rfl rfl (by kernel_rfl)) 84 (.bool false) (by kernel_rfl) rfl rfl rfl rfl (by kernel_rfl) (fun w => by rw [run_neq_row K0 K0 rfl (by kernel_rfl) (by kernel_rfl) LK0.out LK0.out Tryd.underlying22 Tryd.underlying5 sz_u8 ag_u8 eg32]; rw [decide_eq_true rfl]; rfl), ow_val hA (wants_none rfl) 85 (.bool false) (by kernel_rfl) rfl rfl rfl rfl (by kernel_rfl) (fun w => by kernel_rfl), ow_val hA (wants_none rfl) 86 (.bool false) (by kernel_rfl) rfl rfl rfl rfl (by kernel_rfl) (fun w => by kernel_rfl), ow_val hA (wants_at hA 25 false 86 rfl rfl (by kernel_rfl) rfl rfl (by kernel_rfl)) 87 (.slice (some ⟨g8, 0, none⟩) 2 c8) (by kernel_rfl) rfl rfl rfl rfl (by kernel_rfl) (fun w => by kernel_rfl), ow_val hA (wants_at hA 25 false 86 rfl rfl (by kernel_rfl) rfl rfl (by kernel_rfl)) 88 (.pointer (some ⟨g8, 32, none⟩)) (by kernel_rfl) rfl rfl rfl rfl (by kernel_rfl) (fun w => run_idxK (i := 1) (l := 2) (c := c8) rfl (by kernel_rfl) (by kernel_rfl) (by decide) w), ow_partA hA (wants_at hA 25 false 86 rfl rfl (by kernel_rfl) rfl rfl (by kernel_rfl)) 89 (.agg (ints .u8 K1)) (by kernel_rfl) rfl rfl rfl rfl (by kernel_rfl) 22 (.tmp 88) rfl (g8) 32 (by kernel_rfl) 22 (cur) (ints .u8 K1) 32 5 Tryd.underlying22 (by rw [ints_size, LK1.out]; exact t32_info) (fun w1 hb => B8.under hb) (P1.out) rfl, ow_val hA (wants_at hA 25 false 86 rfl rfl (by kernel_rfl) rfl rfl (by kernel_rfl)) 90 (.slice (some ⟨h8, 0, none⟩) 2 d8) (by kernel_rfl) rfl rfl rfl rfl (by kernel_rfl) (fun w => by kernel_rfl), ow_val hA (wants_at hA 25 false 86 rfl rfl (by kernel_rfl) rfl rfl (by kernel_rfl)) 91 (.pointer (some ⟨h8, 32, none⟩)) (by kernel_rfl) rfl rfl rfl rfl (by kernel_rfl) (fun w => run_idxK (i := 1) (l := 2) (c := d8) rfl (by kernel_rfl) (by kernel_rfl) (by decide) w), ow_partA hA (wants_at hA 25 false 86 rfl rfl (by kernel_rfl) rfl rfl (by kernel_rfl)) 92 (.agg (ints .u8 K1)) (by kernel_rfl) rfl rfl rfl rfl (by kernel_rfl) 22 (.tmp 91) rfl (h8) 32 (by kernel_rfl) 22 (cuh) (ints .u8 K1) 32 5 Tryd.underlying22 (by rw [ints_size, LK1.out]; exact t32_info) (fun w1 hb => C8.under hb) (PH1.out) rfl, ow_val hA (wants_at hA 25 false 86 rfl rfl (by kernel_rfl) rfl rfl (by kernel_rfl)) 93 (.bool false) (by kernel_rfl) rfl rfl rfl rfl (by kernel_rfl) (fun w => by rw [run_neq_row K1 K1 rfl (by kernel_rfl) (by kernel_rfl) LK1.out LK1.out Tryd.underlying22 Tryd.underlying5 sz_u8 ag_u8 eg32]; rw [decide_eq_true rfl]; rfl), ow_val hA (wants_none rfl) 94 (.bool false) (by kernel_rfl) rfl rfl rfl rfl (by kernel_rfl) (fun w => by kernel_rfl), trivial⟩) ?_
    case hst1 => intro q hq; cases hq
    case hst2 => intro q hq; cases hq
    intro fv w6 hf hD hb6
    simp only [putR, List.foldl_cons, List.foldl_nil, List.map_cons, List.map_nil, Act.put, List.setIfInBounds_toArray, List.set_cons_succ, List.set_cons_zero]
    refine (show wpList _ _ _ [] _ _ from ?_)
    refine wpList_nil ?_
    have B6 := B8.under hb6
    have C6 := C8.under hb6
    have Q6 := Q5.trans (hb6.mono Q5.size)
    clear hf hD B8 C8 Q5 hb6
    have CSE : Kept (∀ w', Below w6.heap.size w6 w' → Calls Tryd.prog 8 [.agg (ints .u8 K0), .int .u64 7, .slice (some ⟨g8, 32, none⟩) 32 32, .slice pt nt ct].toArray w' fun e w2 => ∃ v, e = .returned (.tuple #[v, .int .i64 0]) ∧ BytesV v w2 X ∧ Below w'.heap.size w' w2) := ⟨fun w' hb => CSQ.out _ w' (Q6.trans (hb.mono Q6.size)) (key_bytes (B6.under hb) LK1.out P1.out)⟩
    go_wp2_with fail
    refine region_ownNL w6 13 [(96, .slice (some ⟨g8, 0, none⟩) 2 c8), (97, .pointer (some ⟨g8, 0, none⟩)), (98, .agg (ints .u8 K0)), (99, .slice (some ⟨g8, 0, none⟩) 2 c8), (100, .pointer (some ⟨g8, 32, none⟩)), (101, .slice (some ⟨g8, 32, none⟩) 32 32), (102, .slice pt nt ct), (105, .int .i64 0), (16, .int .i64 0)] [(103, PairV 0 X), (95, PairV 0 X), (104, BytesS X), (15, BytesS X)] [] [] rfl (by kernel_rfl) (by kernel_rfl) (by kernel_rfl) (by kernel_rfl) (by kernel_rfl) (by kernel_rfl) (by kernel_rfl) (by kernel_rfl) (by kernel_rfl) (by kernel_rfl) (by kernel_rfl) ?hst1 ?hst2 (Below.refl _ _) (fun hA => ⟨ow_val hA (wants_none rfl) 96 (.slice (some ⟨g8, 0, none⟩) 2 c8) (by kernel_rfl) rfl rfl rfl rfl (by kernel_rfl) (fun w => by kernel_rfl), ow_val hA (wants_none rfl) 97 (.pointer (some ⟨g8, 0, none⟩)) (by kernel_rfl) rfl rfl rfl rfl (by kernel_rfl) (fun w => run_idxK (i := 0) (l := 2) (c := c8) rfl (by kernel_rfl) (by kernel_rfl) (by decide) w), ow_partA hA (wants_none rfl) 98 (.agg (ints .u8 K0)) (by kernel_rfl) rfl rfl rfl rfl (by kernel_rfl) 22 (.tmp 97) rfl (g8) 0 (by kernel_rfl) 22 (cur) (ints .u8 K0) 32 5 Tryd.underlying22 (by rw [ints_size, LK0.out]; exact t32_info) (fun w1 hb => B6.under hb) (P0.out) rfl, ow_val hA (wants_none rfl) 99 (.slice (some ⟨g8, 0, none⟩) 2 c8) (by kernel_rfl) rfl rfl rfl rfl (by kernel_rfl) (fun w => by kernel_rfl), ow_val hA (wants_none rfl) 100 (.pointer (some ⟨g8, 32, none⟩)) (by kernel_rfl) rfl rfl rfl rfl (by kernel_rfl) (fun w => run_idxK (i := 1) (l := 2) (c := c8) rfl (by kernel_rfl) (by kernel_rfl) (by decide) w), ow_val hA (wants_none rfl) 101 (.slice (some ⟨g8, 32, none⟩) 32 32) (by kernel_rfl) rfl rfl rfl rfl (by kernel_rfl) (fun w => arr_all_run (off := 32) rfl (by kernel_rfl) Tryd.underlying22 sz_u8 (by decide) w), ow_val hA (wants_none rfl) 102 (.slice pt nt ct) (by kernel_rfl) rfl rfl rfl rfl (by kernel_rfl) (fun w => by kernel_rfl), ow_call (wants_none rfl) 103 8 Tryd.f8 _ [.tmp 98, .const (.int .u64 7), .tmp 101, .tmp 102] _ rfl rfl Tryd.func8 (by kernel_rfl) rfl (fun a w1 hF hb hgot => by rw [List.map_cons, List.map_cons, List.map_cons, List.map_cons, List.map_nil, gotE_det (v := .agg (ints .u8 K0)) hA hgot (by kernel_rfl) rfl rfl (by kernel_rfl), gotE_det (v := .slice (some ⟨g8, 32, none⟩) 32 32) hA hgot (by kernel_rfl) rfl rfl (by kernel_rfl), gotE_det (v := .slice pt nt ct) hA hgot (by kernel_rfl) rfl rfl (by kernel_rfl)]; exact (CSE.out w1 hb).mono fun e w2 hh => by obtain ⟨u, h1, h2, h3⟩ := hh; exact ⟨_, h1, rel_spec _ rfl ⟨u, rfl, h2⟩, h3, fun h => by cases h⟩), ow_pure (wants_none rfl) 95 103 rfl _ _ rfl rfl (by kernel_rfl) rfl rfl (fun a w1 h1 => mv_pair rfl h1), ow_pure (wants_none rfl) 104 95 rfl _ _ rfl rfl (by kernel_rfl) rfl rfl (fun a w1 h1 => ex_fst rfl h1), ow_pureD hA (wants_none rfl) 105 95 rfl _ (.int .i64 0) rfl rfl (by kernel_rfl) (by kernel_rfl) rfl rfl (fun a w1 h1 => ex_snd rfl h1), ow_pure (wants_none rfl) 15 104 rfl _ _ rfl rfl (by kernel_rfl) rfl rfl (fun a w1 h1 => as_bytes rfl h1), ow_val hA (wants_none rfl) 16 (.int .i64 0) (by kernel_rfl) rfl rfl rfl rfl (by kernel_rfl) (fun w => by kernel_rfl), trivial⟩) ?_
    case hst1 =>
      intro q hq hO v u3 u4 h1 h2 h3 h4
      simp only [List.mem_cons, List.not_mem_nil, or_false] at hq
      rcases hq with rfl | rfl | rfl | rfl
      · exact PairV.under h1 (h4 rfl)
      · exact PairV.under h1 (h4 rfl)
      · exact BytesV.under h1 (h4 rfl)
      · exact BytesV.under h1 (h4 rfl)
    case hst2 => intro q hq hO; cases hO
    intro fv w7 hf hD hb7
    have h15 := (hf 15 _ rfl rfl).1
    simp only [putR, List.foldl_cons, List.foldl_nil, List.map_cons, List.map_nil, Act.put, List.setIfInBounds_toArray, List.set_cons_succ, List.set_cons_zero]
    obtain ⟨v15, e15⟩ : ∃ v, v = fv 15 := ⟨_, rfl⟩
    rw [← e15] at h15 ⊢
    have V15 : Kept (BytesV v15 w7 X) := ⟨h15⟩
    generalize fv 103 = f103 at *
    generalize fv 95 = f95 at *
    generalize fv 104 = f104 at *
    have C7 := C6.under hb7
    have Q7 := Q6.trans (hb7.mono Q6.size)
    clear hf hD h15 e15 CSE CSQ B6 C6 Q6 hb7
    obtain ⟨px, cx, rfl⟩ := slice_form V15.out LX.out
    refine (show wpList _ _ _ [] _ _ from ?_)
    refine wpList_nil ?_
    have COP : Kept (∀ w', Below w7.heap.size w7 w' → Calls Tryd.prog 9 [.agg (ints .u8 K0), .int .u64 7, .slice (some ⟨h8, 32, none⟩) 32 32, .slice px nx cx].toArray w' fun e w2 => ∃ v, e = .returned (.tuple #[v, .int .i64 0]) ∧ BytesV v w2 tx ∧ Below w'.heap.size w' w2) := ⟨fun w' hb => COQ.out _ _ w' (key_bytes (C7.under hb) LK1.out PH1.out) (V15.out.under hb)⟩
    go_wp2_with fail
    refine region_ownNL w7 13 [(107, .slice (some ⟨h8, 0, none⟩) 2 d8), (108, .pointer (some ⟨h8, 0, none⟩)), (109, .agg (ints .u8 K0)), (110, .slice (some ⟨h8, 0, none⟩) 2 d8), (111, .pointer (some ⟨h8, 32, none⟩)), (112, .slice (some ⟨h8, 32, none⟩) 32 32), (113, .slice px nx cx), (116, .int .i64 0), (18, .int .i64 0)] [(114, PairV 0 tx), (106, PairV 0 tx), (115, BytesS tx), (17, BytesS tx)] [] [] rfl (by kernel_rfl) (by kernel_rfl) (by kernel_rfl) (by kernel_rfl) (by kernel_rfl) (by kernel_rfl) (by kernel_rfl) (by kernel_rfl) (by kernel_rfl) (by kernel_rfl) (by kernel_rfl) ?hst1 ?hst2 (Below.refl _ _) (fun hA => ⟨ow_val hA (wants_none rfl) 107 (.slice (some ⟨h8, 0, none⟩) 2 d8) (by kernel_rfl) rfl rfl rfl rfl (by kernel_rfl) (fun w => by kernel_rfl), ow_val hA (wants_none rfl) 108 (.pointer (some ⟨h8, 0, none⟩)) (by kernel_rfl) rfl rfl rfl rfl (by kernel_rfl) (fun w => run_idxK (i := 0) (l := 2) (c := d8) rfl (by kernel_rfl) (by kernel_rfl) (by decide) w), ow_partA hA (wants_none rfl) 109 (.agg (ints .u8 K0)) (by kernel_rfl) rfl rfl rfl rfl (by kernel_rfl) 22 (.tmp 108) rfl (h8) 0 (by kernel_rfl) 22 (cuh) (ints .u8 K0) 32 5 Tryd.underlying22 (by rw [ints_size, LK0.out]; exact t32_info) (fun w1 hb => C7.under hb) (PH0.out) rfl, ow_val hA (wants_none rfl) 110 (.slice (some ⟨h8, 0, none⟩) 2 d8) (by kernel_rfl) rfl rfl rfl rfl (by kernel_rfl) (fun w => by kernel_rfl), ow_val hA (wants_none rfl) 111 (.pointer (some ⟨h8, 32, none⟩)) (by kernel_rfl) rfl rfl rfl rfl (by kernel_rfl) (fun w => run_idxK (i := 1) (l := 2) (c := d8) rfl (by kernel_rfl) (by kernel_rfl) (by decide) w), ow_val hA (wants_none rfl) 112 (.slice (some ⟨h8, 32, none⟩) 32 32) (by kernel_rfl) rfl rfl rfl rfl (by kernel_rfl) (fun w => arr_all_run (off := 32) rfl (by kernel_rfl) Tryd.underlying22 sz_u8 (by decide) w), ow_val hA (wants_none rfl) 113 (.slice px nx cx) (by kernel_rfl) rfl rfl rfl rfl (by kernel_rfl) (fun w => by kernel_rfl), ow_call (wants_none rfl) 114 9 Tryd.f9 _ [.tmp 109, .const (.int .u64 7), .tmp 112, .tmp 113] _ rfl rfl Tryd.func9 (by kernel_rfl) rfl (fun a w1 hF hb hgot => by rw [List.map_cons, List.map_cons, List.map_cons, List.map_cons, List.map_nil, gotE_det (v := .agg (ints .u8 K0)) hA hgot (by kernel_rfl) rfl rfl (by kernel_rfl), gotE_det (v := .slice (some ⟨h8, 32, none⟩) 32 32) hA hgot (by kernel_rfl) rfl rfl (by kernel_rfl), gotE_det (v := .slice px nx cx) hA hgot (by kernel_rfl) rfl rfl (by kernel_rfl)]; exact (COP.out w1 hb).mono fun e w2 hh => by obtain ⟨u, h1, h2, h3⟩ := hh; exact ⟨_, h1, rel_spec _ rfl ⟨u, rfl, h2⟩, h3, fun h => by cases h⟩), ow_pure (wants_none rfl) 106 114 rfl _ _ rfl rfl (by kernel_rfl) rfl rfl (fun a w1 h1 => mv_pair rfl h1), ow_pure (wants_none rfl) 115 106 rfl _ _ rfl rfl (by kernel_rfl) rfl rfl (fun a w1 h1 => ex_fst rfl h1), ow_pureD hA (wants_none rfl) 116 106 rfl _ (.int .i64 0) rfl rfl (by kernel_rfl) (by kernel_rfl) rfl rfl (fun a w1 h1 => ex_snd rfl h1), ow_pure (wants_none rfl) 17 115 rfl _ _ rfl rfl (by kernel_rfl) rfl rfl (fun a w1 h1 => as_bytes rfl h1), ow_val hA (wants_none rfl) 18 (.int .i64 0) (by kernel_rfl) rfl rfl rfl rfl (by kernel_rfl) (fun w => by kernel_rfl), trivial⟩) ?_
    case hst1 =>
      intro q hq hO v u3 u4 h1 h2 h3 h4
      simp only [List.mem_cons, List.not_mem_nil, or_false] at hq
      rcases hq with rfl | rfl | rfl | rfl
      · exact PairV.under h1 (h4 rfl)
      · exact PairV.under h1 (h4 rfl)
      · exact BytesV.under h1 (h4 rfl)
      · exact BytesV.under h1 (h4 rfl)
    case hst2 => intro q hq hO; cases hO
    intro fv w8 hf hD hb8
    have h17 := (hf 17 _ rfl rfl).1
    simp only [putR, List.foldl_cons, List.foldl_nil, List.map_cons, List.map_nil, Act.put, List.setIfInBounds_toArray, List.set_cons_succ, List.set_cons_zero]
    obtain ⟨v17, e17⟩ : ∃ v, v = fv 17 := ⟨_, rfl⟩
    rw [← e17] at h17 ⊢
    have V17 : Kept (BytesV v17 w8 tx) := ⟨h17⟩
    generalize fv 114 = f114 at *
    generalize fv 106 = f106 at *
    generalize fv 115 = f115 at *
    have Q8 := Q7.trans (hb8.mono Q7.size)
    have VT8 : Kept _ := ⟨KT.out.under Q8⟩
    clear hf hD h17 e17 COP COQ C7 Q7 hb8 V15
    refine (show wpList _ _ _ [] _ _ from ?_)
    refine wpList_nil ?_
    go_wp2_with (first | ((with_reducible refine wv_str (d := 125) ?hd ?hw (.tmp 124) ?ho (v17) ?hx (tx) ?hl ?_); (case hd => rfl); (case hw => kernel_rfl); (case ho => rfl); (case hx => kernel_rfl); (case hl => exact V17.out); simp only [Act.put, List.setIfInBounds_toArray, List.set_cons_succ, List.set_cons_zero]) | ((with_reducible refine wv_str (d := 127) ?hd ?hw (.tmp 126) ?ho (.slice pt nt ct) ?hx (tx) ?hl ?_); (case hd => rfl); (case hw => kernel_rfl); (case ho => rfl); (case hx => kernel_rfl); (case hl => exact VT8.out); simp only [Act.put, List.setIfInBounds_toArray, List.set_cons_succ, List.set_cons_zero]) | ((with_reducible refine wv_val (d := 128) ?hd ?hw (.bool true) ?hr ?_); (case hd => rfl); (case hw => kernel_rfl); (case hr => intro w; exact run_eql_str (s := strOf tx) rfl (by kernel_rfl) (by kernel_rfl) w); simp only [Act.put, List.setIfInBounds_toArray, List.set_cons_succ, List.set_cons_zero]) | ((with_reducible refine wv_val (d := 135) ?hd ?hw (.int .i64 (nx : Int)) ?hr ?_); (case hd => rfl); (case hw => kernel_rfl); (case hr => intro w; exact run_addZ 16 rfl (by kernel_rfl) Enx.out nx62 w); simp only [Act.put, List.setIfInBounds_toArray, List.set_cons_succ, List.set_cons_zero]) | ((with_reducible refine wv_val (d := 136) ?hd ?hw (.bool true) ?hr ?_); (case hd => rfl); (case hw => kernel_rfl); (case hr => intro w; exact run_eq3w (r := nx) rfl (by kernel_rfl) (by kernel_rfl) w); simp only [Act.put, List.setIfInBounds_toArray, List.set_cons_succ, List.set_cons_zero]))
    go_ret
    exact ⟨rfl, Q8⟩
end Go.Proofs.YtkibojjbghopkaaDoor.sh
