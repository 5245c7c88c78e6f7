/-
  What an act makes of a table.
-/
import Derived.Test.YtfdldpcfdebinaaDoorXV
namespace Go.Proofs.YtfdldpcfdebinaaDoor.sh
open Go Go.RowKit
set_option linter.unusedVariables false
set_option linter.unusedSimpArgs false

theorem wv_valS {ops : Array Oper} {rest : List Oper} {o : Oper} {a : Act} {w : World} {Q : Exit → Act → World → Prop} {d : Nat} (hd : o.dst = some d) (hw : Region.wanted o (yielded ops a.tmps) = true) (v : Value) (hrun : ∀ w, (execOp a.eval o).run Tryd.prog w = .ok (.value v) w) (h : wpList Tryd.prog ops Q rest (a.put (some d) v) w) : wpList Tryd.prog ops Q (o :: rest) a w :=
  wv_val hd hw v hrun (by rw [hd]; exact h)
theorem wl_callS {ops : Array Oper} {rest : List Oper} {o : Oper} {a : Act} {w : World} {Q : Exit → Act → World → Prop} {d : Nat} (hd : o.dst = some d) (hgd : o.guard = none) (f : Nat) (fn : Func) (c : Code) (xs : List Operand) (ts : Array TypeId) (args : Array Value) (ho : o.op = .call { callee := .value (.func f), args := xs.toArray, argTypes := ts }) (hx : (xs.map a.eval).toArray = args) (hf : Tryd.prog.funcs[f]? = some fn) (hname : (fn.name == "runtime.NumGoroutine") = false) (hb : fn.body = some c) {R : Value → World → Prop}
    (hc : Calls Tryd.prog f args w fun e w' => ∃ v, e = .returned v ∧ R v w') (h : ∀ v w', R v w' → wpList Tryd.prog ops Q rest (a.put (some d) v) w') : wpList Tryd.prog ops Q (o :: rest) a w :=
  wl_callC hgd f fn c xs ts args ho hx hf hname hb hc (fun v w' hR => by rw [hd]; exact h v w' hR)
theorem run_remU5 {o : Oper} {a : Act} {x : Operand} {m z : Nat} (ho : o.op = .binOp .rem 5 x (.const (.int .u8 5)) 5) (hx : a.eval x = .int .u8 (m : Int)) (hz : z = m % 5) (w : World) : (execOp a.eval o).run Tryd.prog w = .ok (.value (.int .u8 (z : Int))) w := by
  have e3 : a.eval (.const (.int .u8 5)) = .int .u8 5 := rfl
  have h3 : (m : Int).tmod 5 = (z : Int) := by rw [Int.tmod_eq_emod_of_nonneg (by omega)]; omega
  have h4 : (z : Int) % 256 = (z : Int) := by omega
  unfold execOp
  simp only [ho, hx, e3]
  simp [go_sem, IntKind.wrap_u8', h3, h4]
theorem pick_all {x : ActL} {N g h : Nat} {V : Value} {w : World} (hx : Blk w g 30 (actA x)) (hh : Blk w h 35 #[V]) (hV : ValsV V w (strs (namesL N))) (hN : N < 1000000) : ∀ w4, Below w.heap.size w w4 → ∀ n : Nat, n < 256 →
    Calls Tryd.prog 28 #[.int .u8 (n : Int), .pointer (some ⟨g, 0, none⟩), .pointer (some ⟨h, 0, none⟩)] w4 fun e w' => e = .returned (.string (strOf (pickN N x n))) ∧ Below w4.heap.size w4 w' :=
  fun w4 b n hn => PickD (hx.under b) (hh.under b) (hV.under b) hn (Nat.lt_succ_of_lt hN)
theorem actL_atom {ts : List TermL} {x : ActL} (h : x.kind % 5 = 0) : actL ts x = ((putL ts (1, [x.s])).1, (putL ts (1, [x.s])).2, decide ((putL ts (1, [x.s])).2 ≠ [])) := by
  unfold actL
  simp [h]
theorem actL_pub {ts : List TermL} {x : ActL} (h : x.kind % 5 = 1) : actL ts x = ((putL ts (2, [pickN ts.length x x.a])).1, (putL ts (2, [pickN ts.length x x.a])).2, decide ((putL ts (2, [pickN ts.length x x.a])).2 ≠ [])) := by
  unfold actL
  simp [h, pickN_L]
theorem actL_dh {ts : List TermL} {x : ActL} (h : x.kind % 5 = 2) : actL ts x = dhL ts (pickN ts.length x x.a) (pickN ts.length x x.b) := by
  unfold actL
  simp [h, pickN_L]
theorem actL_hash {ts : List TermL} {x : ActL} (h : x.kind % 5 = 3) : actL ts x = ((putL ts (4, [x.s, pickN ts.length x x.a, pickN ts.length x x.b])).1, (putL ts (4, [x.s, pickN ts.length x x.a, pickN ts.length x x.b])).2, decide ((putL ts (4, [x.s, pickN ts.length x x.a, pickN ts.length x x.b])).2 ≠ [])) := by
  unfold actL
  simp [h, pickN_L]
theorem actL_seal {ts : List TermL} {x : ActL} (h : x.kind % 5 = 4) : actL ts x = ((putL ts (5, [pickN ts.length x x.a, numL x.n, x.s, pickN ts.length x x.b])).1, (putL ts (5, [pickN ts.length x x.a, numL x.n, x.s, pickN ts.length x x.b])).2, decide ((putL ts (5, [pickN ts.length x x.a, numL x.n, x.s, pickN ts.length x x.b])).2 ≠ [])) := by
  unfold actL
  simp [h, pickN_L]
theorem pick_bytes {x : ActL} (h : ActOk x) (N n : Nat) : Bytes (pickN N x n) ∧ (pickN N x n).length ≤ maxLen := by
  unfold pickN
  split
  · exact ⟨h.s, h.len⟩
  · exact ⟨termN_bytes _, termN_max _⟩
section
variable {h : List Oper} {A0 A : Act} {W0 : World} {S : Nat → Option (Value → World → Prop)} {sp O : List Nat} {E : List (Nat × Nat)} {i : Nat} {o : Oper}
/-- Three texts in a slice of their own, in a region that draws its order. -/
theorem ow_bs3 (hA : Full h A0 A S sp) (hw : Wants h A0 A S O E W0.heap.size i o) (d x0 x1 x2 : Nat) (s0 s1 s2 : List Nat) (hd : o.dst = some d) (ho : o.op = .buildSlice 35 3 #[(0, .tmp x0), (1, .tmp x1), (2, .tmp x2)]) (hw0 : waitsFor h o x0 = true) (hw1 : waitsFor h o x1 = true) (hw2 : waitsFor h o x2 = true)
    (h0 : A.tmps[x0]? = some (.string (strOf s0))) (h1 : A.tmps[x1]? = some (.string (strOf s1))) (h2 : A.tmps[x2]? = some (.string (strOf s2))) (c0 : sp.contains x0 = false) (c1 : sp.contains x1 = false) (c2 : sp.contains x2 = false)
    (E0 : (E.all fun q => q.2 != x0 || q.1 == i) = true) (E1 : (E.all fun q => q.2 != x1 || q.1 == i) = true) (E2 : (E.all fun q => q.2 != x2 || q.1 == i) = true) (hO : O.contains d = false) (hp : S d = some (fun v w => ValsV v w (strs [s0, s1, s2]))) : OwnOk Tryd.prog h A0 W0 (relR A S) O E i o :=
  ow_run hw d hd fun a w hF hB hgot => by
    have e0 := gotE_det hA hgot hw0 c0 E0 h0
    have e1 := gotE_det hA hgot hw1 c1 E1 h1
    have e2 := gotE_det hA hgot hw2 c2 E2 h2
    refine ⟨_, _, none, ?_, rel_spec _ hp (new3 s0 s1 s2 w), grown_none ((Below.refl _ _).alloc (Nat.le_refl _) _), fun b hb => (by cases hb), fun h3 => by rw [hO] at h3; cases h3⟩
    unfold execOp
    simp only [ho]
    simp [e0, e1, e2, run_bs3]
end
theorem HashE {tb B : Nat} {ts us : List TermL} {N : List Nat} {M : Nat → Prop} {ll : List (List Nat)} {V : Value} {w : World} (hT : Tab tb B ts M w) (hy : ∀ l ∈ ll, Bytes l) (hV : ValsV V w (strs ll)) (hl : ∀ l ∈ ll, l.length ≤ maxLen) (hn : ts.length < 1000000) (hp : putL ts (4, ll) = (us, N)) :
    Calls Tryd.prog 20 #[.pointer (some ⟨tb, 0, none⟩), V] w fun e w' => e = .returned (.string (strOf N)) ∧ Puts tb B ts M w us w' := by
  have h := HashD hT hy hV hl hn
  rw [hp] at h
  exact h
theorem SealE {tb B n : Nat} {ts us : List TermL} {N : List Nat} {M : Nat → Prop} {k a t : List Nat} {w : World} (hT : Tab tb B ts M w) (hn64 : n < 18446744073709551616) (hk : Bytes k) (ha : Bytes a) (ht : Bytes t) (hkl : k.length ≤ maxLen) (hal : a.length ≤ maxLen) (htl : t.length ≤ maxLen) (hn : ts.length < 1000000) (hp : putL ts (5, [k, numL n, a, t]) = (us, N)) :
    Calls Tryd.prog 22 #[.pointer (some ⟨tb, 0, none⟩), .string (strOf k), .int .u64 (n : Int), .string (strOf a), .string (strOf t)] w fun e w' => e = .returned (.string (strOf N)) ∧ Puts tb B ts M w us w' := by
  have h := SealD hT hn64 hk ha ht hkl hal htl hn
  rw [hp] at h
  exact h
set_option maxRecDepth 100000 in
set_option maxHeartbeats 4000000 in
theorem act0 {tb B : Nat} {ts us : List TermL} {N : List Nat} {F : Bool} {M : Nat → Prop} {x : ActL} {w : World} (hT : Tab tb B ts M w) (hx : ActOk x) (hn : ts.length < 1000000) (hk : x.kind % 5 = 0) (hN : actL ts x = (us, N, F)) :
    Calls Tryd.prog 13 #[.pointer (some ⟨tb, 0, none⟩), .agg (actA x)] w fun e w' => e = .returned (.tuple #[.string (strOf N), .bool F]) ∧ Puts tb B ts M w us w' := by
  have hmf : ∀ (fn : Fn) (first cap : Array Value) (w : World), (Instr.makeFunc fn first cap).run Tryd.prog w = .ok (.func fn first cap) w := fun _ _ _ _ => rfl
  have e1 := actL_atom (ts := ts) hk
  rw [hN] at e1
  have e2 : us = (putL ts (1, [x.s])).1 := congrArg (·.1) e1
  have e3 : N = (putL ts (1, [x.s])).2 := congrArg (·.2.1) e1
  have e4 : F = decide ((putL ts (1, [x.s])).2 ≠ []) := congrArg (·.2.2) e1
  have KP : Kept (putL ts (1, [x.s]) = (us, N)) := ⟨Prod.ext e2.symm e3.symm⟩
  have KNB : Kept (Bytes N) := ⟨by rw [e3]; exact putL_bytes _ _⟩
  have BF : Kept (F = !decide (N = [])) := ⟨by rw [e4, ← e3]; exact decide_not⟩
  clear e2 e3 e4
  have KR : Kept (0 = x.kind % 5) := ⟨hk.symm⟩
  have KT : Kept _ := ⟨hT⟩
  have KOk : Kept _ := ⟨hx⟩
  obtain ⟨AA, hAA⟩ : ∃ AA, AA = actA x := ⟨_, rfl⟩
  have KAA : Kept _ := ⟨hAA⟩
  rw [← hAA]
  have hBT : B ≤ tb ∧ tb < w.heap.size := by
    obtain ⟨mb, v, h1, h2, _⟩ := hT.at'
    exact ⟨h2.1, h1.lt⟩
  have KB : Kept _ := ⟨hBT⟩
  have Ke : Kept _ := ⟨e1⟩
  clear hT hx hN hk hAA e1 hBT
  go_enter Tryd.func13, Tryd.ntmps13
  go_wp2_with fail
  have q1 : Below w.heap.size w (w.alloc (.cells AA 30)) := (Below.refl _ _).alloc (Nat.le_refl _) _
  have hX1 : Blk (w.alloc (.cells AA 30)) w.heap.size 30 (actA x) := by rw [← KAA.out]; exact blk_new _ _ _
  refine (AllD (KT.out.under q1) hn).mono ?_
  rintro e w2 ⟨⟨V, rfl, hV2⟩, q2⟩
  obtain ⟨pV, cV, rfl, _⟩ := vals_form (vrow_vals hV2) (show (strs (namesL ts.length)).length = ts.length by rw [strs_len, namesL_len])
  have hX2 := hX1.under q2
  have q12 := q1.trans (q2.mono q1.size)
  clear hX1 q1 q2

  go_wp2_with (first | ((refine wl_set1 rfl 35 sz_strs (.tmp 6) (.tmp 13) rfl w2.heap.size 0 (.slice pV ts.length cV) (by kernel_rfl) (by kernel_rfl) rfl _ (blk_new w2 35 _) (by simp) ?_); intro w3 hH3 hp3; have q3 : Below w2.heap.size w2 w3 := ((Below.refl _ _).alloc (Nat.le_refl _) _).trans (hp3.below (Nat.le_refl _)); have KX3 : Kept _ := ⟨hX2.under q3⟩; have KH3 : Kept (Blk w3 w2.heap.size 35 #[.slice pV ts.length cV]) := ⟨hH3⟩; have KV3 : Kept _ := ⟨(vrow_vals hV2).under q3⟩; have q13 := q12.trans (q3.mono q12.size); have KT3 : Kept _ := ⟨KT.out.under q13⟩; have KPk : Kept _ := ⟨pick_all KX3.out KH3.out KV3.out hn⟩; clear hH3 hp3 q3 hX2 hV2 q12; simp only [Act.put, List.setIfInBounds_toArray, List.set_cons_succ, List.set_cons_zero]) | ((with_reducible refine wv_elem (d := 16) ?hd ?hw 5 Tryd.isAgg5 (.tmp 15) ?ho (⟨w.heap.size, 0, none⟩) ?hx (.int .u8 (x.kind : Int)) ?hc ?_); (case hd => rfl); (case hw => kernel_rfl); (case ho => rfl); (case hx => kernel_rfl); (case hc => exact (KX3.out.cell rfl)); simp only [Act.put, List.setIfInBounds_toArray, List.set_cons_succ, List.set_cons_zero]) | ((with_reducible refine wv_val (d := 17) ?hd ?hw (.int .u8 ((0 : Nat) : Int)) ?hr ?_); (case hd => rfl); (case hw => kernel_rfl); (case hr => intro w; exact run_remU5 rfl (by kernel_rfl) KR.out w); simp only [Act.put, List.setIfInBounds_toArray, List.set_cons_succ, List.set_cons_zero]) | ((with_reducible refine wv_elem (d := 22) ?hd ?hw 9 ag_str (.tmp 21) ?ho (⟨w.heap.size, 4, none⟩) ?hx (.string (strOf x.s)) ?hc ?_); (case hd => rfl); (case hw => kernel_rfl); (case ho => rfl); (case hx => kernel_rfl); (case hc => exact (KX3.out.cell rfl)); simp only [Act.put, List.setIfInBounds_toArray, List.set_cons_succ, List.set_cons_zero]))
  refine (AtomE KT3.out KOk.out.s KOk.out.len hn KP.out rfl).mono ?_
  rintro e w5 ⟨rfl, hPu⟩
  have KPu : Kept _ := ⟨hPu.from q13⟩
  clear hPu
  go_wp2_with (first | ((with_reducible refine wv_val (d := 26) ?hd ?hw (.bool F) ?hr ?_); (case hd => rfl); (case hw => kernel_rfl); (case hr => intro w; exact run_sneq (m := []) rfl (by kernel_rfl) rfl KNB.out nil_bytes BF.out w); simp only [Act.put, List.setIfInBounds_toArray, List.set_cons_succ, List.set_cons_zero]))
  go_ret2
  exact ⟨rfl, KPu.out⟩
set_option maxRecDepth 100000 in
set_option maxHeartbeats 4000000 in
theorem act1 {tb B : Nat} {ts us : List TermL} {N : List Nat} {F : Bool} {M : Nat → Prop} {x : ActL} {w : World} (hT : Tab tb B ts M w) (hx : ActOk x) (hn : ts.length < 1000000) (hk : x.kind % 5 = 1) (hN : actL ts x = (us, N, F)) :
    Calls Tryd.prog 13 #[.pointer (some ⟨tb, 0, none⟩), .agg (actA x)] w fun e w' => e = .returned (.tuple #[.string (strOf N), .bool F]) ∧ Puts tb B ts M w us w' := by
  have hmf : ∀ (fn : Fn) (first cap : Array Value) (w : World), (Instr.makeFunc fn first cap).run Tryd.prog w = .ok (.func fn first cap) w := fun _ _ _ _ => rfl
  have e1 := actL_pub (ts := ts) hk
  rw [hN] at e1
  have e2 : us = (putL ts (2, [(pickN ts.length x x.a)])).1 := congrArg (·.1) e1
  have e3 : N = (putL ts (2, [(pickN ts.length x x.a)])).2 := congrArg (·.2.1) e1
  have e4 : F = decide ((putL ts (2, [(pickN ts.length x x.a)])).2 ≠ []) := congrArg (·.2.2) e1
  have KP : Kept (putL ts (2, [(pickN ts.length x x.a)]) = (us, N)) := ⟨Prod.ext e2.symm e3.symm⟩
  have KNB : Kept (Bytes N) := ⟨by rw [e3]; exact putL_bytes _ _⟩
  have BF : Kept (F = !decide (N = [])) := ⟨by rw [e4, ← e3]; exact decide_not⟩
  clear e2 e3 e4
  have KR : Kept (1 = x.kind % 5) := ⟨hk.symm⟩
  have KT : Kept _ := ⟨hT⟩
  have KOk : Kept _ := ⟨hx⟩
  obtain ⟨AA, hAA⟩ : ∃ AA, AA = actA x := ⟨_, rfl⟩
  have KAA : Kept _ := ⟨hAA⟩
  rw [← hAA]
  have hBT : B ≤ tb ∧ tb < w.heap.size := by
    obtain ⟨mb, v, h1, h2, _⟩ := hT.at'
    exact ⟨h2.1, h1.lt⟩
  have KB : Kept _ := ⟨hBT⟩
  have Ke : Kept _ := ⟨e1⟩
  clear hT hx hN hk hAA e1 hBT
  go_enter Tryd.func13, Tryd.ntmps13
  go_wp2_with fail
  have q1 : Below w.heap.size w (w.alloc (.cells AA 30)) := (Below.refl _ _).alloc (Nat.le_refl _) _
  have hX1 : Blk (w.alloc (.cells AA 30)) w.heap.size 30 (actA x) := by rw [← KAA.out]; exact blk_new _ _ _
  refine (AllD (KT.out.under q1) hn).mono ?_
  rintro e w2 ⟨⟨V, rfl, hV2⟩, q2⟩
  obtain ⟨pV, cV, rfl, _⟩ := vals_form (vrow_vals hV2) (show (strs (namesL ts.length)).length = ts.length by rw [strs_len, namesL_len])
  have hX2 := hX1.under q2
  have q12 := q1.trans (q2.mono q1.size)
  clear hX1 q1 q2

  go_wp2_with (first | ((refine wl_set1 rfl 35 sz_strs (.tmp 6) (.tmp 13) rfl w2.heap.size 0 (.slice pV ts.length cV) (by kernel_rfl) (by kernel_rfl) rfl _ (blk_new w2 35 _) (by simp) ?_); intro w3 hH3 hp3; have q3 : Below w2.heap.size w2 w3 := ((Below.refl _ _).alloc (Nat.le_refl _) _).trans (hp3.below (Nat.le_refl _)); have KX3 : Kept _ := ⟨hX2.under q3⟩; have KH3 : Kept (Blk w3 w2.heap.size 35 #[.slice pV ts.length cV]) := ⟨hH3⟩; have KV3 : Kept _ := ⟨(vrow_vals hV2).under q3⟩; have q13 := q12.trans (q3.mono q12.size); have KT3 : Kept _ := ⟨KT.out.under q13⟩; have KPk : Kept _ := ⟨pick_all KX3.out KH3.out KV3.out hn⟩; clear hH3 hp3 q3 hX2 hV2 q12; simp only [Act.put, List.setIfInBounds_toArray, List.set_cons_succ, List.set_cons_zero]) | ((with_reducible refine wv_elem (d := 16) ?hd ?hw 5 Tryd.isAgg5 (.tmp 15) ?ho (⟨w.heap.size, 0, none⟩) ?hx (.int .u8 (x.kind : Int)) ?hc ?_); (case hd => rfl); (case hw => kernel_rfl); (case ho => rfl); (case hx => kernel_rfl); (case hc => exact (KX3.out.cell rfl)); simp only [Act.put, List.setIfInBounds_toArray, List.set_cons_succ, List.set_cons_zero]) | ((with_reducible refine wv_val (d := 17) ?hd ?hw (.int .u8 ((1 : Nat) : Int)) ?hr ?_); (case hd => rfl); (case hw => kernel_rfl); (case hr => intro w; exact run_remU5 rfl (by kernel_rfl) KR.out w); simp only [Act.put, List.setIfInBounds_toArray, List.set_cons_succ, List.set_cons_zero]) | ((with_reducible refine wv_elem (d := 32) ?hd ?hw 5 Tryd.isAgg5 (.tmp 31) ?ho (⟨w.heap.size, 1, none⟩) ?hx (.int .u8 (x.a : Int)) ?hc ?_); (case hd => rfl); (case hw => kernel_rfl); (case ho => rfl); (case hx => kernel_rfl); (case hc => exact (KX3.out.cell rfl)); simp only [Act.put, List.setIfInBounds_toArray, List.set_cons_succ, List.set_cons_zero]) | ((refine wl_callV rfl 28 Tryd.f28 _ (.tmp 30) [.tmp 32] _ #[.pointer (some ⟨w.heap.size, 0, none⟩), .pointer (some ⟨w2.heap.size, 0, none⟩)] #[.int .u8 (x.a : Int), .pointer (some ⟨w.heap.size, 0, none⟩), .pointer (some ⟨w2.heap.size, 0, none⟩)] rfl (by kernel_rfl) (by kernel_rfl) Tryd.func28 (by kernel_rfl) rfl _ (KPk.out _ (Below.refl _ _) _ KOk.out.a) ?_); intro w4 b4; simp only [Act.put, List.setIfInBounds_toArray, List.set_cons_succ, List.set_cons_zero]))
  refine (PubE (KT3.out.under b4) (pick_bytes KOk.out _ _).1 (pick_bytes KOk.out _ _).2 hn KP.out rfl).mono ?_
  rintro e w5 ⟨rfl, hPu⟩
  have KPu : Kept _ := ⟨hPu.from (q13.trans (b4.mono q13.size))⟩
  clear hPu
  go_wp2_with (first | ((with_reducible refine wv_val (d := 37) ?hd ?hw (.bool F) ?hr ?_); (case hd => rfl); (case hw => kernel_rfl); (case hr => intro w; exact run_sneq (m := []) rfl (by kernel_rfl) rfl KNB.out nil_bytes BF.out w); simp only [Act.put, List.setIfInBounds_toArray, List.set_cons_succ, List.set_cons_zero]))
  go_ret2
  exact ⟨rfl, KPu.out⟩
set_option maxRecDepth 100000 in
set_option maxHeartbeats 4000000 in
theorem act2 {tb B : Nat} {ts us : List TermL} {N : List Nat} {F : Bool} {M : Nat → Prop} {x : ActL} {w : World} (hT : Tab tb B ts M w) (hx : ActOk x) (hn : ts.length < 1000000) (hk : x.kind % 5 = 2) (hN : actL ts x = (us, N, F)) :
    Calls Tryd.prog 13 #[.pointer (some ⟨tb, 0, none⟩), .agg (actA x)] w fun e w' => e = .returned (.tuple #[.string (strOf N), .bool F]) ∧ Puts tb B ts M w us w' := by
  have hmf : ∀ (fn : Fn) (first cap : Array Value) (w : World), (Instr.makeFunc fn first cap).run Tryd.prog w = .ok (.func fn first cap) w := fun _ _ _ _ => rfl
  have e1 := actL_dh (ts := ts) hk
  rw [hN] at e1
  have KR : Kept (2 = x.kind % 5) := ⟨hk.symm⟩
  have KT : Kept _ := ⟨hT⟩
  have KOk : Kept _ := ⟨hx⟩
  obtain ⟨AA, hAA⟩ : ∃ AA, AA = actA x := ⟨_, rfl⟩
  have KAA : Kept _ := ⟨hAA⟩
  rw [← hAA]
  have hBT : B ≤ tb ∧ tb < w.heap.size := by
    obtain ⟨mb, v, h1, h2, _⟩ := hT.at'
    exact ⟨h2.1, h1.lt⟩
  have KB : Kept _ := ⟨hBT⟩
  have Ke : Kept _ := ⟨e1⟩
  clear hT hx hN hk hAA e1 hBT
  go_enter Tryd.func13, Tryd.ntmps13
  go_wp2_with fail
  have q1 : Below w.heap.size w (w.alloc (.cells AA 30)) := (Below.refl _ _).alloc (Nat.le_refl _) _
  have hX1 : Blk (w.alloc (.cells AA 30)) w.heap.size 30 (actA x) := by rw [← KAA.out]; exact blk_new _ _ _
  refine (AllD (KT.out.under q1) hn).mono ?_
  rintro e w2 ⟨⟨V, rfl, hV2⟩, q2⟩
  obtain ⟨pV, cV, rfl, _⟩ := vals_form (vrow_vals hV2) (show (strs (namesL ts.length)).length = ts.length by rw [strs_len, namesL_len])
  have hX2 := hX1.under q2
  have q12 := q1.trans (q2.mono q1.size)
  clear hX1 q1 q2

  go_wp2_with (first | ((refine wl_set1 rfl 35 sz_strs (.tmp 6) (.tmp 13) rfl w2.heap.size 0 (.slice pV ts.length cV) (by kernel_rfl) (by kernel_rfl) rfl _ (blk_new w2 35 _) (by simp) ?_); intro w3 hH3 hp3; have q3 : Below w2.heap.size w2 w3 := ((Below.refl _ _).alloc (Nat.le_refl _) _).trans (hp3.below (Nat.le_refl _)); have KX3 : Kept _ := ⟨hX2.under q3⟩; have KH3 : Kept (Blk w3 w2.heap.size 35 #[.slice pV ts.length cV]) := ⟨hH3⟩; have KV3 : Kept _ := ⟨(vrow_vals hV2).under q3⟩; have q13 := q12.trans (q3.mono q12.size); have KT3 : Kept _ := ⟨KT.out.under q13⟩; have KPk : Kept _ := ⟨pick_all KX3.out KH3.out KV3.out hn⟩; clear hH3 hp3 q3 hX2 hV2 q12; simp only [Act.put, List.setIfInBounds_toArray, List.set_cons_succ, List.set_cons_zero]) | ((with_reducible refine wv_elem (d := 16) ?hd ?hw 5 Tryd.isAgg5 (.tmp 15) ?ho (⟨w.heap.size, 0, none⟩) ?hx (.int .u8 (x.kind : Int)) ?hc ?_); (case hd => rfl); (case hw => kernel_rfl); (case ho => rfl); (case hx => kernel_rfl); (case hc => exact (KX3.out.cell rfl)); simp only [Act.put, List.setIfInBounds_toArray, List.set_cons_succ, List.set_cons_zero]) | ((with_reducible refine wv_val (d := 17) ?hd ?hw (.int .u8 ((2 : Nat) : Int)) ?hr ?_); (case hd => rfl); (case hw => kernel_rfl); (case hr => intro w; exact run_remU5 rfl (by kernel_rfl) KR.out w); simp only [Act.put, List.setIfInBounds_toArray, List.set_cons_succ, List.set_cons_zero]))
  refine region_ownXL w3 9 [(40, .pointer (some ⟨tb, 0, none⟩)), (41, .func (.func 28) #[] #[.pointer (some ⟨w.heap.size, 0, none⟩), .pointer (some ⟨w2.heap.size, 0, none⟩)]), (42, .pointer (some ⟨w.heap.size, 1, none⟩)), (43, .int .u8 (x.a : Int)), (44, .string (strOf (pickN ts.length x x.a))), (45, .func (.func 28) #[] #[.pointer (some ⟨w.heap.size, 0, none⟩), .pointer (some ⟨w2.heap.size, 0, none⟩)]), (46, .pointer (some ⟨w.heap.size, 2, none⟩)), (47, .int .u8 (x.b : Int)), (48, .string (strOf (pickN ts.length x x.b)))] [] [] [] rfl (by kernel_rfl) (by kernel_rfl) (by kernel_rfl) (by kernel_rfl) (by kernel_rfl) (by kernel_rfl) (by kernel_rfl) (by kernel_rfl) (by kernel_rfl) (by kernel_rfl) ?hst1 ?hst2 (Below.refl _ _) (fun hA => ⟨ow_val hA (wants_none rfl) 40 (.pointer (some ⟨tb, 0, none⟩)) (by kernel_rfl) rfl rfl rfl rfl (by kernel_rfl) (fun w => by kernel_rfl), ow_val hA (wants_none rfl) 41 (.func (.func 28) #[] #[.pointer (some ⟨w.heap.size, 0, none⟩), .pointer (some ⟨w2.heap.size, 0, none⟩)]) (by kernel_rfl) rfl rfl rfl rfl (by kernel_rfl) (fun w => by kernel_rfl), ow_val hA (wants_none rfl) 42 (.pointer (some ⟨w.heap.size, 1, none⟩)) (by kernel_rfl) rfl rfl rfl rfl (by kernel_rfl) (fun w => by kernel_rfl), ow_elem hA (wants_none rfl) 43 (.int .u8 (x.a : Int)) (by kernel_rfl) rfl rfl rfl rfl (by kernel_rfl) 5 Tryd.isAgg5 (.tmp 42) rfl (⟨w.heap.size, 1, none⟩) (by kernel_rfl) (fun w1 hb => ((KX3.out.under hb).cell rfl)), ow_callV hA (wants_none rfl) 44 (.string (strOf (pickN ts.length x x.a))) (by kernel_rfl) rfl rfl rfl rfl (by kernel_rfl) 28 Tryd.f28 _ (.tmp 41) [.tmp 43] _ #[.pointer (some ⟨w.heap.size, 0, none⟩), .pointer (some ⟨w2.heap.size, 0, none⟩)] [.int .u8 (x.a : Int), .pointer (some ⟨w.heap.size, 0, none⟩), .pointer (some ⟨w2.heap.size, 0, none⟩)] rfl (by kernel_rfl) (by kernel_rfl) Tryd.func28 (by kernel_rfl) rfl (fun w4 hb4 => KPk.out w4 hb4 _ KOk.out.a), ow_val hA (wants_none rfl) 45 (.func (.func 28) #[] #[.pointer (some ⟨w.heap.size, 0, none⟩), .pointer (some ⟨w2.heap.size, 0, none⟩)]) (by kernel_rfl) rfl rfl rfl rfl (by kernel_rfl) (fun w => by kernel_rfl), ow_val hA (wants_none rfl) 46 (.pointer (some ⟨w.heap.size, 2, none⟩)) (by kernel_rfl) rfl rfl rfl rfl (by kernel_rfl) (fun w => by kernel_rfl), ow_elem hA (wants_none rfl) 47 (.int .u8 (x.b : Int)) (by kernel_rfl) rfl rfl rfl rfl (by kernel_rfl) 5 Tryd.isAgg5 (.tmp 46) rfl (⟨w.heap.size, 2, none⟩) (by kernel_rfl) (fun w1 hb => ((KX3.out.under hb).cell rfl)), ow_callV hA (wants_none rfl) 48 (.string (strOf (pickN ts.length x x.b))) (by kernel_rfl) rfl rfl rfl rfl (by kernel_rfl) 28 Tryd.f28 _ (.tmp 45) [.tmp 47] _ #[.pointer (some ⟨w.heap.size, 0, none⟩), .pointer (some ⟨w2.heap.size, 0, none⟩)] [.int .u8 (x.b : Int), .pointer (some ⟨w.heap.size, 0, none⟩), .pointer (some ⟨w2.heap.size, 0, none⟩)] rfl (by kernel_rfl) (by kernel_rfl) Tryd.func28 (by kernel_rfl) rfl (fun w4 hb4 => KPk.out w4 hb4 _ KOk.out.b), trivial⟩) ?_
  case hst1 => intro q hq; cases hq
  case hst2 => intro q hq; cases hq
  intro fv w4 hf hD b4
  simp only [putR, List.foldl_cons, List.foldl_nil, List.map_cons, List.map_nil, Act.put, List.setIfInBounds_toArray, List.set_cons_succ, List.set_cons_zero]
  clear hf hD
  refine any1 (f := 4) (i := 9) rfl (by kernel_rfl) rfl ?_
  refine wl_callS (d := 49) rfl rfl 21 Tryd.f21 _ [.tmp 40, .tmp 44, .tmp 48] _ _ rfl rfl Tryd.func21 (by kernel_rfl) rfl (R := fun u w' => u = .tuple #[.string (strOf N), .bool F] ∧ Puts tb B ts M w4 us w') ?_ ?_
  · exact (DhE (KT3.out.under b4) (pick_bytes KOk.out _ _).1 (pick_bytes KOk.out _ _).1 (pick_bytes KOk.out _ _).2 (pick_bytes KOk.out _ _).2 hn Ke.out.symm).mono fun e w' h => ⟨_, h.1, rfl, h.2⟩
  rintro u w5 ⟨rfl, hPu⟩
  have KPu : Kept _ := ⟨hPu.from (q13.trans (b4.mono q13.size))⟩
  clear hPu
  simp only [Act.put, List.setIfInBounds_toArray, List.set_cons_succ, List.set_cons_zero]
  refine wpList_nil ?_
  refine any2 (f := 3) (i := 10) (j := 11) rfl (by kernel_rfl) rfl rfl ?_ ?_
  · refine wv_valS (d := 50) rfl (by kernel_rfl) (.string (strOf N)) (fun w => by kernel_rfl) ?_; simp only [Act.put, List.setIfInBounds_toArray, List.set_cons_succ, List.set_cons_zero]; refine wpList_nil ?_
    refine any1 (f := 2) (i := 11) rfl (by kernel_rfl) rfl ?_
    refine wv_valS (d := 51) rfl (by kernel_rfl) (.bool F) (fun w => by kernel_rfl) ?_; simp only [Act.put, List.setIfInBounds_toArray, List.set_cons_succ, List.set_cons_zero]; refine wpList_nil ?_
    refine any1 (f := 1) (i := 12) rfl (by kernel_rfl) rfl ?_
    refine wv_valS (d := 4) rfl (by kernel_rfl) (.string (strOf N)) (fun w => by kernel_rfl) ?_; simp only [Act.put, List.setIfInBounds_toArray, List.set_cons_succ, List.set_cons_zero]; refine wpList_nil ?_
    refine any1 (f := 0) (i := 13) rfl (by kernel_rfl) rfl ?_
    refine wv_valS (d := 5) rfl (by kernel_rfl) (.bool F) (fun w => by kernel_rfl) ?_; simp only [Act.put, List.setIfInBounds_toArray, List.set_cons_succ, List.set_cons_zero]; refine wpList_nil ?_
    refine any0 (by kernel_rfl) ?_
    go_wp2_with fail
    go_ret2
    exact ⟨rfl, KPu.out⟩
  · refine wv_valS (d := 51) rfl (by kernel_rfl) (.bool F) (fun w => by kernel_rfl) ?_; simp only [Act.put, List.setIfInBounds_toArray, List.set_cons_succ, List.set_cons_zero]; refine wpList_nil ?_
    refine any1 (f := 2) (i := 10) rfl (by kernel_rfl) rfl ?_
    refine wv_valS (d := 50) rfl (by kernel_rfl) (.string (strOf N)) (fun w => by kernel_rfl) ?_; simp only [Act.put, List.setIfInBounds_toArray, List.set_cons_succ, List.set_cons_zero]; refine wpList_nil ?_
    refine any1 (f := 1) (i := 12) rfl (by kernel_rfl) rfl ?_
    refine wv_valS (d := 4) rfl (by kernel_rfl) (.string (strOf N)) (fun w => by kernel_rfl) ?_; simp only [Act.put, List.setIfInBounds_toArray, List.set_cons_succ, List.set_cons_zero]; refine wpList_nil ?_
    refine any1 (f := 0) (i := 13) rfl (by kernel_rfl) rfl ?_
    refine wv_valS (d := 5) rfl (by kernel_rfl) (.bool F) (fun w => by kernel_rfl) ?_; simp only [Act.put, List.setIfInBounds_toArray, List.set_cons_succ, List.set_cons_zero]; refine wpList_nil ?_
    refine any0 (by kernel_rfl) ?_
    go_wp2_with fail
    go_ret2
    exact ⟨rfl, KPu.out⟩
set_option maxRecDepth 100000 in
set_option maxHeartbeats 4000000 in
theorem act3 {tb B : Nat} {ts us : List TermL} {N : List Nat} {F : Bool} {M : Nat → Prop} {x : ActL} {w : World} (hT : Tab tb B ts M w) (hx : ActOk x) (hn : ts.length < 1000000) (hk : x.kind % 5 = 3) (hN : actL ts x = (us, N, F)) :
    Calls Tryd.prog 13 #[.pointer (some ⟨tb, 0, none⟩), .agg (actA x)] w fun e w' => e = .returned (.tuple #[.string (strOf N), .bool F]) ∧ Puts tb B ts M w us w' := by
  have hmf : ∀ (fn : Fn) (first cap : Array Value) (w : World), (Instr.makeFunc fn first cap).run Tryd.prog w = .ok (.func fn first cap) w := fun _ _ _ _ => rfl
  have e1 := actL_hash (ts := ts) hk
  rw [hN] at e1
  have e2 : us = (putL ts (4, [x.s, (pickN ts.length x x.a), (pickN ts.length x x.b)])).1 := congrArg (·.1) e1
  have e3 : N = (putL ts (4, [x.s, (pickN ts.length x x.a), (pickN ts.length x x.b)])).2 := congrArg (·.2.1) e1
  have e4 : F = decide ((putL ts (4, [x.s, (pickN ts.length x x.a), (pickN ts.length x x.b)])).2 ≠ []) := congrArg (·.2.2) e1
  have KP : Kept (putL ts (4, [x.s, (pickN ts.length x x.a), (pickN ts.length x x.b)]) = (us, N)) := ⟨Prod.ext e2.symm e3.symm⟩
  have KNB : Kept (Bytes N) := ⟨by rw [e3]; exact putL_bytes _ _⟩
  have BF : Kept (F = !decide (N = [])) := ⟨by rw [e4, ← e3]; exact decide_not⟩
  clear e2 e3 e4
  have KR : Kept (3 = x.kind % 5) := ⟨hk.symm⟩
  have KT : Kept _ := ⟨hT⟩
  have KOk : Kept _ := ⟨hx⟩
  obtain ⟨AA, hAA⟩ : ∃ AA, AA = actA x := ⟨_, rfl⟩
  have KAA : Kept _ := ⟨hAA⟩
  rw [← hAA]
  have hBT : B ≤ tb ∧ tb < w.heap.size := by
    obtain ⟨mb, v, h1, h2, _⟩ := hT.at'
    exact ⟨h2.1, h1.lt⟩
  have KB : Kept _ := ⟨hBT⟩
  have Ke : Kept _ := ⟨e1⟩
  clear hT hx hN hk hAA e1 hBT
  go_enter Tryd.func13, Tryd.ntmps13
  go_wp2_with fail
  have q1 : Below w.heap.size w (w.alloc (.cells AA 30)) := (Below.refl _ _).alloc (Nat.le_refl _) _
  have hX1 : Blk (w.alloc (.cells AA 30)) w.heap.size 30 (actA x) := by rw [← KAA.out]; exact blk_new _ _ _
  refine (AllD (KT.out.under q1) hn).mono ?_
  rintro e w2 ⟨⟨V, rfl, hV2⟩, q2⟩
  obtain ⟨pV, cV, rfl, _⟩ := vals_form (vrow_vals hV2) (show (strs (namesL ts.length)).length = ts.length by rw [strs_len, namesL_len])
  have hX2 := hX1.under q2
  have q12 := q1.trans (q2.mono q1.size)
  clear hX1 q1 q2

  go_wp2_with (first | ((refine wl_set1 rfl 35 sz_strs (.tmp 6) (.tmp 13) rfl w2.heap.size 0 (.slice pV ts.length cV) (by kernel_rfl) (by kernel_rfl) rfl _ (blk_new w2 35 _) (by simp) ?_); intro w3 hH3 hp3; have q3 : Below w2.heap.size w2 w3 := ((Below.refl _ _).alloc (Nat.le_refl _) _).trans (hp3.below (Nat.le_refl _)); have KX3 : Kept _ := ⟨hX2.under q3⟩; have KH3 : Kept (Blk w3 w2.heap.size 35 #[.slice pV ts.length cV]) := ⟨hH3⟩; have KV3 : Kept _ := ⟨(vrow_vals hV2).under q3⟩; have q13 := q12.trans (q3.mono q12.size); have KT3 : Kept _ := ⟨KT.out.under q13⟩; have KPk : Kept _ := ⟨pick_all KX3.out KH3.out KV3.out hn⟩; clear hH3 hp3 q3 hX2 hV2 q12; simp only [Act.put, List.setIfInBounds_toArray, List.set_cons_succ, List.set_cons_zero]) | ((with_reducible refine wv_elem (d := 16) ?hd ?hw 5 Tryd.isAgg5 (.tmp 15) ?ho (⟨w.heap.size, 0, none⟩) ?hx (.int .u8 (x.kind : Int)) ?hc ?_); (case hd => rfl); (case hw => kernel_rfl); (case ho => rfl); (case hx => kernel_rfl); (case hc => exact (KX3.out.cell rfl)); simp only [Act.put, List.setIfInBounds_toArray, List.set_cons_succ, List.set_cons_zero]) | ((with_reducible refine wv_val (d := 17) ?hd ?hw (.int .u8 ((3 : Nat) : Int)) ?hr ?_); (case hd => rfl); (case hw => kernel_rfl); (case hr => intro w; exact run_remU5 rfl (by kernel_rfl) KR.out w); simp only [Act.put, List.setIfInBounds_toArray, List.set_cons_succ, List.set_cons_zero]))
  refine region_ownNL w3 12 [(54, .pointer (some ⟨tb, 0, none⟩)), (55, .pointer (some ⟨w.heap.size, 4, none⟩)), (56, .string (strOf x.s)), (57, .func (.func 28) #[] #[.pointer (some ⟨w.heap.size, 0, none⟩), .pointer (some ⟨w2.heap.size, 0, none⟩)]), (58, .pointer (some ⟨w.heap.size, 1, none⟩)), (59, .int .u8 (x.a : Int)), (60, .string (strOf (pickN ts.length x x.a))), (61, .func (.func 28) #[] #[.pointer (some ⟨w.heap.size, 0, none⟩), .pointer (some ⟨w2.heap.size, 0, none⟩)]), (62, .pointer (some ⟨w.heap.size, 2, none⟩)), (63, .int .u8 (x.b : Int)), (64, .string (strOf (pickN ts.length x x.b)))] [(65, fun v w => ValsV v w (strs [x.s, (pickN ts.length x x.a), (pickN ts.length x x.b)]))] [] [] rfl (by kernel_rfl) (by kernel_rfl) (by kernel_rfl) (by kernel_rfl) (by kernel_rfl) (by kernel_rfl) (by kernel_rfl) (by kernel_rfl) (by kernel_rfl) (by kernel_rfl) (by kernel_rfl) ?hst1 ?hst2 (Below.refl _ _) (fun hA => ⟨ow_val hA (wants_none rfl) 54 (.pointer (some ⟨tb, 0, none⟩)) (by kernel_rfl) rfl rfl rfl rfl (by kernel_rfl) (fun w => by kernel_rfl), ow_val hA (wants_none rfl) 55 (.pointer (some ⟨w.heap.size, 4, none⟩)) (by kernel_rfl) rfl rfl rfl rfl (by kernel_rfl) (fun w => by kernel_rfl), ow_elem hA (wants_none rfl) 56 (.string (strOf x.s)) (by kernel_rfl) rfl rfl rfl rfl (by kernel_rfl) 9 ag_str (.tmp 55) rfl (⟨w.heap.size, 4, none⟩) (by kernel_rfl) (fun w1 hb => ((KX3.out.under hb).cell rfl)), ow_val hA (wants_none rfl) 57 (.func (.func 28) #[] #[.pointer (some ⟨w.heap.size, 0, none⟩), .pointer (some ⟨w2.heap.size, 0, none⟩)]) (by kernel_rfl) rfl rfl rfl rfl (by kernel_rfl) (fun w => by kernel_rfl), ow_val hA (wants_none rfl) 58 (.pointer (some ⟨w.heap.size, 1, none⟩)) (by kernel_rfl) rfl rfl rfl rfl (by kernel_rfl) (fun w => by kernel_rfl), ow_elem hA (wants_none rfl) 59 (.int .u8 (x.a : Int)) (by kernel_rfl) rfl rfl rfl rfl (by kernel_rfl) 5 Tryd.isAgg5 (.tmp 58) rfl (⟨w.heap.size, 1, none⟩) (by kernel_rfl) (fun w1 hb => ((KX3.out.under hb).cell rfl)), ow_callV hA (wants_none rfl) 60 (.string (strOf (pickN ts.length x x.a))) (by kernel_rfl) rfl rfl rfl rfl (by kernel_rfl) 28 Tryd.f28 _ (.tmp 57) [.tmp 59] _ #[.pointer (some ⟨w.heap.size, 0, none⟩), .pointer (some ⟨w2.heap.size, 0, none⟩)] [.int .u8 (x.a : Int), .pointer (some ⟨w.heap.size, 0, none⟩), .pointer (some ⟨w2.heap.size, 0, none⟩)] rfl (by kernel_rfl) (by kernel_rfl) Tryd.func28 (by kernel_rfl) rfl (fun w4 hb4 => KPk.out w4 hb4 _ KOk.out.a), ow_val hA (wants_none rfl) 61 (.func (.func 28) #[] #[.pointer (some ⟨w.heap.size, 0, none⟩), .pointer (some ⟨w2.heap.size, 0, none⟩)]) (by kernel_rfl) rfl rfl rfl rfl (by kernel_rfl) (fun w => by kernel_rfl), ow_val hA (wants_none rfl) 62 (.pointer (some ⟨w.heap.size, 2, none⟩)) (by kernel_rfl) rfl rfl rfl rfl (by kernel_rfl) (fun w => by kernel_rfl), ow_elem hA (wants_none rfl) 63 (.int .u8 (x.b : Int)) (by kernel_rfl) rfl rfl rfl rfl (by kernel_rfl) 5 Tryd.isAgg5 (.tmp 62) rfl (⟨w.heap.size, 2, none⟩) (by kernel_rfl) (fun w1 hb => ((KX3.out.under hb).cell rfl)), ow_callV hA (wants_none rfl) 64 (.string (strOf (pickN ts.length x x.b))) (by kernel_rfl) rfl rfl rfl rfl (by kernel_rfl) 28 Tryd.f28 _ (.tmp 61) [.tmp 63] _ #[.pointer (some ⟨w.heap.size, 0, none⟩), .pointer (some ⟨w2.heap.size, 0, none⟩)] [.int .u8 (x.b : Int), .pointer (some ⟨w.heap.size, 0, none⟩), .pointer (some ⟨w2.heap.size, 0, none⟩)] rfl (by kernel_rfl) (by kernel_rfl) Tryd.func28 (by kernel_rfl) rfl (fun w4 hb4 => KPk.out w4 hb4 _ KOk.out.b), ow_bs3 hA (wants_none rfl) 65 56 60 64 _ _ _ rfl rfl (by kernel_rfl) (by kernel_rfl) (by kernel_rfl) (by kernel_rfl) (by kernel_rfl) (by kernel_rfl) rfl rfl rfl rfl rfl rfl rfl rfl, trivial⟩) ?_
  case hst1 =>
    intro q hq hO v w w' h1 h2 h3 h9
    simp only [List.mem_singleton] at hq
    subst hq
    exact ValsV.under h1 (h9 rfl)
  case hst2 => intro q hq hO; simp at hO
  intro fv w4 hf hD b4
  have h65 := (hf 65 _ rfl rfl).1
  simp only [putR, List.foldl_cons, List.foldl_nil, List.map_cons, List.map_nil, Act.put, List.setIfInBounds_toArray, List.set_cons_succ, List.set_cons_zero]
  obtain ⟨u65, e65⟩ : ∃ v, v = fv 65 := ⟨_, rfl⟩
  rw [← e65] at h65 ⊢
  have V65 : Kept (ValsV u65 w4 (strs [x.s, (pickN ts.length x x.a), (pickN ts.length x x.b)])) := ⟨h65⟩
  clear hf hD h65 e65
  go_wp2_with fail
  refine (HashE (KT3.out.under b4) (fun l h => by
    simp at h
    rcases h with rfl | rfl | rfl
    · exact KOk.out.s
    · exact (pick_bytes KOk.out _ _).1
    · exact (pick_bytes KOk.out _ _).1) V65.out (fun l h => by
    simp at h
    rcases h with rfl | rfl | rfl
    · exact KOk.out.len
    · exact (pick_bytes KOk.out _ _).2
    · exact (pick_bytes KOk.out _ _).2) hn KP.out).mono ?_
  rintro e w5 ⟨rfl, hPu⟩
  have KPu : Kept _ := ⟨hPu.from (q13.trans (b4.mono q13.size))⟩
  clear hPu
  go_wp2_with (first | ((with_reducible refine wv_val (d := 69) ?hd ?hw (.bool F) ?hr ?_); (case hd => rfl); (case hw => kernel_rfl); (case hr => intro w; exact run_sneq (m := []) rfl (by kernel_rfl) rfl KNB.out nil_bytes BF.out w); simp only [Act.put, List.setIfInBounds_toArray, List.set_cons_succ, List.set_cons_zero]))
  go_ret2
  exact ⟨rfl, KPu.out⟩
set_option maxRecDepth 100000 in
set_option maxHeartbeats 4000000 in
theorem act4 {tb B : Nat} {ts us : List TermL} {N : List Nat} {F : Bool} {M : Nat → Prop} {x : ActL} {w : World} (hT : Tab tb B ts M w) (hx : ActOk x) (hn : ts.length < 1000000) (hk : x.kind % 5 = 4) (hN : actL ts x = (us, N, F)) :
    Calls Tryd.prog 13 #[.pointer (some ⟨tb, 0, none⟩), .agg (actA x)] w fun e w' => e = .returned (.tuple #[.string (strOf N), .bool F]) ∧ Puts tb B ts M w us w' := by
  have hmf : ∀ (fn : Fn) (first cap : Array Value) (w : World), (Instr.makeFunc fn first cap).run Tryd.prog w = .ok (.func fn first cap) w := fun _ _ _ _ => rfl
  have e1 := actL_seal (ts := ts) hk
  rw [hN] at e1
  have e2 : us = (putL ts (5, [(pickN ts.length x x.a), numL x.n, x.s, (pickN ts.length x x.b)])).1 := congrArg (·.1) e1
  have e3 : N = (putL ts (5, [(pickN ts.length x x.a), numL x.n, x.s, (pickN ts.length x x.b)])).2 := congrArg (·.2.1) e1
  have e4 : F = decide ((putL ts (5, [(pickN ts.length x x.a), numL x.n, x.s, (pickN ts.length x x.b)])).2 ≠ []) := congrArg (·.2.2) e1
  have KP : Kept (putL ts (5, [(pickN ts.length x x.a), numL x.n, x.s, (pickN ts.length x x.b)]) = (us, N)) := ⟨Prod.ext e2.symm e3.symm⟩
  have KNB : Kept (Bytes N) := ⟨by rw [e3]; exact putL_bytes _ _⟩
  have BF : Kept (F = !decide (N = [])) := ⟨by rw [e4, ← e3]; exact decide_not⟩
  clear e2 e3 e4
  have KR : Kept (4 = x.kind % 5) := ⟨hk.symm⟩
  have KT : Kept _ := ⟨hT⟩
  have KOk : Kept _ := ⟨hx⟩
  obtain ⟨AA, hAA⟩ : ∃ AA, AA = actA x := ⟨_, rfl⟩
  have KAA : Kept _ := ⟨hAA⟩
  rw [← hAA]
  have hBT : B ≤ tb ∧ tb < w.heap.size := by
    obtain ⟨mb, v, h1, h2, _⟩ := hT.at'
    exact ⟨h2.1, h1.lt⟩
  have KB : Kept _ := ⟨hBT⟩
  have Ke : Kept _ := ⟨e1⟩
  clear hT hx hN hk hAA e1 hBT
  go_enter Tryd.func13, Tryd.ntmps13
  go_wp2_with fail
  have q1 : Below w.heap.size w (w.alloc (.cells AA 30)) := (Below.refl _ _).alloc (Nat.le_refl _) _
  have hX1 : Blk (w.alloc (.cells AA 30)) w.heap.size 30 (actA x) := by rw [← KAA.out]; exact blk_new _ _ _
  refine (AllD (KT.out.under q1) hn).mono ?_
  rintro e w2 ⟨⟨V, rfl, hV2⟩, q2⟩
  obtain ⟨pV, cV, rfl, _⟩ := vals_form (vrow_vals hV2) (show (strs (namesL ts.length)).length = ts.length by rw [strs_len, namesL_len])
  have hX2 := hX1.under q2
  have q12 := q1.trans (q2.mono q1.size)
  clear hX1 q1 q2

  go_wp2_with (first | ((refine wl_set1 rfl 35 sz_strs (.tmp 6) (.tmp 13) rfl w2.heap.size 0 (.slice pV ts.length cV) (by kernel_rfl) (by kernel_rfl) rfl _ (blk_new w2 35 _) (by simp) ?_); intro w3 hH3 hp3; have q3 : Below w2.heap.size w2 w3 := ((Below.refl _ _).alloc (Nat.le_refl _) _).trans (hp3.below (Nat.le_refl _)); have KX3 : Kept _ := ⟨hX2.under q3⟩; have KH3 : Kept (Blk w3 w2.heap.size 35 #[.slice pV ts.length cV]) := ⟨hH3⟩; have KV3 : Kept _ := ⟨(vrow_vals hV2).under q3⟩; have q13 := q12.trans (q3.mono q12.size); have KT3 : Kept _ := ⟨KT.out.under q13⟩; have KPk : Kept _ := ⟨pick_all KX3.out KH3.out KV3.out hn⟩; clear hH3 hp3 q3 hX2 hV2 q12; simp only [Act.put, List.setIfInBounds_toArray, List.set_cons_succ, List.set_cons_zero]) | ((with_reducible refine wv_elem (d := 16) ?hd ?hw 5 Tryd.isAgg5 (.tmp 15) ?ho (⟨w.heap.size, 0, none⟩) ?hx (.int .u8 (x.kind : Int)) ?hc ?_); (case hd => rfl); (case hw => kernel_rfl); (case ho => rfl); (case hx => kernel_rfl); (case hc => exact (KX3.out.cell rfl)); simp only [Act.put, List.setIfInBounds_toArray, List.set_cons_succ, List.set_cons_zero]) | ((with_reducible refine wv_val (d := 17) ?hd ?hw (.int .u8 ((4 : Nat) : Int)) ?hr ?_); (case hd => rfl); (case hw => kernel_rfl); (case hr => intro w; exact run_remU5 rfl (by kernel_rfl) KR.out w); simp only [Act.put, List.setIfInBounds_toArray, List.set_cons_succ, List.set_cons_zero]))
  refine region_ownNL w3 13 [(70, .pointer (some ⟨tb, 0, none⟩)), (71, .func (.func 28) #[] #[.pointer (some ⟨w.heap.size, 0, none⟩), .pointer (some ⟨w2.heap.size, 0, none⟩)]), (72, .pointer (some ⟨w.heap.size, 1, none⟩)), (73, .int .u8 (x.a : Int)), (74, .string (strOf (pickN ts.length x x.a))), (75, .pointer (some ⟨w.heap.size, 3, none⟩)), (76, .int .u64 (x.n : Int)), (77, .pointer (some ⟨w.heap.size, 4, none⟩)), (78, .string (strOf x.s)), (79, .func (.func 28) #[] #[.pointer (some ⟨w.heap.size, 0, none⟩), .pointer (some ⟨w2.heap.size, 0, none⟩)]), (80, .pointer (some ⟨w.heap.size, 2, none⟩)), (81, .int .u8 (x.b : Int)), (82, .string (strOf (pickN ts.length x x.b)))] [] [] [] rfl (by kernel_rfl) (by kernel_rfl) (by kernel_rfl) (by kernel_rfl) (by kernel_rfl) (by kernel_rfl) (by kernel_rfl) (by kernel_rfl) (by kernel_rfl) (by kernel_rfl) (by kernel_rfl) ?hst1 ?hst2 (Below.refl _ _) (fun hA => ⟨ow_val hA (wants_none rfl) 70 (.pointer (some ⟨tb, 0, none⟩)) (by kernel_rfl) rfl rfl rfl rfl (by kernel_rfl) (fun w => by kernel_rfl), ow_val hA (wants_none rfl) 71 (.func (.func 28) #[] #[.pointer (some ⟨w.heap.size, 0, none⟩), .pointer (some ⟨w2.heap.size, 0, none⟩)]) (by kernel_rfl) rfl rfl rfl rfl (by kernel_rfl) (fun w => by kernel_rfl), ow_val hA (wants_none rfl) 72 (.pointer (some ⟨w.heap.size, 1, none⟩)) (by kernel_rfl) rfl rfl rfl rfl (by kernel_rfl) (fun w => by kernel_rfl), ow_elem hA (wants_none rfl) 73 (.int .u8 (x.a : Int)) (by kernel_rfl) rfl rfl rfl rfl (by kernel_rfl) 5 Tryd.isAgg5 (.tmp 72) rfl (⟨w.heap.size, 1, none⟩) (by kernel_rfl) (fun w1 hb => ((KX3.out.under hb).cell rfl)), ow_callV hA (wants_none rfl) 74 (.string (strOf (pickN ts.length x x.a))) (by kernel_rfl) rfl rfl rfl rfl (by kernel_rfl) 28 Tryd.f28 _ (.tmp 71) [.tmp 73] _ #[.pointer (some ⟨w.heap.size, 0, none⟩), .pointer (some ⟨w2.heap.size, 0, none⟩)] [.int .u8 (x.a : Int), .pointer (some ⟨w.heap.size, 0, none⟩), .pointer (some ⟨w2.heap.size, 0, none⟩)] rfl (by kernel_rfl) (by kernel_rfl) Tryd.func28 (by kernel_rfl) rfl (fun w4 hb4 => KPk.out w4 hb4 _ KOk.out.a), ow_val hA (wants_none rfl) 75 (.pointer (some ⟨w.heap.size, 3, none⟩)) (by kernel_rfl) rfl rfl rfl rfl (by kernel_rfl) (fun w => by kernel_rfl), ow_elem hA (wants_none rfl) 76 (.int .u64 (x.n : Int)) (by kernel_rfl) rfl rfl rfl rfl (by kernel_rfl) 28 Tryd.isAgg28 (.tmp 75) rfl (⟨w.heap.size, 3, none⟩) (by kernel_rfl) (fun w1 hb => ((KX3.out.under hb).cell rfl)), ow_val hA (wants_none rfl) 77 (.pointer (some ⟨w.heap.size, 4, none⟩)) (by kernel_rfl) rfl rfl rfl rfl (by kernel_rfl) (fun w => by kernel_rfl), ow_elem hA (wants_none rfl) 78 (.string (strOf x.s)) (by kernel_rfl) rfl rfl rfl rfl (by kernel_rfl) 9 ag_str (.tmp 77) rfl (⟨w.heap.size, 4, none⟩) (by kernel_rfl) (fun w1 hb => ((KX3.out.under hb).cell rfl)), ow_val hA (wants_none rfl) 79 (.func (.func 28) #[] #[.pointer (some ⟨w.heap.size, 0, none⟩), .pointer (some ⟨w2.heap.size, 0, none⟩)]) (by kernel_rfl) rfl rfl rfl rfl (by kernel_rfl) (fun w => by kernel_rfl), ow_val hA (wants_none rfl) 80 (.pointer (some ⟨w.heap.size, 2, none⟩)) (by kernel_rfl) rfl rfl rfl rfl (by kernel_rfl) (fun w => by kernel_rfl), ow_elem hA (wants_none rfl) 81 (.int .u8 (x.b : Int)) (by kernel_rfl) rfl rfl rfl rfl (by kernel_rfl) 5 Tryd.isAgg5 (.tmp 80) rfl (⟨w.heap.size, 2, none⟩) (by kernel_rfl) (fun w1 hb => ((KX3.out.under hb).cell rfl)), ow_callV hA (wants_none rfl) 82 (.string (strOf (pickN ts.length x x.b))) (by kernel_rfl) rfl rfl rfl rfl (by kernel_rfl) 28 Tryd.f28 _ (.tmp 79) [.tmp 81] _ #[.pointer (some ⟨w.heap.size, 0, none⟩), .pointer (some ⟨w2.heap.size, 0, none⟩)] [.int .u8 (x.b : Int), .pointer (some ⟨w.heap.size, 0, none⟩), .pointer (some ⟨w2.heap.size, 0, none⟩)] rfl (by kernel_rfl) (by kernel_rfl) Tryd.func28 (by kernel_rfl) rfl (fun w4 hb4 => KPk.out w4 hb4 _ KOk.out.b), trivial⟩) ?_
  case hst1 => intro q hq; cases hq
  case hst2 => intro q hq; cases hq
  intro fv w4 hf hD b4
  simp only [putR, List.foldl_cons, List.foldl_nil, List.map_cons, List.map_nil, Act.put, List.setIfInBounds_toArray, List.set_cons_succ, List.set_cons_zero]
  clear hf hD
  go_wp2_with fail
  refine (SealE (KT3.out.under b4) KOk.out.n (pick_bytes KOk.out _ _).1 KOk.out.s (pick_bytes KOk.out _ _).1 (pick_bytes KOk.out _ _).2 KOk.out.len (pick_bytes KOk.out _ _).2 hn KP.out).mono ?_
  rintro e w5 ⟨rfl, hPu⟩
  have KPu : Kept _ := ⟨hPu.from (q13.trans (b4.mono q13.size))⟩
  clear hPu
  go_wp2_with (first | ((with_reducible refine wv_val (d := 86) ?hd ?hw (.bool F) ?hr ?_); (case hd => rfl); (case hw => kernel_rfl); (case hr => intro w; exact run_sneq (m := []) rfl (by kernel_rfl) rfl KNB.out nil_bytes BF.out w); simp only [Act.put, List.setIfInBounds_toArray, List.set_cons_succ, List.set_cons_zero]))
  go_ret2
  exact ⟨rfl, KPu.out⟩
/-- An act, whatever it is. -/
theorem actD {tb B : Nat} {ts : List TermL} {M : Nat → Prop} {x : ActL} {w : World} (hT : Tab tb B ts M w) (hx : ActOk x) (hn : ts.length < 1000000) :
    Calls Tryd.prog 13 #[.pointer (some ⟨tb, 0, none⟩), .agg (actA x)] w fun e w' => e = .returned (.tuple #[.string (strOf (actL ts x).2.1), .bool (actL ts x).2.2]) ∧ Puts tb B ts M w (actL ts x).1 w' := by
  have h5 : x.kind % 5 = 0 ∨ x.kind % 5 = 1 ∨ x.kind % 5 = 2 ∨ x.kind % 5 = 3 ∨ x.kind % 5 = 4 := by omega
  rcases h5 with h | h | h | h | h
  · exact act0 hT hx hn h rfl
  · exact act1 hT hx hn h rfl
  · exact act2 hT hx hn h rfl
  · exact act3 hT hx hn h rfl
  · exact act4 hT hx hn h rfl
end Go.Proofs.YtfdldpcfdebinaaDoor.sh
