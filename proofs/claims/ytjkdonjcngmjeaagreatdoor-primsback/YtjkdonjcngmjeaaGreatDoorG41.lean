/-
  General pieces, joined: ML.
-/
import Derived.Test.YtjkdonjcngmjeaaGreatDoorG38
/-
  Prims of terms: a box is opened.
-/
namespace Go.Proofs.YtjkdonjcngmjeaaGreatDoor.sh
open Go Go.RowKit
set_option linter.unusedVariables false
set_option linter.unusedSimpArgs false

theorem vals_take {p : Option Addr} {n c k : Nat} {w : World} {vs : List Value} (h : ValsV (.slice p n c) w vs) (hk : k ≤ vs.length) : ValsV (.slice p k c) w (vs.take k) := by
  obtain ⟨p', c', e1, h2, h3⟩ := h
  cases e1
  have hl : (vs.take k).length = k := by rw [List.length_take]; omega
  refine ⟨p, c, by rw [hl], by omega, fun hne => ?_⟩
  obtain ⟨A, rfl, hA, hc⟩ := h3 (fun e => hne (by rw [e]; simp))
  refine ⟨A, rfl, hA, fun j x hx => hc j x ?_⟩
  have hj : j < k := by
    have := (List.getElem?_eq_some_iff.1 hx).1
    omega
  rwa [List.getElem?_take_of_lt hj] at hx
section
variable {P : Program} {h : List Oper} {A0 A : Act} {W0 : World} {S : Nat → Option (Value → World → Prop)} {sp O : List Nat} {E : List (Nat × Nat)} {i : Nat} {o : Oper}
/-- A call of two arguments, of the second one of which something holds; its answer is known. -/
theorem ow_callE (hA : Full h A0 A S sp) (hw : Wants h A0 A S O E W0.heap.size i o) (d : Nat) (v : Value) (x s : Nat) (vx : Value) (hd : o.dst = some d) (hds : sp.contains d = false) (hv : A.tmps[d]? = some v) (f : Nat) (fn : Func) (c : Code) (tys : Array TypeId) (ho : o.op = .call { callee := .value (.func f), args := [Operand.tmp x, Operand.tmp s].toArray, argTypes := tys })
    (hwx : waitsFor h o x = true) (hsx : sp.contains x = false) (hx : A.tmps[x]? = some vx) (hws : waitsFor h o s = true) (p : Value → World → Prop) (hp : S s = some p) (hf : P.funcs[f]? = some fn) (hname : (fn.name == "runtime.NumGoroutine") = false) (hb : fn.body = some c)
    (hEx : (E.all fun q => q.2 != x || q.1 == i) = true) (hEs : (E.all fun q => q.2 != s || q.1 == i) = true) (hO : O.contains d = false)
    (hc : ∀ w V, Below W0.heap.size W0 w → p V w → Calls P f #[vx, V] w fun e w' => e = .returned v ∧ Below w.heap.size w w') : OwnOk P h A0 W0 (relR A S) O E i o :=
  ow_call hw d f fn c [.tmp x, .tmp s] tys hd ho hf hname hb fun a w hF hB hgot => by
    have e1 := gotE_det hA hgot hwx hsx hEx hx
    obtain ⟨e2, _⟩ := gotE_spec hgot (d := s) p hws hEs hp
    rw [List.map_cons, List.map_cons, List.map_nil, e1]
    refine (hc w _ hB e2).mono fun e w' hh => ?_
    refine ⟨v, hh.1, ?_, hh.2, fun h9 => by rw [hO] at h9; cases h9⟩
    unfold relR
    rw [hA.spec d (not_mem_of hds)]
    exact hv
end
theorem partX_name {ts : List TermL} {t : TermL} (h : t ∈ ts) (hl : ts.length < 18446744073709551615) : partX ts (nameOf ts t) = some t := by
  unfold partX
  rw [find_nameOf h hl, if_neg (by omega), Nat.add_sub_cancel, idx_get h]

set_option maxRecDepth 100000 in
set_option maxHeartbeats 1000000 in
theorem OpenT_yes {tb B n : Nat} {ts : List TermL} {K a s K0 J0 a0 t0 : List Nat} {M : Nat → Prop} {w : World} (hT : Tab tb B ts M w) (hs : Bytes s) (hsl : s.length ≤ maxLen) (hK : Bytes K) (ha : Bytes a) (hn : n < 18446744073709551616) (hl : ts.length < 1000000) (hx : partX ts s = some (5, [K0, J0, a0, t0])) (hy : Bytes K0 ∧ Bytes J0 ∧ Bytes a0 ∧ Bytes t0) (he : decide ([K0, J0, a0] = [K, numL n, a]) = true) :
    Calls Tryz.prog 175 #[.agg #[.pointer (some ⟨tb, 0, none⟩)], .string (strOf K), .int .u64 (n : Int), .string (strOf a), .string (strOf s)] w fun e w' => e = .returned (.tuple #[.string (strOf t0), .int .i64 0]) ∧ Below w.heap.size w w' := by
  obtain ⟨J, hJ⟩ : ∃ j, j = numL n := ⟨_, rfl⟩
  rw [← hJ] at he
  obtain ⟨bx, hbx⟩ : ∃ b, b = w.heap.size := ⟨_, rfl⟩
  obtain ⟨w0, hw0⟩ : ∃ v, v = w.alloc (.cells #[.pointer (some ⟨tb, 0, none⟩)] 90) := ⟨_, rfl⟩
  have Q0 : Kept (Below w.heap.size w w0) := ⟨by rw [hw0]; exact (Below.refl _ _).alloc (Nat.le_refl _) _⟩
  have KT : Kept (Tab tb B ts M w0) := ⟨hT.under Q0.out⟩
  have Kw0 : Kept _ := ⟨hw0⟩
  have CN : Kept (∀ w, Calls Tryz.prog 25 [.int .u64 (n : Int)].toArray w fun e w' => e = .returned (.string (strOf J)) ∧ Below w.heap.size w w') := ⟨fun w => by rw [hJ]; exact NumD hn⟩
  have CP : Kept _ := ⟨PartsE KT.out hs hsl hl hx⟩
  have KY : Kept ((∀ l ∈ [K0, J0, a0], Bytes l) ∧ ∀ l ∈ [K, J, a], Bytes l) := ⟨by
    constructor
    · intro l hl
      simp only [List.mem_cons, List.not_mem_nil, or_false] at hl
      rcases hl with rfl | rfl | rfl
      · exact hy.1
      · exact hy.2.1
      · exact hy.2.2.1
    · intro l hl
      simp only [List.mem_cons, List.not_mem_nil, or_false] at hl
      rcases hl with rfl | rfl | rfl
      · exact hK
      · rw [hJ]; exact numL_bytes _
      · exact ha⟩
  have Ke : Kept (decide ([K0, J0, a0] = [K, J, a]) = true) := ⟨he⟩
  have Kbx : Kept _ := ⟨hbx⟩
  clear hT hs hsl hK ha hn hl hx hy he hJ hw0 hbx
  go_enter Tryz.func175, Tryz.ntmps175
  go_wp2_with fail
  rw [← Kw0.out]
  refine CP.out.mono ?_
  rintro e w2 ⟨⟨V, rfl, hV⟩, q2⟩
  have K2 : Kept _ := ⟨Q0.out.trans (q2.mono Q0.out.size)⟩
  have hVv := vrow_vals hV
  obtain ⟨pp, cp, rfl, hc4⟩ := vals_form hVv (show (strs [K0, J0, a0, t0]).length = 4 from rfl)
  have h3 := vals_take (k := 3) hVv (by rw [strs_len]; simp)
  obtain ⟨Ap, rfl, hAp, hcp⟩ := vals_at hVv (strs_get (show [K0, J0, a0, t0][3]? = some t0 from rfl))
  have K3 : Kept (ValsV (.slice (some Ap) 3 cp) w2 (strs [K0, J0, a0])) := ⟨h3⟩
  have Kc : Kept (3 ≤ cp) := ⟨by omega⟩
  have K4 : Kept (w2.cell? (Ap.add 3) = some (.string (strOf t0)) ∧ (Ap.add 3).block < w2.heap.size) := ⟨⟨hcp, by rw [add_block]; exact hAp⟩⟩
  have CE : Kept (∀ (w1 : World) (V : Value), Below w2.heap.size w2 w1 → ValsV V w1 (strs [K, J, a]) → Calls Tryz.prog 176 #[.slice (some Ap) 3 cp, V] w1 fun e w' => e = .returned (.bool true) ∧ Below w1.heap.size w1 w') := ⟨fun w1 V hb hV => by
    have h9 := EqualS (K3.out.under hb) hV (n := 3) rfl rfl KY.out.1 KY.out.2 (by decide)
    rw [Ke.out] at h9
    exact h9⟩
  clear hV hVv h3 hc4 hAp hcp q2 CP
  go_wp2_with fail
  refine region_ownNL w2 13 [(23, .int .u8 (5 : Int)), (24, .bool false), (25, .bool false), (26, .slice (some Ap) 4 cp), (27, .slice (some Ap) 3 cp), (28, .string (strOf K)), (29, .int .u64 (n : Int)), (30, .string (strOf J)), (31, .string (strOf a)), (33, .bool true), (34, .bool false), (35, .bool false)] [(32, fun v w => ValsV v w (strs [K, J, a]))] [] [] rfl (by kernel_rfl) (by kernel_rfl) (by kernel_rfl) (by kernel_rfl) (by kernel_rfl) (by kernel_rfl) (by kernel_rfl) (by kernel_rfl) (by kernel_rfl) (by kernel_rfl) (by kernel_rfl) ?hst1 ?hst2 (Below.refl _ _) (fun hA => ⟨ow_val hA (wants_none rfl) 23 (.int .u8 (5 : Int)) (by kernel_rfl) rfl rfl rfl rfl (by kernel_rfl) (fun w => by kernel_rfl), ow_val hA (wants_none rfl) 24 (.bool false) (by kernel_rfl) rfl rfl rfl rfl (by kernel_rfl) (fun w => run_neU (m := 5) (n := 5) rfl (by kernel_rfl) (by kernel_rfl) rfl w), ow_val hA (wants_none rfl) 25 (.bool false) (by kernel_rfl) rfl rfl rfl rfl (by kernel_rfl) (fun w => by kernel_rfl), ow_val hA (wants_at hA 2 false 25 rfl rfl (by kernel_rfl) rfl rfl (by kernel_rfl)) 26 (.slice (some Ap) 4 cp) (by kernel_rfl) rfl rfl rfl rfl (by kernel_rfl) (fun w => by kernel_rfl), ow_val hA (wants_at hA 2 false 25 rfl rfl (by kernel_rfl) rfl rfl (by kernel_rfl)) 27 (.slice (some Ap) 3 cp) (by kernel_rfl) rfl rfl rfl rfl (by kernel_rfl) (fun w => cutTo_run (m := 3) (l := 4) (c := cp) (p := some Ap) rfl (by kernel_rfl) (by kernel_rfl) Tryz.underlying43 Tryz.sizeOf9 Kc.out w), ow_val hA (wants_at hA 2 false 25 rfl rfl (by kernel_rfl) rfl rfl (by kernel_rfl)) 28 (.string (strOf K)) (by kernel_rfl) rfl rfl rfl rfl (by kernel_rfl) (fun w => by kernel_rfl), ow_val hA (wants_at hA 2 false 25 rfl rfl (by kernel_rfl) rfl rfl (by kernel_rfl)) 29 (.int .u64 (n : Int)) (by kernel_rfl) rfl rfl rfl rfl (by kernel_rfl) (fun w => by kernel_rfl), ow_calld hA (wants_at hA 2 false 25 rfl rfl (by kernel_rfl) rfl rfl (by kernel_rfl)) 30 (.string (strOf J)) (by kernel_rfl) rfl rfl rfl rfl (by kernel_rfl) 25 Tryz.f25 _ [.tmp 29] _ [.int .u64 (n : Int)] rfl (by kernel_rfl) Tryz.func25 (by kernel_rfl) rfl (fun w2 hb => CN.out w2), ow_val hA (wants_at hA 2 false 25 rfl rfl (by kernel_rfl) rfl rfl (by kernel_rfl)) 31 (.string (strOf a)) (by kernel_rfl) rfl rfl rfl rfl (by kernel_rfl) (fun w => by kernel_rfl), ow_bs3 hA (wants_at hA 2 false 25 rfl rfl (by kernel_rfl) rfl rfl (by kernel_rfl)) 32 28 30 31 K J a rfl rfl (by kernel_rfl) (by kernel_rfl) (by kernel_rfl) (by kernel_rfl) (by kernel_rfl) (by kernel_rfl) rfl rfl rfl (by kernel_rfl) (by kernel_rfl) (by kernel_rfl) rfl rfl, ow_callE hA (wants_at hA 2 false 25 rfl rfl (by kernel_rfl) rfl rfl (by kernel_rfl)) 33 (.bool true) 27 32 (.slice (some Ap) 3 cp) rfl rfl (by kernel_rfl) 176 Tryz.f176 _ _ rfl (by kernel_rfl) rfl (by kernel_rfl) (by kernel_rfl) (fun v w => ValsV v w (strs [K, J, a])) rfl Tryz.func176 (by kernel_rfl) rfl rfl rfl rfl (fun w1 V hb hV => CE.out w1 V hb hV), ow_val hA (wants_at hA 2 false 25 rfl rfl (by kernel_rfl) rfl rfl (by kernel_rfl)) 34 (.bool false) (by kernel_rfl) rfl rfl rfl rfl (by kernel_rfl) (fun w => by kernel_rfl), ow_val hA (wants_none rfl) 35 (.bool false) (by kernel_rfl) rfl rfl rfl rfl (by kernel_rfl) (fun w => by kernel_rfl), trivial⟩) ?_
  case hst1 => intro q hq h0 v w w' h1 h2 h3 h9; simp only [List.mem_singleton] at hq; subst hq; exact ValsV.under h1 (h9 rfl)
  case hst2 => intro q hq h0; simp at h0
  intro fv w6 hf hD hb6
  simp only [putR, List.foldl_cons, List.foldl_nil, List.map_cons, List.map_nil, Act.put, List.setIfInBounds_toArray, List.set_cons_succ, List.set_cons_zero]
  refine wpList_nil ?_
  have K6 : Kept _ := ⟨K2.out.trans (hb6.mono K2.out.size)⟩
  have K46 : Kept (w6.cell? (Ap.add 3) = some (.string (strOf t0))) := ⟨(hb6.cell K4.out.2).trans K4.out.1⟩
  clear hf hD hb6
  go_wp2_with (first | ((with_reducible refine wv_val (d := 37) ?hd ?hw (.pointer (some (Ap.add 3))) ?hr ?_); (case hd => rfl); (case hw => kernel_rfl); (case hr => intro w; exact run_idxS (c := cp) rfl (by kernel_rfl) (by kernel_rfl) Tryz.underlying43 (by decide) Tryz.sizeOf9 w); simp only [Act.put, List.setIfInBounds_toArray, List.set_cons_succ, List.set_cons_zero]) | ((with_reducible refine wv_elem (d := 38) ?hd ?hw 9 ag_str (.tmp 37) ?ho (Ap.add 3) ?hx (.string (strOf t0)) ?hc ?_); (case hd => rfl); (case hw => kernel_rfl); (case ho => rfl); (case hx => kernel_rfl); (case hc => exact K46.out); simp only [Act.put, List.setIfInBounds_toArray, List.set_cons_succ, List.set_cons_zero]))
  go_ret2
  exact ⟨rfl, K6.out⟩
set_option maxRecDepth 100000 in
set_option maxHeartbeats 1000000 in
theorem OpenT_not {tb B n : Nat} {ts : List TermL} {K a s K0 J0 a0 t0 : List Nat} {M : Nat → Prop} {w : World} (hT : Tab tb B ts M w) (hs : Bytes s) (hsl : s.length ≤ maxLen) (hK : Bytes K) (ha : Bytes a) (hn : n < 18446744073709551616) (hl : ts.length < 1000000) (hx : partX ts s = some (5, [K0, J0, a0, t0])) (hy : Bytes K0 ∧ Bytes J0 ∧ Bytes a0 ∧ Bytes t0) (he : decide ([K0, J0, a0] = [K, numL n, a]) = false) :
    Calls Tryz.prog 175 #[.agg #[.pointer (some ⟨tb, 0, none⟩)], .string (strOf K), .int .u64 (n : Int), .string (strOf a), .string (strOf s)] w fun e w' => e = .returned (.tuple #[.string ⟨#[]⟩, .int .i64 5]) ∧ Below w.heap.size w w' := by
  obtain ⟨J, hJ⟩ : ∃ j, j = numL n := ⟨_, rfl⟩
  rw [← hJ] at he
  obtain ⟨bx, hbx⟩ : ∃ b, b = w.heap.size := ⟨_, rfl⟩
  obtain ⟨w0, hw0⟩ : ∃ v, v = w.alloc (.cells #[.pointer (some ⟨tb, 0, none⟩)] 90) := ⟨_, rfl⟩
  have Q0 : Kept (Below w.heap.size w w0) := ⟨by rw [hw0]; exact (Below.refl _ _).alloc (Nat.le_refl _) _⟩
  have KT : Kept (Tab tb B ts M w0) := ⟨hT.under Q0.out⟩
  have Kw0 : Kept _ := ⟨hw0⟩
  have CN : Kept (∀ w, Calls Tryz.prog 25 [.int .u64 (n : Int)].toArray w fun e w' => e = .returned (.string (strOf J)) ∧ Below w.heap.size w w') := ⟨fun w => by rw [hJ]; exact NumD hn⟩
  have CP : Kept _ := ⟨PartsE KT.out hs hsl hl hx⟩
  have KY : Kept ((∀ l ∈ [K0, J0, a0], Bytes l) ∧ ∀ l ∈ [K, J, a], Bytes l) := ⟨by
    constructor
    · intro l hl
      simp only [List.mem_cons, List.not_mem_nil, or_false] at hl
      rcases hl with rfl | rfl | rfl
      · exact hy.1
      · exact hy.2.1
      · exact hy.2.2.1
    · intro l hl
      simp only [List.mem_cons, List.not_mem_nil, or_false] at hl
      rcases hl with rfl | rfl | rfl
      · exact hK
      · rw [hJ]; exact numL_bytes _
      · exact ha⟩
  have Ke : Kept (decide ([K0, J0, a0] = [K, J, a]) = false) := ⟨he⟩
  have Kbx : Kept _ := ⟨hbx⟩
  clear hT hs hsl hK ha hn hl hx hy he hJ hw0 hbx
  go_enter Tryz.func175, Tryz.ntmps175
  go_wp2_with fail
  rw [← Kw0.out]
  refine CP.out.mono ?_
  rintro e w2 ⟨⟨V, rfl, hV⟩, q2⟩
  have K2 : Kept _ := ⟨Q0.out.trans (q2.mono Q0.out.size)⟩
  have hVv := vrow_vals hV
  obtain ⟨pp, cp, rfl, hc4⟩ := vals_form hVv (show (strs [K0, J0, a0, t0]).length = 4 from rfl)
  have h3 := vals_take (k := 3) hVv (by rw [strs_len]; simp)
  obtain ⟨Ap, rfl, hAp, hcp⟩ := vals_at hVv (strs_get (show [K0, J0, a0, t0][3]? = some t0 from rfl))
  have K3 : Kept (ValsV (.slice (some Ap) 3 cp) w2 (strs [K0, J0, a0])) := ⟨h3⟩
  have Kc : Kept (3 ≤ cp) := ⟨by omega⟩
  have K4 : Kept (w2.cell? (Ap.add 3) = some (.string (strOf t0)) ∧ (Ap.add 3).block < w2.heap.size) := ⟨⟨hcp, by rw [add_block]; exact hAp⟩⟩
  have CE : Kept (∀ (w1 : World) (V : Value), Below w2.heap.size w2 w1 → ValsV V w1 (strs [K, J, a]) → Calls Tryz.prog 176 #[.slice (some Ap) 3 cp, V] w1 fun e w' => e = .returned (.bool false) ∧ Below w1.heap.size w1 w') := ⟨fun w1 V hb hV => by
    have h9 := EqualS (K3.out.under hb) hV (n := 3) rfl rfl KY.out.1 KY.out.2 (by decide)
    rw [Ke.out] at h9
    exact h9⟩
  clear hV hVv h3 hc4 hAp hcp q2 CP
  go_wp2_with fail
  refine region_ownNL w2 13 [(23, .int .u8 (5 : Int)), (24, .bool false), (25, .bool false), (26, .slice (some Ap) 4 cp), (27, .slice (some Ap) 3 cp), (28, .string (strOf K)), (29, .int .u64 (n : Int)), (30, .string (strOf J)), (31, .string (strOf a)), (33, .bool false), (34, .bool true), (35, .bool true)] [(32, fun v w => ValsV v w (strs [K, J, a]))] [] [] rfl (by kernel_rfl) (by kernel_rfl) (by kernel_rfl) (by kernel_rfl) (by kernel_rfl) (by kernel_rfl) (by kernel_rfl) (by kernel_rfl) (by kernel_rfl) (by kernel_rfl) (by kernel_rfl) ?hst1 ?hst2 (Below.refl _ _) (fun hA => ⟨ow_val hA (wants_none rfl) 23 (.int .u8 (5 : Int)) (by kernel_rfl) rfl rfl rfl rfl (by kernel_rfl) (fun w => by kernel_rfl), ow_val hA (wants_none rfl) 24 (.bool false) (by kernel_rfl) rfl rfl rfl rfl (by kernel_rfl) (fun w => run_neU (m := 5) (n := 5) rfl (by kernel_rfl) (by kernel_rfl) rfl w), ow_val hA (wants_none rfl) 25 (.bool false) (by kernel_rfl) rfl rfl rfl rfl (by kernel_rfl) (fun w => by kernel_rfl), ow_val hA (wants_at hA 2 false 25 rfl rfl (by kernel_rfl) rfl rfl (by kernel_rfl)) 26 (.slice (some Ap) 4 cp) (by kernel_rfl) rfl rfl rfl rfl (by kernel_rfl) (fun w => by kernel_rfl), ow_val hA (wants_at hA 2 false 25 rfl rfl (by kernel_rfl) rfl rfl (by kernel_rfl)) 27 (.slice (some Ap) 3 cp) (by kernel_rfl) rfl rfl rfl rfl (by kernel_rfl) (fun w => cutTo_run (m := 3) (l := 4) (c := cp) (p := some Ap) rfl (by kernel_rfl) (by kernel_rfl) Tryz.underlying43 Tryz.sizeOf9 Kc.out w), ow_val hA (wants_at hA 2 false 25 rfl rfl (by kernel_rfl) rfl rfl (by kernel_rfl)) 28 (.string (strOf K)) (by kernel_rfl) rfl rfl rfl rfl (by kernel_rfl) (fun w => by kernel_rfl), ow_val hA (wants_at hA 2 false 25 rfl rfl (by kernel_rfl) rfl rfl (by kernel_rfl)) 29 (.int .u64 (n : Int)) (by kernel_rfl) rfl rfl rfl rfl (by kernel_rfl) (fun w => by kernel_rfl), ow_calld hA (wants_at hA 2 false 25 rfl rfl (by kernel_rfl) rfl rfl (by kernel_rfl)) 30 (.string (strOf J)) (by kernel_rfl) rfl rfl rfl rfl (by kernel_rfl) 25 Tryz.f25 _ [.tmp 29] _ [.int .u64 (n : Int)] rfl (by kernel_rfl) Tryz.func25 (by kernel_rfl) rfl (fun w2 hb => CN.out w2), ow_val hA (wants_at hA 2 false 25 rfl rfl (by kernel_rfl) rfl rfl (by kernel_rfl)) 31 (.string (strOf a)) (by kernel_rfl) rfl rfl rfl rfl (by kernel_rfl) (fun w => by kernel_rfl), ow_bs3 hA (wants_at hA 2 false 25 rfl rfl (by kernel_rfl) rfl rfl (by kernel_rfl)) 32 28 30 31 K J a rfl rfl (by kernel_rfl) (by kernel_rfl) (by kernel_rfl) (by kernel_rfl) (by kernel_rfl) (by kernel_rfl) rfl rfl rfl (by kernel_rfl) (by kernel_rfl) (by kernel_rfl) rfl rfl, ow_callE hA (wants_at hA 2 false 25 rfl rfl (by kernel_rfl) rfl rfl (by kernel_rfl)) 33 (.bool false) 27 32 (.slice (some Ap) 3 cp) rfl rfl (by kernel_rfl) 176 Tryz.f176 _ _ rfl (by kernel_rfl) rfl (by kernel_rfl) (by kernel_rfl) (fun v w => ValsV v w (strs [K, J, a])) rfl Tryz.func176 (by kernel_rfl) rfl rfl rfl rfl (fun w1 V hb hV => CE.out w1 V hb hV), ow_val hA (wants_at hA 2 false 25 rfl rfl (by kernel_rfl) rfl rfl (by kernel_rfl)) 34 (.bool true) (by kernel_rfl) rfl rfl rfl rfl (by kernel_rfl) (fun w => by kernel_rfl), ow_val hA (wants_none rfl) 35 (.bool true) (by kernel_rfl) rfl rfl rfl rfl (by kernel_rfl) (fun w => by kernel_rfl), trivial⟩) ?_
  case hst1 => intro q hq h0 v w w' h1 h2 h3 h9; simp only [List.mem_singleton] at hq; subst hq; exact ValsV.under h1 (h9 rfl)
  case hst2 => intro q hq h0; simp at h0
  intro fv w6 hf hD hb6
  simp only [putR, List.foldl_cons, List.foldl_nil, List.map_cons, List.map_nil, Act.put, List.setIfInBounds_toArray, List.set_cons_succ, List.set_cons_zero]
  refine wpList_nil ?_
  have K6 : Kept _ := ⟨K2.out.trans (hb6.mono K2.out.size)⟩
  have K46 : Kept (w6.cell? (Ap.add 3) = some (.string (strOf t0))) := ⟨(hb6.cell K4.out.2).trans K4.out.1⟩
  clear hf hD hb6
  go_wp2_with (first | ((with_reducible refine wv_val (d := 37) ?hd ?hw (.pointer (some (Ap.add 3))) ?hr ?_); (case hd => rfl); (case hw => kernel_rfl); (case hr => intro w; exact run_idxS (c := cp) rfl (by kernel_rfl) (by kernel_rfl) Tryz.underlying43 (by decide) Tryz.sizeOf9 w); simp only [Act.put, List.setIfInBounds_toArray, List.set_cons_succ, List.set_cons_zero]) | ((with_reducible refine wv_elem (d := 38) ?hd ?hw 9 ag_str (.tmp 37) ?ho (Ap.add 3) ?hx (.string (strOf t0)) ?hc ?_); (case hd => rfl); (case hw => kernel_rfl); (case ho => rfl); (case hx => kernel_rfl); (case hc => exact K46.out); simp only [Act.put, List.setIfInBounds_toArray, List.set_cons_succ, List.set_cons_zero]))
  go_ret2
  exact ⟨rfl, K6.out⟩

set_option maxRecDepth 100000 in
set_option maxHeartbeats 1000000 in
theorem OpenT_kind {tb B n : Nat} {ts : List TermL} {s : List Nat} {K a : ByteArray} {M : Nat → Prop} {w : World} (hT : Tab tb B ts M w) (hs : Bytes s) (hsl : s.length ≤ maxLen) (hl : ts.length < 1000000) {k : Nat} {ll : List (List Nat)} (hx : partX ts s = some (k, ll)) (hk : k ≠ 5) :
    Calls Tryz.prog 175 #[.agg #[.pointer (some ⟨tb, 0, none⟩)], .string K, .int .u64 (n : Int), .string a, .string (strOf s)] w fun e w' => e = .returned (.tuple #[.string ⟨#[]⟩, .int .i64 5]) ∧ Below w.heap.size w w' := by
  obtain ⟨w0, hw0⟩ : ∃ v, v = w.alloc (.cells #[.pointer (some ⟨tb, 0, none⟩)] 90) := ⟨_, rfl⟩
  have Q0 : Kept (Below w.heap.size w w0) := ⟨by rw [hw0]; exact (Below.refl _ _).alloc (Nat.le_refl _) _⟩
  have KT : Kept (Tab tb B ts M w0) := ⟨hT.under Q0.out⟩
  have Kw0 : Kept _ := ⟨hw0⟩
  have CP : Kept _ := ⟨PartsE KT.out hs hsl hl hx⟩
  have Kk : Kept (true = !decide (k = 5)) := ⟨by rw [decide_eq_false hk]; rfl⟩
  clear hT hs hsl hl hx hk hw0
  go_enter Tryz.func175, Tryz.ntmps175
  go_wp2_with fail
  rw [← Kw0.out]
  refine CP.out.mono ?_
  rintro e w2 ⟨⟨V, rfl, _⟩, q2⟩
  have K2 : Kept _ := ⟨Q0.out.trans (q2.mono Q0.out.size)⟩
  clear q2 CP
  go_wp2_with fail
  refine region_skipL w2 13 [(23, .int .u8 (k : Int)), (24, .bool true), (25, .bool true), (26, undef), (27, undef), (28, undef), (29, undef), (30, undef), (31, undef), (32, undef), (33, undef), (34, undef), (35, .bool true)] [] rfl (by kernel_rfl) (by kernel_rfl) (by kernel_rfl) (by kernel_rfl) (by kernel_rfl) (by kernel_rfl) (by kernel_rfl) (by kernel_rfl) ?hst (Below.refl _ _) (fun hA => ⟨.inl (ow_val hA (wants_none rfl) 23 (.int .u8 (k : Int)) (by kernel_rfl) rfl rfl rfl rfl (by kernel_rfl) (fun w => by kernel_rfl)), .inl (ow_val hA (wants_none rfl) 24 (.bool true) (by kernel_rfl) rfl rfl rfl rfl (by kernel_rfl) (fun w => run_neU (m := k) (n := 5) rfl (by kernel_rfl) (by kernel_rfl) Kk.out w)), .inl (ow_val hA (wants_none rfl) 25 (.bool true) (by kernel_rfl) rfl rfl rfl rfl (by kernel_rfl) (fun w => by kernel_rfl)), skip_at hA 2 false true 26 25 rfl rfl (by kernel_rfl) rfl (by kernel_rfl) rfl rfl rfl (by kernel_rfl), skip_at hA 2 false true 27 25 rfl rfl (by kernel_rfl) rfl (by kernel_rfl) rfl rfl rfl (by kernel_rfl), skip_at hA 2 false true 28 25 rfl rfl (by kernel_rfl) rfl (by kernel_rfl) rfl rfl rfl (by kernel_rfl), skip_at hA 2 false true 29 25 rfl rfl (by kernel_rfl) rfl (by kernel_rfl) rfl rfl rfl (by kernel_rfl), skip_at hA 2 false true 30 25 rfl rfl (by kernel_rfl) rfl (by kernel_rfl) rfl rfl rfl (by kernel_rfl), skip_at hA 2 false true 31 25 rfl rfl (by kernel_rfl) rfl (by kernel_rfl) rfl rfl rfl (by kernel_rfl), skip_at hA 2 false true 32 25 rfl rfl (by kernel_rfl) rfl (by kernel_rfl) rfl rfl rfl (by kernel_rfl), skip_at hA 2 false true 33 25 rfl rfl (by kernel_rfl) rfl (by kernel_rfl) rfl rfl rfl (by kernel_rfl), skip_at hA 2 false true 34 25 rfl rfl (by kernel_rfl) rfl (by kernel_rfl) rfl rfl rfl (by kernel_rfl), .inl (ow_val hA (wants_none rfl) 35 (.bool true) (by kernel_rfl) rfl rfl rfl rfl (by kernel_rfl) (fun w => by kernel_rfl)), trivial⟩) ?_
  case hst => intro q hq; cases hq
  intro fv w6 hf hb6
  simp only [putR, List.foldl_cons, List.foldl_nil, List.map_cons, List.map_nil, Act.put, List.setIfInBounds_toArray, List.set_cons_succ, List.set_cons_zero]
  refine wpList_nil ?_
  have K6 : Kept _ := ⟨K2.out.trans (hb6.mono K2.out.size)⟩
  clear hf hb6
  go_wp2_with fail
  go_ret2
  exact ⟨rfl, K6.out⟩
end Go.Proofs.YtjkdonjcngmjeaaGreatDoor.sh
