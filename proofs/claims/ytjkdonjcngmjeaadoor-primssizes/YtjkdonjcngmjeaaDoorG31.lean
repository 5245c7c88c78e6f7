/-
  General pieces, joined: MH.
-/
import Derived.Test.YtjkdonjcngmjeaaDoorG30
import Derived.Test.YtjkdonjcngmjeaaDoorG20
/-
  Both kinds of prims as values; answers that the document fixes.
-/
namespace Go.Proofs.YtjkdonjcngmjeaaDoor.sh
open Go Go.RowKit
set_option linter.unusedVariables false
set_option linter.unusedSimpArgs false

theorem RealD {w : World} : Calls Tryd.prog 5 #[] w fun e w' => e = .returned (.iface 39 (.agg #[])) ∧ Below w.heap.size w w' := by
  go_enter Tryd.func5, Tryd.ntmps5
  go_wp2_with fail
  go_ret
  exact ⟨rfl, Below.refl _ _⟩
theorem SymbolD {tb : Nat} {w : World} : Calls Tryd.prog 6 #[.pointer (some ⟨tb, 0, none⟩)] w fun e w' => e = .returned (.iface 41 (.agg #[.pointer (some ⟨tb, 0, none⟩)])) ∧ Below w.heap.size w w' := by
  go_enter Tryd.func6, Tryd.ntmps6
  go_wp2_with fail
  go_ret
  exact ⟨rfl, Below.refl _ _⟩
theorem SymbolN {w : World} : Calls Tryd.prog 6 #[.pointer none] w fun e w' => e = .returned .nilIface ∧ Below w.heap.size w w' := by
  go_enter Tryd.func6, Tryd.ntmps6
  go_wp2_with fail
  go_ret
  exact ⟨rfl, Below.refl _ _⟩

section
variable {h : List Oper} {A0 A : Act} {L : List (Nat × ((Nat → Prop) → Value → World → Prop))} {i : Nat} {o : Oper} {tb B : Nat} {ts us : List TermL} {W : World} {M0 : Nat → Prop}
/-- A call through an interface that makes a slice of texts. -/
theorem ow_invokeN {W0 : World} {M : Nat → Prop} (hA : Full h A0 A (specOf (atG L M)) (L.map (·.1))) (hw : Wants h A0 A (specOf (atG L M)) [] [] W0.heap.size i o) (hC : CT tb B ts M0 W M W0) (d : Nat) (hdet : detE h (L.map (·.1)) [] i o = true) (hd : o.dst = some d) (recv : Operand) (name : String) (args : List Operand) (tys : Array TypeId) (t : TypeId) (x : Value) (f : Nat) (rv : Value) (fn : Func) (c : Code) (vs : List Value) (ho : o.op = .call { callee := .invoke recv name, args := args.toArray, argTypes := tys })
    (hr : A.eval recv = .iface t x) (hargs : args.map A.eval = vs) (hmet : ∀ w, (method (Tryd.prog.types.size + Made.depth) t x name).run Tryd.prog w = .ok (f, rv) w) (hf : Tryd.prog.funcs[f]? = some fn) (hname : (fn.name == "runtime.NumGoroutine") = false) (hb : fn.body = some c) (ll : List (List Nat)) (hp : L.lookup d = some (NewS ll))
    (hc : ∀ w, Below W0.heap.size W0 w → Calls Tryd.prog f (rv :: vs).toArray w fun e w' => ∃ v, e = .returned v ∧ VRow w.heap.size 9 (strs ll) v w' ∧ Below w.heap.size w w') : OwnOk Tryd.prog h A0 W0 (relR A (specOf (atG L M))) [] [] i o := by
  refine ow_invokeS hA hw d hdet hd recv name args tys t x f rv fn c vs ho (by rw [ho]; simp [Op.operands, Call.operands]) (fun y hy => by rw [ho]; simp [Op.operands, Call.operands, hy]) hr hargs hmet hf hname hb fun w hB => (hc w hB).mono fun e w' hh => ?_
  obtain ⟨v, rfl, hV, hb2⟩ := hh
  refine ⟨v, rfl, ?_, hb2, fun h9 => by cases h9⟩
  refine rel_spec _ (show specOf (atG L M) d = some (NewS ll M) from by rw [specOf_atG, hp]; rfl) ⟨vrow_vals hV, fun b hb => ?_⟩
  have := hV.range b hb
  exact ⟨fun hM => by have := (hC.1.range hM).2; have := hB.size; omega, this.2⟩
theorem ow_lenN {W0 : World} {M : Nat → Prop} (hA : Full h A0 A (specOf (atG L M)) (L.map (·.1))) (hw : Wants h A0 A (specOf (atG L M)) [] [] W0.heap.size i o) (d s : Nat) (v : Value) (hd : o.dst = some d) (hds : (L.map (·.1)).contains d = false) (hv : A.tmps[d]? = some v) (t : TypeId) (ho : o.op = .call { callee := .builtin .len, args := #[.tmp s], argTypes := #[t] }) (hws : waitsFor h o s = true) (ll : List (List Nat)) (hs : L.lookup s = some (NewS ll)) {n : Nat} (hn : ll.length = n ∧ v = .int .i64 (n : Int)) {e : TypeId} (ht : Tryd.prog.underlying t = some (.slice e)) : OwnOk Tryd.prog h A0 W0 (relR A (specOf (atG L M))) [] [] i o :=
  ow_run hw d hd fun a w hF hB hgot => by
    obtain ⟨hV, _⟩ := gotE_spec hgot (d := s) (NewS ll M) hws (by simp) (by rw [specOf_atG, hs]; rfl)
    obtain ⟨p, c, e1, _⟩ := vals_form hV.1 (show (strs ll).length = n by rw [strs_len]; exact hn.1)
    refine ⟨v, w, none, ?_, ?_, grown_none (Below.refl _ _), fun b hb => (by cases hb), fun h3 => by cases h3⟩
    · unfold execOp
      simp only [ho, resolve, invoke, builtin, Sem.run_bind, Sem.run_pure, Result.andThen_ok, List.map_toArray, List.map_cons, List.map_nil, e1]
      simp [Builtin.len_, run_underlying ht, goInt, go_sem, hn.2]
    · unfold relR
      rw [hA.spec d (not_mem_of hds)]
      exact hv
end
theorem RootsAt.turn {M M' : Nat → Prop} {w w' : World} (h : RootsAt w) (ht : Turn M w M' w') (hM : ¬ M 0) : RootsAt w' := ⟨Nat.lt_of_lt_of_le h.1 ht.size, fun i x hx => ht.cell (h.2 i x hx) h.1 hM⟩

def TA1 : List TermL := [(4, [hashW, [97], [98, 99]])]
def TA2 : List TermL := [(4, [hashW, [97], [98, 99]]), (4, [hashW, [97, 98], [99]])]
theorem ga1 : putL [] (4, [hashW, [97], [98, 99]]) = (TA1, termN 1) := by kernel_rfl
theorem ga2 : putL TA1 (4, [hashW, [97, 98], [99]]) = (TA2, termN 2) := by kernel_rfl
theorem ga3 : putL TA2 (4, [hashW, [97], [98, 99]]) = (TA2, termN 1) := by kernel_rfl
theorem ga4 : termN 1 ≠ termN 2 := fun h => absurd (termN_inj (by decide) (by decide) h) (by decide)

set_option maxRecDepth 100000 in
set_option maxHeartbeats 4000000 in
theorem alive11 {w : World} (hr : RootsAt w) : Calls Tryd.prog 4 #[] w fun e w' => e = .returned (.bool true) ∧ Below w.heap.size w w' := by
  obtain ⟨J, hJ⟩ : ∃ l : List Nat, l = [97, 98, 99] := ⟨_, rfl⟩
  obtain ⟨D, hD⟩ : ∃ l, l = sumL J := ⟨_, rfl⟩
  obtain ⟨N1, hN1⟩ : ∃ l, l = termN 1 := ⟨_, rfl⟩
  obtain ⟨N2, hN2⟩ : ∃ l, l = termN 2 := ⟨_, rfl⟩
  obtain ⟨T1, hT1⟩ : ∃ l, l = TA1 := ⟨_, rfl⟩
  obtain ⟨T2, hT2⟩ : ∃ l, l = TA2 := ⟨_, rfl⟩
  obtain ⟨kl, hkl⟩ : ∃ l, l = keysL D [] 2 := ⟨_, rfl⟩
  have KR : Kept _ := ⟨hr⟩
  have y1 : Bytes [97] := bytes_of_all (by decide)
  have y2 : Bytes [98, 99] := bytes_of_all (by decide)
  have y3 : Bytes [97, 98] := bytes_of_all (by decide)
  have y4 : Bytes [99] := bytes_of_all (by decide)
  have YJ : Kept (Bytes J) := ⟨by rw [hJ]; exact bytes_of_all (by decide)⟩
  have LJ : Kept (J.length = 3) := ⟨by rw [hJ]; rfl⟩
  have CJ : Kept (#[.int .u8 97, .int .u8 98, .int .u8 99] = ints .u8 J) := ⟨by rw [hJ]; rfl⟩
  have NJ : Kept (∀ w : World, Const 5 .u8 J (.slice (some ⟨w.heap.size, 0, none⟩) 3 3) (w.alloc (.cells #[.int .u8 97, .int .u8 98, .int .u8 99] 5))) := ⟨fun w => by rw [CJ.out]; exact Const.new LJ.out⟩
  have LD : Kept (D.length = 32) := ⟨by rw [hD]; exact sumL_len _⟩
  have YD : Kept (Bytes D) := ⟨by rw [hD]; exact sumL_bytes _⟩
  have DD : Kept (true = decide (D = D)) := ⟨(decide_eq_true rfl).symm⟩
  have YN : Kept (Bytes N1 ∧ Bytes N2) := ⟨⟨by rw [hN1]; exact termN_bytes _, by rw [hN2]; exact termN_bytes _⟩⟩
  have DN : Kept (true = !decide (N1 = N2)) := ⟨by rw [decide_eq_false (by rw [hN1, hN2]; exact ga4)]; rfl⟩
  have LN1 : Kept (32 = N1.length) := ⟨by rw [hN1, termN_len]⟩
  have IZ : Kept ((Tryd.prog.info? 22).map (·.size) = some (ints .u8 D).size ∧ (ints .u8 D).size = 32) := ⟨by rw [ints_size, LD.out]; exact ⟨t32_info, rfl⟩⟩
  have Lkl : Kept (kl.length = 2 ∧ (.int .i64 2 : Value) = .int .i64 ((2 : Nat) : Int)) := ⟨⟨by rw [hkl, keysL_len], rfl⟩⟩
  have CSum : Kept (∀ v w, RootsAt w → BytesV v w J → Calls Tryd.prog 8 [v].toArray w fun e w' => e = .returned (.agg (ints .u8 D)) ∧ Below w.heap.size w w') := ⟨fun v w h1 h2 => by rw [hD]; exact cSum YJ.out (by rw [LJ.out]; decide) h1 h2⟩
  have CH1 : Kept (∀ w, RootsAt w → Calls Tryd.prog 61 (.agg #[] :: [.string ⟨#[97]⟩, .string ⟨#[98, 99]⟩]).toArray w fun e w' => e = .returned (.string (strOf D)) ∧ Below w.heap.size w w') := ⟨fun w h => by
    have h9 := HashR (w := w) y1 y2 (by decide) h
    rw [hD, hJ]
    exact h9⟩
  have CH2 : Kept (∀ w, RootsAt w → Calls Tryd.prog 61 (.agg #[] :: [.string ⟨#[97, 98]⟩, .string ⟨#[99]⟩]).toArray w fun e w' => e = .returned (.string (strOf D)) ∧ Below w.heap.size w w') := ⟨fun w h => by
    have h9 := HashR (w := w) y3 y4 (by decide) h
    rw [hD, hJ]
    exact h9⟩
  have CK : Kept (∀ w, RootsAt w → Calls Tryd.prog 62 (.agg #[] :: [.string (strOf D), .string ⟨#[]⟩, .int .i64 2]).toArray w fun e w' => ∃ V, e = .returned V ∧ VRow w.heap.size 9 (strs kl) V w' ∧ Below w.heap.size w w') := ⟨fun w h => by
    have h9 := KeysR (w := w) (s := D) (y := []) (n := 2) YD.out LD.out (fun i x h => by simp at h) (by decide) (by decide) (by decide) h
    rw [← hkl] at h9
    exact h9⟩
  have CP : Kept (∀ w, Calls Tryd.prog 64 (.agg #[] :: [.string ⟨#[115, 104, 111, 114, 116]⟩]).toArray w fun e w' => e = .returned (.string ⟨#[]⟩) ∧ Below w.heap.size w w') := ⟨fun w => Pub_no (s := [115, 104, 111, 114, 116]) (bytes_of_all (by decide)) (by decide)⟩
  have G1 : Kept (putL [] (4, [hashW, [97], [98, 99]]) = (T1, N1)) := ⟨by rw [hT1, hN1]; exact ga1⟩
  have G2 : Kept (putL T1 (4, [hashW, [97, 98], [99]]) = (T2, N2)) := ⟨by rw [hT1, hT2, hN2]; exact ga2⟩
  have G3 : Kept (putL T2 (4, [hashW, [97], [98, 99]]) = (T2, N1)) := ⟨by rw [hT2, hN1]; exact ga3⟩
  have LT : Kept (T1.length < 1000000 ∧ T2.length < 1000000) := ⟨by rw [hT1, hT2]; exact ⟨by decide, by decide⟩⟩
  have Y1 : Kept _ := ⟨y1⟩; have Y2 : Kept _ := ⟨y2⟩; have Y3 : Kept _ := ⟨y3⟩; have Y4 : Kept _ := ⟨y4⟩
  clear hr hJ hD hN1 hN2 hT1 hT2 hkl CJ y1 y2 y3 y4
  go_enter Tryd.func4, Tryd.ntmps4
  go_wp2_with fail
  refine RealD.mono ?_
  rintro e w1 ⟨rfl, q1⟩
  go_wp2_with fail
  refine NewD.mono ?_
  rintro e w2 ⟨⟨tb, M0, rfl, hT2⟩, q2⟩
  obtain ⟨B, hB⟩ : ∃ b, b = w1.heap.size := ⟨_, rfl⟩
  rw [← hB] at hT2
  have KB : Kept (w.heap.size ≤ B) := ⟨by rw [hB]; exact q1.size⟩
  go_wp2_with fail
  refine SymbolD.mono ?_
  rintro e w3 ⟨rfl, q3⟩
  have KT3 : Kept (Tab tb B [] M0 w3) := ⟨hT2.under q3⟩
  have p2 := q1.trans (q2.mono q1.size)
  have Q3 : Kept _ := ⟨p2.trans (q3.mono p2.size)⟩
  clear q1 q2 q3 p2 hT2 hB
  go_wp2_with fail
  refine SymbolN.mono ?_
  rintro e w4 ⟨rfl, q4⟩
  have KT4 : Kept (Tab tb B [] M0 w4) := ⟨KT3.out.under q4⟩
  have Q4 : Kept _ := ⟨Q3.out.trans (q4.mono Q3.out.size)⟩
  clear q4 KT3 Q3
  go_wp2_with (first | (refine wl_conv (d := 18) rfl rfl 32 5 (.tmp 17) rfl _ rfl Tryd.underlying32 Tryd.underlying5 J (NJ.out w4) ?_))
  intro w5 C5 G5
  have q5 : Below w4.heap.size w4 w5 := ((Below.refl _ _).alloc (Nat.le_refl _) _).trans (grown_mono G5 (by simp) (fun b hb => by cases hb; exact Nat.le_refl _))
  have KT5 : Kept (Tab tb B [] M0 w5) := ⟨KT4.out.under q5⟩
  have Q5 : Kept _ := ⟨Q4.out.trans (q5.mono Q4.out.size)⟩
  have C6 : Kept _ := ⟨C5.ints⟩
  clear q5 C5 G5 KT4 Q4
  go_wp2_with fail
  refine (CSum.out _ _ (KR.out.under Q5.out) C6.out).mono ?_
  rintro e w6 ⟨rfl, q6⟩
  have KT6 : Kept (Tab tb B [] M0 w6) := ⟨KT5.out.under q6⟩
  have Q6 : Kept _ := ⟨Q5.out.trans (q6.mono Q5.out.size)⟩
  clear q6 KT5 Q5 C6
  go_wp2_with (first | (refine wl_store rfl 22 (.tmp 3) (.tmp 19) rfl w6.heap.size (ints .u8 D) rfl rfl _ (blk_new _ _ _) IZ.out.1 (by rw [IZ.out.2]; rfl) (ints_one _ _) ?_; intro w5 hB5 hp5; simp only [Act.put, List.setIfInBounds_toArray, List.set_cons_succ, List.set_cons_zero]))
  generalize w5 = W at *
  obtain ⟨gD, hgD⟩ : ∃ g, g = w6.heap.size := ⟨_, rfl⟩
  rw [← hgD] at hB5 hp5 ⊢
  have q7 : Below w6.heap.size w6 W := ((Below.refl w6.heap.size w6).alloc (Nat.le_refl _) _).trans (hp5.below (by omega))
  have KTW : Kept (Tab tb B [] M0 W) := ⟨KT6.out.under q7⟩
  have QW : Kept _ := ⟨Q6.out.trans (q7.mono Q6.out.size)⟩
  have KgD : Kept (Blk W gD 22 (ints .u8 D) ∧ ¬ M0 gD) := ⟨⟨hB5, fun hM => by have := (KT6.out.range hM).2; omega⟩⟩
  have KRW : Kept (RootsAt W ∧ ¬ M0 0) := ⟨⟨KR.out.under QW.out, fun hM => by have h1 := (KT6.out.range hM).1; have h2 := KR.out.1; have h3 := KB.out; omega⟩⟩
  have KRt : Kept (∀ (ts : List TermL) (M : Nat → Prop) (W1 w2 : World), CT tb B ts M0 W M W1 → Below W1.heap.size W1 w2 → RootsAt w2) := ⟨fun ts M W1 w2 h1 h2 => (KRW.out.1.turn h1.2 KRW.out.2).under h2⟩
  have KDb : Kept (∀ (ts : List TermL) (M : Nat → Prop) (W1 w2 : World), CT tb B ts M0 W M W1 → Below W1.heap.size W1 w2 → IntsV .u8 (.slice (some ⟨gD, 0, none⟩) 32 32) w2 D) := ⟨fun ts M W1 w2 h1 h2 => blk_bytes ((h1.2.blk KgD.out.1 KgD.out.2).under h2) LD.out⟩
  have CT1 : Kept (∀ (M : Nat → Prop) (w : World), CT tb B [] M0 W M w → Calls Tryd.prog 106 (.agg #[.pointer (some ⟨tb, 0, none⟩)] :: [.string ⟨#[97]⟩, .string ⟨#[98, 99]⟩]).toArray w fun e w' => e = .returned (.string (strOf N1)) ∧ ∃ M', CT tb B T1 M0 W M' w' ∧ Turn M w M' w') := ⟨fun M w h => by
    refine (HashT h.1 Y1.out Y2.out (by decide) (by decide) (by decide) G1.out).mono fun e w' hh => ?_
    exact ⟨hh.1, h.puts hh.2⟩⟩
  have CT2 : Kept (∀ (M : Nat → Prop) (w : World), CT tb B T1 M0 W M w → Calls Tryd.prog 106 (.agg #[.pointer (some ⟨tb, 0, none⟩)] :: [.string ⟨#[97, 98]⟩, .string ⟨#[99]⟩]).toArray w fun e w' => e = .returned (.string (strOf N2)) ∧ ∃ M', CT tb B T2 M0 W M' w' ∧ Turn M w M' w') := ⟨fun M w h => by
    refine (HashT h.1 Y3.out Y4.out (by decide) (by decide) LT.out.1 G2.out).mono fun e w' hh => ?_
    exact ⟨hh.1, h.puts hh.2⟩⟩
  have CT3 : Kept (∀ (M : Nat → Prop) (w : World), CT tb B T2 M0 W M w → Calls Tryd.prog 106 (.agg #[.pointer (some ⟨tb, 0, none⟩)] :: [.string ⟨#[97]⟩, .string ⟨#[98, 99]⟩]).toArray w fun e w' => e = .returned (.string (strOf N1)) ∧ ∃ M', CT tb B T2 M0 W M' w' ∧ Turn M w M' w') := ⟨fun M w h => by
    refine (HashT h.1 Y1.out Y2.out (by decide) (by decide) LT.out.2 G3.out).mono fun e w' hh => ?_
    exact ⟨hh.1, h.puts hh.2⟩⟩
  clear hB5 hp5 hgD q7 KT6 Q6 KR CSum
  go_wp2_with fail
  refine region_phaseL (G := Nat → Prop) 42 [14, 16, 21] [(20, .iface 39 (.agg #[])), (21, .string (strOf D)), (22, .slice (some ⟨gD, 0, none⟩) 32 32), (23, .string (strOf D)), (24, .bool true), (25, .bool true), (26, .iface 39 (.agg #[])), (27, .string (strOf D)), (28, .slice (some ⟨gD, 0, none⟩) 32 32), (29, .string (strOf D)), (30, .bool true), (31, .bool true), (32, .bool true), (33, .iface 41 (.agg #[.pointer (some ⟨tb, 0, none⟩)])), (34, .string (strOf N1)), (35, .iface 41 (.agg #[.pointer (some ⟨tb, 0, none⟩)])), (36, .string (strOf N2)), (37, .bool true), (38, .bool true), (39, .bool true), (40, .iface 41 (.agg #[.pointer (some ⟨tb, 0, none⟩)])), (41, .string (strOf N1)), (42, .int .i64 (32 : Int)), (43, .bool true), (44, .bool true), (45, .bool true), (46, .iface 39 (.agg #[])), (47, .slice (some ⟨gD, 0, none⟩) 32 32), (48, .string (strOf D)), (49, .func (.method "Keys") #[.iface 39 (.agg #[])] #[]), (50, .func (.method "Keys") #[.iface 39 (.agg #[])] #[]), (51, .iface 39 (.agg #[])), (53, .int .i64 (2 : Int)), (54, .bool true), (55, .bool true), (56, .bool true), (57, .iface 39 (.agg #[])), (58, .string ⟨#[]⟩), (59, .bool true), (60, .bool true), (0, .bool true)] (LN [(52, kl)]) (fun k => CT tb B (([[], T1, T2, T2] : List (List TermL)).getD k []) M0 W) rfl (by kernel_rfl) (by kernel_rfl) (by kernel_rfl) (by kernel_rfl) (by kernel_rfl) (by kernel_rfl) (by kernel_rfl) (by kernel_rfl) (by kernel_rfl) (by kernel_rfl) LN_under (fun k g w w' h hb => CT.under h hb) M0 ⟨KTW.out, Turn.refl _ _⟩ (fun hA => ⟨.inl ⟨rfl, fun k M W1 hC1 => (fun hA => ow_val hA (wants_none rfl) 20 (.iface 39 (.agg #[])) (by kernel_rfl) rfl rfl rfl rfl (by kernel_rfl) (fun w => by kernel_rfl)) (hA M)⟩, .inl ⟨rfl, fun k M W1 hC1 => (fun hA => ow_invoke hA (wants_none rfl) 21 (.string (strOf D)) (by kernel_rfl) rfl rfl rfl rfl (by kernel_rfl) (.tmp 20) "Hash" [.const (.string ⟨#[97]⟩), .const (.string ⟨#[98, 99]⟩)] _ 39 (.agg #[]) 61 (.agg #[]) Tryd.f61 _ [.string ⟨#[97]⟩, .string ⟨#[98, 99]⟩] rfl (by kernel_rfl) (by kernel_rfl) (fun w => by kernel_rfl) Tryd.func61 (by kernel_rfl) rfl (fun w2 hb => CH1.out w2 (KRt.out _ _ _ _ hC1 hb))) (hA M)⟩, .inl ⟨rfl, fun k M W1 hC1 => (fun hA => ow_val hA (wants_none rfl) 22 (.slice (some ⟨gD, 0, none⟩) 32 32) (by kernel_rfl) rfl rfl rfl rfl (by kernel_rfl) (fun w => arr_all_run rfl (by kernel_rfl) Tryd.underlying22 Tryd.sizeOf5 (by decide) w)) (hA M)⟩, .inl ⟨rfl, fun k M W1 hC1 => (fun hA => ow_str hA (wants_none rfl) 23 (.string (strOf D)) (by kernel_rfl) rfl rfl rfl rfl (by kernel_rfl) (.tmp 22) rfl (.slice (some ⟨gD, 0, none⟩) 32 32) (by kernel_rfl) D (fun w1 hb => (KDb.out _ _ _ _ hC1 hb)) rfl) (hA M)⟩, .inl ⟨rfl, fun k M W1 hC1 => (fun hA => ow_val hA (wants_none rfl) 24 (.bool true) (by kernel_rfl) rfl rfl rfl rfl (by kernel_rfl) (fun w => run_seq rfl (by kernel_rfl) (by kernel_rfl) YD.out YD.out (decide_eq_true rfl).symm w)) (hA M)⟩, .inl ⟨rfl, fun k M W1 hC1 => (fun hA => ow_val hA (wants_none rfl) 25 (.bool true) (by kernel_rfl) rfl rfl rfl rfl (by kernel_rfl) (fun w => by kernel_rfl)) (hA M)⟩, .inl ⟨rfl, fun k M W1 hC1 => (fun hA => ow_val hA (wants_at hA 5 true 25 rfl rfl (by kernel_rfl) rfl rfl (by kernel_rfl)) 26 (.iface 39 (.agg #[])) (by kernel_rfl) rfl rfl rfl rfl (by kernel_rfl) (fun w => by kernel_rfl)) (hA M)⟩, .inl ⟨rfl, fun k M W1 hC1 => (fun hA => ow_invoke hA (wants_at hA 5 true 25 rfl rfl (by kernel_rfl) rfl rfl (by kernel_rfl)) 27 (.string (strOf D)) (by kernel_rfl) rfl rfl rfl rfl (by kernel_rfl) (.tmp 26) "Hash" [.const (.string ⟨#[97, 98]⟩), .const (.string ⟨#[99]⟩)] _ 39 (.agg #[]) 61 (.agg #[]) Tryd.f61 _ [.string ⟨#[97, 98]⟩, .string ⟨#[99]⟩] rfl (by kernel_rfl) (by kernel_rfl) (fun w => by kernel_rfl) Tryd.func61 (by kernel_rfl) rfl (fun w2 hb => CH2.out w2 (KRt.out _ _ _ _ hC1 hb))) (hA M)⟩, .inl ⟨rfl, fun k M W1 hC1 => (fun hA => ow_val hA (wants_at hA 5 true 25 rfl rfl (by kernel_rfl) rfl rfl (by kernel_rfl)) 28 (.slice (some ⟨gD, 0, none⟩) 32 32) (by kernel_rfl) rfl rfl rfl rfl (by kernel_rfl) (fun w => arr_all_run rfl (by kernel_rfl) Tryd.underlying22 Tryd.sizeOf5 (by decide) w)) (hA M)⟩, .inl ⟨rfl, fun k M W1 hC1 => (fun hA => ow_str hA (wants_at hA 5 true 25 rfl rfl (by kernel_rfl) rfl rfl (by kernel_rfl)) 29 (.string (strOf D)) (by kernel_rfl) rfl rfl rfl rfl (by kernel_rfl) (.tmp 28) rfl (.slice (some ⟨gD, 0, none⟩) 32 32) (by kernel_rfl) D (fun w1 hb => (KDb.out _ _ _ _ hC1 hb)) rfl) (hA M)⟩, .inl ⟨rfl, fun k M W1 hC1 => (fun hA => ow_val hA (wants_at hA 5 true 25 rfl rfl (by kernel_rfl) rfl rfl (by kernel_rfl)) 30 (.bool true) (by kernel_rfl) rfl rfl rfl rfl (by kernel_rfl) (fun w => run_seq rfl (by kernel_rfl) (by kernel_rfl) YD.out YD.out (decide_eq_true rfl).symm w)) (hA M)⟩, .inl ⟨rfl, fun k M W1 hC1 => (fun hA => ow_val hA (wants_none rfl) 31 (.bool true) (by kernel_rfl) rfl rfl rfl rfl (by kernel_rfl) (fun w => by kernel_rfl)) (hA M)⟩, .inl ⟨rfl, fun k M W1 hC1 => (fun hA => ow_val hA (wants_none rfl) 32 (.bool true) (by kernel_rfl) rfl rfl rfl rfl (by kernel_rfl) (fun w => by kernel_rfl)) (hA M)⟩, .inl ⟨rfl, fun k M W1 hC1 => (fun hA => ow_val hA (wants_at hA 12 true 32 rfl rfl (by kernel_rfl) rfl rfl (by kernel_rfl)) 33 (.iface 41 (.agg #[.pointer (some ⟨tb, 0, none⟩)])) (by kernel_rfl) rfl rfl rfl rfl (by kernel_rfl) (fun w => by kernel_rfl)) (hA M)⟩, .inr ⟨0, rfl, ph_invoke hA (fun M => (fun hA => (wants_at hA 12 true 32 rfl rfl (by kernel_rfl) rfl rfl (by kernel_rfl))) (hA M)) 34 (.string (strOf N1)) rfl rfl (by kernel_rfl) LN_turn (by kernel_rfl) (.tmp 33) "Hash" [.const (.string ⟨#[97]⟩), .const (.string ⟨#[98, 99]⟩)] _ 41 (.agg #[.pointer (some ⟨tb, 0, none⟩)]) 106 (.agg #[.pointer (some ⟨tb, 0, none⟩)]) Tryd.f106 _ [.string ⟨#[97]⟩, .string ⟨#[98, 99]⟩] rfl (by kernel_rfl) (by kernel_rfl) (fun w => by kernel_rfl) Tryd.func106 (by kernel_rfl) rfl (CT1.out)⟩, .inl ⟨rfl, fun k M W1 hC1 => (fun hA => ow_val hA (wants_at hA 12 true 32 rfl rfl (by kernel_rfl) rfl rfl (by kernel_rfl)) 35 (.iface 41 (.agg #[.pointer (some ⟨tb, 0, none⟩)])) (by kernel_rfl) rfl rfl rfl rfl (by kernel_rfl) (fun w => by kernel_rfl)) (hA M)⟩, .inr ⟨1, rfl, ph_invoke hA (fun M => (fun hA => (wants_at hA 12 true 32 rfl rfl (by kernel_rfl) rfl rfl (by kernel_rfl))) (hA M)) 36 (.string (strOf N2)) rfl rfl (by kernel_rfl) LN_turn (by kernel_rfl) (.tmp 35) "Hash" [.const (.string ⟨#[97, 98]⟩), .const (.string ⟨#[99]⟩)] _ 41 (.agg #[.pointer (some ⟨tb, 0, none⟩)]) 106 (.agg #[.pointer (some ⟨tb, 0, none⟩)]) Tryd.f106 _ [.string ⟨#[97, 98]⟩, .string ⟨#[99]⟩] rfl (by kernel_rfl) (by kernel_rfl) (fun w => by kernel_rfl) Tryd.func106 (by kernel_rfl) rfl (CT2.out)⟩, .inl ⟨rfl, fun k M W1 hC1 => (fun hA => ow_val hA (wants_at hA 12 true 32 rfl rfl (by kernel_rfl) rfl rfl (by kernel_rfl)) 37 (.bool true) (by kernel_rfl) rfl rfl rfl rfl (by kernel_rfl) (fun w => run_sneq rfl (by kernel_rfl) (by kernel_rfl) YN.out.1 YN.out.2 DN.out w)) (hA M)⟩, .inl ⟨rfl, fun k M W1 hC1 => (fun hA => ow_val hA (wants_none rfl) 38 (.bool true) (by kernel_rfl) rfl rfl rfl rfl (by kernel_rfl) (fun w => by kernel_rfl)) (hA M)⟩, .inl ⟨rfl, fun k M W1 hC1 => (fun hA => ow_val hA (wants_none rfl) 39 (.bool true) (by kernel_rfl) rfl rfl rfl rfl (by kernel_rfl) (fun w => by kernel_rfl)) (hA M)⟩, .inl ⟨rfl, fun k M W1 hC1 => (fun hA => ow_val hA (wants_at hA 19 true 39 rfl rfl (by kernel_rfl) rfl rfl (by kernel_rfl)) 40 (.iface 41 (.agg #[.pointer (some ⟨tb, 0, none⟩)])) (by kernel_rfl) rfl rfl rfl rfl (by kernel_rfl) (fun w => by kernel_rfl)) (hA M)⟩, .inr ⟨2, rfl, ph_invoke hA (fun M => (fun hA => (wants_at hA 19 true 39 rfl rfl (by kernel_rfl) rfl rfl (by kernel_rfl))) (hA M)) 41 (.string (strOf N1)) rfl rfl (by kernel_rfl) LN_turn (by kernel_rfl) (.tmp 40) "Hash" [.const (.string ⟨#[97]⟩), .const (.string ⟨#[98, 99]⟩)] _ 41 (.agg #[.pointer (some ⟨tb, 0, none⟩)]) 106 (.agg #[.pointer (some ⟨tb, 0, none⟩)]) Tryd.f106 _ [.string ⟨#[97]⟩, .string ⟨#[98, 99]⟩] rfl (by kernel_rfl) (by kernel_rfl) (fun w => by kernel_rfl) Tryd.func106 (by kernel_rfl) rfl (CT3.out)⟩, .inl ⟨rfl, fun k M W1 hC1 => (fun hA => ow_val hA (wants_at hA 19 true 39 rfl rfl (by kernel_rfl) rfl rfl (by kernel_rfl)) 42 (.int .i64 (32 : Int)) (by kernel_rfl) rfl rfl rfl rfl (by kernel_rfl) (fun w => run_slen rfl (by kernel_rfl) LN1.out w)) (hA M)⟩, .inl ⟨rfl, fun k M W1 hC1 => (fun hA => ow_val hA (wants_at hA 19 true 39 rfl rfl (by kernel_rfl) rfl rfl (by kernel_rfl)) 43 (.bool true) (by kernel_rfl) rfl rfl rfl rfl (by kernel_rfl) (fun w => by kernel_rfl)) (hA M)⟩, .inl ⟨rfl, fun k M W1 hC1 => (fun hA => ow_val hA (wants_none rfl) 44 (.bool true) (by kernel_rfl) rfl rfl rfl rfl (by kernel_rfl) (fun w => by kernel_rfl)) (hA M)⟩, .inl ⟨rfl, fun k M W1 hC1 => (fun hA => ow_val hA (wants_none rfl) 45 (.bool true) (by kernel_rfl) rfl rfl rfl rfl (by kernel_rfl) (fun w => by kernel_rfl)) (hA M)⟩, .inl ⟨rfl, fun k M W1 hC1 => (fun hA => ow_val hA (wants_at hA 25 true 45 rfl rfl (by kernel_rfl) rfl rfl (by kernel_rfl)) 46 (.iface 39 (.agg #[])) (by kernel_rfl) rfl rfl rfl rfl (by kernel_rfl) (fun w => by kernel_rfl)) (hA M)⟩, .inl ⟨rfl, fun k M W1 hC1 => (fun hA => ow_val hA (wants_at hA 25 true 45 rfl rfl (by kernel_rfl) rfl rfl (by kernel_rfl)) 47 (.slice (some ⟨gD, 0, none⟩) 32 32) (by kernel_rfl) rfl rfl rfl rfl (by kernel_rfl) (fun w => arr_all_run rfl (by kernel_rfl) Tryd.underlying22 Tryd.sizeOf5 (by decide) w)) (hA M)⟩, .inl ⟨rfl, fun k M W1 hC1 => (fun hA => ow_str hA (wants_at hA 25 true 45 rfl rfl (by kernel_rfl) rfl rfl (by kernel_rfl)) 48 (.string (strOf D)) (by kernel_rfl) rfl rfl rfl rfl (by kernel_rfl) (.tmp 47) rfl (.slice (some ⟨gD, 0, none⟩) 32 32) (by kernel_rfl) D (fun w1 hb => (KDb.out _ _ _ _ hC1 hb)) rfl) (hA M)⟩, .inl ⟨rfl, fun k M W1 hC1 => (fun hA => ow_val hA (wants_at hA 25 true 45 rfl rfl (by kernel_rfl) rfl rfl (by kernel_rfl)) 49 (.func (.method "Keys") #[.iface 39 (.agg #[])] #[]) (by kernel_rfl) rfl rfl rfl rfl (by kernel_rfl) (fun w => by kernel_rfl)) (hA M)⟩, .inl ⟨rfl, fun k M W1 hC1 => (fun hA => ow_val hA (wants_at hA 25 true 45 rfl rfl (by kernel_rfl) rfl rfl (by kernel_rfl)) 50 (.func (.method "Keys") #[.iface 39 (.agg #[])] #[]) (by kernel_rfl) rfl rfl rfl rfl (by kernel_rfl) (fun w => by kernel_rfl)) (hA M)⟩, .inl ⟨rfl, fun k M W1 hC1 => (fun hA => ow_val hA (wants_at hA 25 true 45 rfl rfl (by kernel_rfl) rfl rfl (by kernel_rfl)) 51 (.iface 39 (.agg #[])) (by kernel_rfl) rfl rfl rfl rfl (by kernel_rfl) (fun w => by kernel_rfl)) (hA M)⟩, .inl ⟨rfl, fun k M W1 hC1 => (fun hA => ow_invokeN hA (wants_at hA 25 true 45 rfl rfl (by kernel_rfl) rfl rfl (by kernel_rfl)) hC1 52 (by kernel_rfl) rfl (.tmp 51) "Keys" [.tmp 48, .const (.string ⟨#[]⟩), .const (.int .i64 2)] _ 39 (.agg #[]) 62 (.agg #[]) Tryd.f62 _ [.string (strOf D), .string ⟨#[]⟩, .int .i64 2] rfl (by kernel_rfl) (by kernel_rfl) (fun w => by kernel_rfl) Tryd.func62 (by kernel_rfl) rfl kl rfl (fun w2 hb => CK.out w2 (KRt.out _ _ _ _ hC1 hb))) (hA M)⟩, .inl ⟨rfl, fun k M W1 hC1 => (fun hA => ow_lenN hA (wants_at hA 25 true 45 rfl rfl (by kernel_rfl) rfl rfl (by kernel_rfl)) 53 52 (.int .i64 (2 : Int)) rfl rfl (by kernel_rfl) 34 rfl (by kernel_rfl) kl rfl Lkl.out Tryd.underlying34) (hA M)⟩, .inl ⟨rfl, fun k M W1 hC1 => (fun hA => ow_val hA (wants_at hA 25 true 45 rfl rfl (by kernel_rfl) rfl rfl (by kernel_rfl)) 54 (.bool true) (by kernel_rfl) rfl rfl rfl rfl (by kernel_rfl) (fun w => by kernel_rfl)) (hA M)⟩, .inl ⟨rfl, fun k M W1 hC1 => (fun hA => ow_val hA (wants_none rfl) 55 (.bool true) (by kernel_rfl) rfl rfl rfl rfl (by kernel_rfl) (fun w => by kernel_rfl)) (hA M)⟩, .inl ⟨rfl, fun k M W1 hC1 => (fun hA => ow_val hA (wants_none rfl) 56 (.bool true) (by kernel_rfl) rfl rfl rfl rfl (by kernel_rfl) (fun w => by kernel_rfl)) (hA M)⟩, .inl ⟨rfl, fun k M W1 hC1 => (fun hA => ow_val hA (wants_at hA 36 true 56 rfl rfl (by kernel_rfl) rfl rfl (by kernel_rfl)) 57 (.iface 39 (.agg #[])) (by kernel_rfl) rfl rfl rfl rfl (by kernel_rfl) (fun w => by kernel_rfl)) (hA M)⟩, .inl ⟨rfl, fun k M W1 hC1 => (fun hA => ow_invoke hA (wants_at hA 36 true 56 rfl rfl (by kernel_rfl) rfl rfl (by kernel_rfl)) 58 (.string ⟨#[]⟩) (by kernel_rfl) rfl rfl rfl rfl (by kernel_rfl) (.tmp 57) "Pub" [.const (.string ⟨#[115, 104, 111, 114, 116]⟩)] _ 39 (.agg #[]) 64 (.agg #[]) Tryd.f64 _ [.string ⟨#[115, 104, 111, 114, 116]⟩] rfl (by kernel_rfl) (by kernel_rfl) (fun w => by kernel_rfl) Tryd.func64 (by kernel_rfl) rfl (fun w2 hb => CP.out w2)) (hA M)⟩, .inl ⟨rfl, fun k M W1 hC1 => (fun hA => ow_val hA (wants_at hA 36 true 56 rfl rfl (by kernel_rfl) rfl rfl (by kernel_rfl)) 59 (.bool true) (by kernel_rfl) rfl rfl rfl rfl (by kernel_rfl) (fun w => by kernel_rfl)) (hA M)⟩, .inl ⟨rfl, fun k M W1 hC1 => (fun hA => ow_val hA (wants_none rfl) 60 (.bool true) (by kernel_rfl) rfl rfl rfl rfl (by kernel_rfl) (fun w => by kernel_rfl)) (hA M)⟩, .inl ⟨rfl, fun k M W1 hC1 => (fun hA => ow_val hA (wants_none rfl) 0 (.bool true) (by kernel_rfl) rfl rfl rfl rfl (by kernel_rfl) (fun w => by kernel_rfl)) (hA M)⟩, trivial⟩) ?_
  intro fv M9 w9 hf hC9
  simp only [LN, putR, List.foldl_cons, List.foldl_nil, List.map_cons, List.map_nil, Act.put, List.setIfInBounds_toArray, List.set_cons_succ, List.set_cons_zero]
  refine wpList_nil ?_
  have Q9 : Kept _ := ⟨QW.out.trans ((KTW.out.below hC9.2).mono KB.out)⟩
  clear hf hC9
  go_wp2_with fail
  go_ret
  exact ⟨rfl, Q9.out⟩
end Go.Proofs.YtjkdonjcngmjeaaDoor.sh
