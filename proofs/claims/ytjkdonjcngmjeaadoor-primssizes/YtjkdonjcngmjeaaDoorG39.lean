/-
  General pieces, joined: NI.
-/
import Derived.Test.YtjkdonjcngmjeaaDoorG36
import Derived.Test.YtjkdonjcngmjeaaDoorG37
import Derived.Test.YtjkdonjcngmjeaaDoorG38
import Derived.Test.YtjkdonjcngmjeaaDoorG31
/-
  PrimsSizes, walked, whatever limb.prime holds.
-/
namespace Go.Proofs.YtjkdonjcngmjeaaDoor.sh
open Go Go.RowKit
set_option linter.unusedVariables false
set_option linter.unusedSimpArgs false

theorem run_gtrQ {o : Oper} {a : Act} {x : Operand} {m : Int} {b : Bool} (c : Int) (ho : o.op = .binOp .gtr 3 x (.const (.int .i64 c)) 3) (hx : a.eval x = .int .i64 m) (hb : b = decide (c < m)) (w : World) : (execOp a.eval o).run Tryd.prog w = .ok (.value (.bool b)) w := by
  have e3 : a.eval (.const (.int .i64 c)) = .int .i64 c := rfl
  unfold execOp
  simp only [ho, hx, e3]
  rw [hb]
  simp [go_sem]
theorem run_remQ {o : Oper} {a : Act} {x : Operand} {m z : Nat} (ho : o.op = .binOp .rem 5 x (.const (.int .u8 4)) 5) (hx : a.eval x = .int .u8 (m : Int)) (hz : z = m % 4) (w : World) : (execOp a.eval o).run Tryd.prog w = .ok (.value (.int .u8 (z : Int))) w := by
  unfold execOp
  simp only [ho, hx]
  subst hz
  simp [go_sem, Act.eval]
  exact Int.tmod_eq_emod_of_nonneg (by omega)
theorem run_convQ {o : Oper} {a : Act} {x : Operand} {m : Nat} (ho : o.op = .convert 5 3 x) (hx : a.eval x = .int .u8 (m : Int)) (hm : m < 4) (w : World) : (execOp a.eval o).run Tryd.prog w = .ok (.value (.int .i64 (m : Int))) w := by
  unfold execOp
  simp only [ho, hx]
  have h : m = 0 ∨ m = 1 ∨ m = 2 ∨ m = 3 := by omega
  rcases h with rfl | rfl | rfl | rfl <;> simp [convert, go_sem, Tryd.underlying3] <;> rfl
/-- So many texts of 32 bytes. -/
def KV (n : Nat) (v : Value) (w : World) : Prop := ∃ kl : List (List Nat), kl.length = n ∧ (∀ K ∈ kl, K.length = 32) ∧ ValsV v w (strs kl)
theorem KV.under {n : Nat} {v : Value} {w w' : World} (h : KV n v w) (hb : Below w.heap.size w w') : KV n v w' := by
  obtain ⟨kl, h1, h2, h3⟩ := h
  exact ⟨kl, h1, h2, h3.under hb⟩
theorem KV.nil (w : World) : KV 0 (.slice none 0 0) w := ⟨[], rfl, (by simp), none, 0, rfl, Nat.le_refl _, fun h => absurd rfl h⟩
theorem nmsK_32 {ts : List TermL} {x y : List Nat} {n : Nat} (hx : x.length ≤ 4000) (hy : y.length ≤ 4000) : ∀ K ∈ nmsK ts x y n, K.length = 32 := fun K hK => by
  unfold nmsK at hK
  obtain ⟨i, _, rfl⟩ := List.mem_map.1 hK
  unfold nmK
  exact (putL_ne (keyT_fits hx hy)).2
section
variable {h : List Oper} {A0 A : Act} {i : Nat} {o : Oper}
theorem ph_invokeV {P : Program} {L : List (Nat × (Unit → Value → World → Prop))} {C C2 : Unit → World → Prop} (hA : ∀ g, Full h A0 A (specOf (atG L g)) (L.map (·.1))) (hw : ∀ g, Wants h A0 A (specOf (atG L g)) [] [] 0 i o) (d : Nat) (hd : o.dst = some d) (p : Value → World → Prop) (hL : L = [(d, fun _ => p)]) (hdet : detE h (L.map (·.1)) [] i o = true)
    (recv : Operand) (name : String) (xs : List Operand) (tys : Array TypeId) (t : TypeId) (x : Value) (f : Nat) (rv : Value) (fn : Func) (c : Code) (vs : List Value) (ho : o.op = .call { callee := .invoke recv name, args := xs.toArray, argTypes := tys }) (hr : A.eval recv = .iface t x) (hargs : xs.map A.eval = vs)
    (hmet : ∀ w, (method (P.types.size + Made.depth) t x name).run P w = .ok (f, rv) w) (hf : P.funcs[f]? = some fn) (hname : (fn.name == "runtime.NumGoroutine") = false) (hb : fn.body = some c)
    (hc : ∀ (w : World), C () w → Calls P f (rv :: vs).toArray w fun e w' => ∃ v, e = .returned v ∧ p v w' ∧ C2 () w') : PhaseOk P h A0 (fun g => relR A (specOf (atG L g))) C C2 i o := by
  refine ⟨d, hd, fun g a w hF hC hgot => ⟨hw g a w hF hgot, ?_⟩⟩
  have hev := detE_eval (hA g) hdet hF hgot
  have e1 : xs.map a.eval = vs := by
    rw [← hargs]
    refine List.map_congr_left fun y hy => hev y ?_
    rw [ho]
    simp [Op.operands, Call.operands, hy]
  have hrun := run_invoke (a := a) recv name xs tys t x f rv fn c ho ((hev recv (by rw [ho]; simp [Op.operands, Call.operands])).trans hr) hmet hf hname hb w
  rw [e1] at hrun
  unfold Oper.wp
  rw [hrun]
  simp only [Oper.upon]
  refine (hc w hC).mono fun e w' hh => ?_
  obtain ⟨v, rfl, hp, hC2⟩ := hh
  rw [hd]
  subst hL
  refine ⟨v, (), rfl, ?_, hC2, fun d' v' hne h' => ?_⟩
  · show relR A (specOf (atG [(d, fun _ => p)] ())) d v w'
    unfold relR
    simp [specOf, atG, List.lookup, hp]
  · have e2 : (d' == d) = false := by simpa using hne
    have e3 : ∀ g : Unit, specOf (atG [(d, fun (_ : Unit) => p)] g) d' = none := fun g => by simp [specOf, atG, List.lookup, e2]
    unfold relR at h' ⊢
    rw [e3] at h' ⊢
    exact h'
end

set_option maxRecDepth 100000 in
set_option maxHeartbeats 1000000 in
theorem sizes_big {pA pB pC pD : Nat} {kx s : List Nat} {nn : Nat} {w : World} (lk : kx.length = 32) (yk : Bytes kx) (hs : Bytes s) (hr : RootsAt w) (hp : PrimeP pA pB pC pD w) (hb : 1000 < s.length) : Calls Tryd.prog 3 #[.agg (ints .u8 kx), .string (strOf s), .int .u8 (nn : Int)] w fun e w' => e = .returned (.bool true) ∧ Below w.heap.size w w' := by
  obtain ⟨gm, hgk⟩ : ∃ g, g = w.heap.size := ⟨_, rfl⟩
  obtain ⟨w0, hw0⟩ : ∃ v, v = w.alloc (.cells (ints .u8 kx) 22) := ⟨_, rfl⟩
  obtain ⟨z, hz⟩ : ∃ z, z = s.length := ⟨_, rfl⟩
  have BK : Kept (Blk w0 gm 22 (ints .u8 kx)) := ⟨by rw [hw0, hgk]; exact blk_new w _ _⟩
  have q0 : Below w.heap.size w w0 := by rw [hw0]; exact (Below.refl _ _).alloc (Nat.le_refl _) _
  have Q0 : Kept (Below w.heap.size w w0) := ⟨q0⟩
  have KR : Kept (RootsAt w0) := ⟨hr.under q0⟩
  have KPr : Kept (PrimeP pA pB pC pD w0) := ⟨hp.below q0⟩
  have Lk32 : Kept (kx.length = 32) := ⟨lk⟩
  have Kz : Kept (z = s.length) := ⟨hz⟩
  have Kw0 : Kept _ := ⟨hw0⟩
  have Kgk : Kept _ := ⟨hgk⟩
  have Kb : Kept (true = decide ((1000 : Int) < (z : Int))) := ⟨by rw [decide_eq_true (by omega)]⟩
  clear hb
  clear hw0 hgk hr hp q0 lk yk hs hz
  go_enter Tryd.func3, Tryd.ntmps3
  go_wp2_with fail
  rw [← Kw0.out, ← Kgk.out]
  refine (alive11 KR.out).mono ?_
  rintro e w1 ⟨rfl, q1⟩
  have KP1 : Kept (Below w0.heap.size w0 w1) := ⟨q1⟩
  clear q1
  go_wp2_with (first | ((with_reducible refine wv_val (d := 15) ?hd ?hw (.int .i64 (z : Int)) ?hr ?_); (case hd => rfl); (case hw => kernel_rfl); (case hr => intro w; exact run_slen rfl (by kernel_rfl) Kz.out w); simp only [Act.put, List.setIfInBounds_toArray, List.set_cons_succ, List.set_cons_zero]) | ((with_reducible refine wv_val (d := 16) ?hd ?hw (.bool true) ?hr ?_); (case hd => rfl); (case hw => kernel_rfl); (case hr => intro w; exact run_gtrQ 1000 rfl (by kernel_rfl) Kb.out w); simp only [Act.put, List.setIfInBounds_toArray, List.set_cons_succ, List.set_cons_zero]))
  go_ret
  exact ⟨rfl, Q0.out.trans (KP1.out.mono Q0.out.size)⟩

set_option maxRecDepth 100000 in
set_option maxHeartbeats 8000000 in
theorem sizes_few {pA pB pC pD : Nat} {kx s : List Nat} {nn : Nat} {w : World} (lk : kx.length = 32) (yk : Bytes kx) (hs : Bytes s) (hr : RootsAt w) (hp : PrimeP pA pB pC pD w) (hsm : s.length ≤ 1000) : Calls Tryd.prog 3 #[.agg (ints .u8 kx), .string (strOf s), .int .u8 (nn : Int)] w fun e w' => e = .returned (.bool true) ∧ Below w.heap.size w w' := by
  obtain ⟨gm, hgk⟩ : ∃ g, g = w.heap.size := ⟨_, rfl⟩
  obtain ⟨w0, hw0⟩ : ∃ v, v = w.alloc (.cells (ints .u8 kx) 22) := ⟨_, rfl⟩
  obtain ⟨z, hz⟩ : ∃ z, z = s.length := ⟨_, rfl⟩
  have BK : Kept (Blk w0 gm 22 (ints .u8 kx)) := ⟨by rw [hw0, hgk]; exact blk_new w _ _⟩
  have q0 : Below w.heap.size w w0 := by rw [hw0]; exact (Below.refl _ _).alloc (Nat.le_refl _) _
  have Q0 : Kept (Below w.heap.size w w0) := ⟨q0⟩
  have KR : Kept (RootsAt w0) := ⟨hr.under q0⟩
  have KPr : Kept (PrimeP pA pB pC pD w0) := ⟨hp.below q0⟩
  have Lk32 : Kept (kx.length = 32) := ⟨lk⟩
  have Kz : Kept (z = s.length) := ⟨hz⟩
  have Kw0 : Kept _ := ⟨hw0⟩
  have Kgk : Kept _ := ⟨hgk⟩
  have Kb : Kept (false = decide ((1000 : Int) < (z : Int))) := ⟨by rw [decide_eq_false (by omega)]⟩
  obtain ⟨n, hn⟩ : ∃ n, n = nn % 4 := ⟨_, rfl⟩
  have n4 : n < 4 := by rw [hn]; exact Nat.mod_lt _ (by decide)
  have Kn : Kept (n = nn % 4 ∧ n < 4) := ⟨⟨hn, n4⟩⟩
  have hm : 4000 ≤ maxLen := by decide
  obtain ⟨Y, hY⟩ : ∃ y, y = pubP pA pB pC pD kx := ⟨_, rfl⟩
  obtain ⟨H, hH⟩ : ∃ y, y = sumL (s ++ s) := ⟨_, rfl⟩
  have LY : Kept (32 = Y.length) := ⟨by rw [hY, pubP_len]⟩
  have LH : Kept (32 = H.length) := ⟨by rw [hH, sumL_len]⟩
  have CP : Kept (∀ w2, Below w0.heap.size w0 w2 → Calls Tryd.prog 64 (.agg #[] :: [.string (strOf kx)]).toArray w2 fun e w' => e = .returned (.string (strOf Y)) ∧ Below w2.heap.size w2 w') := ⟨fun w2 hb => by rw [hY]; exact PubRP yk lk (KPr.out.below hb)⟩
  have CH : Kept (∀ w2, Below w0.heap.size w0 w2 → Calls Tryd.prog 61 (.agg #[] :: [.string (strOf s), .string (strOf s)]).toArray w2 fun e w' => e = .returned (.string (strOf H)) ∧ Below w2.heap.size w2 w') := ⟨fun w2 hb => by rw [hH]; exact HashR hs hs (by omega) (KR.out.under hb)⟩
  have CKr : Kept (∀ w2, Below w0.heap.size w0 w2 → Calls Tryd.prog 62 (.agg #[] :: [.string (strOf kx), .string (strOf s), .int .i64 (n : Int)]).toArray w2 fun e w' => ∃ v, e = .returned v ∧ KV n v w' ∧ Below w2.heap.size w2 w') := ⟨fun w2 hb => by
    by_cases h0 : n = 0
    · refine (Keys_err (z := (n : Int)) yk lk hs (.inl (by omega))).mono fun e w' hh => ?_
      exact ⟨_, hh.1, by rw [h0]; exact KV.nil _, hh.2⟩
    · refine (KeysR yk lk hs (by omega) (by omega) (by omega) (KR.out.under hb)).mono fun e w' hh => ?_
      obtain ⟨v, e1, e2, e3⟩ := hh
      exact ⟨v, e1, ⟨_, keysL_len _ _ _, keysL_32 _ _ _, vrow_vals e2⟩, e3⟩⟩
  have f1 : Fits ((2, [kx]) : TermL).2 := fits_any (by simp) (by
    intro l hl
    simp only [List.mem_cons, List.not_mem_nil, or_false] at hl
    subst hl; omega)
  have f2 : Fits ((4, [hashW, s, s]) : TermL).2 := fits_any (by simp) (by
    intro l hl
    simp only [List.mem_cons, List.not_mem_nil, or_false] at hl
    rcases hl with rfl | rfl | rfl
    · decide
    · omega
    · omega)
  obtain ⟨T1, P, g1⟩ : ∃ T1 P, putL [] (2, [kx]) = (T1, P) := ⟨_, _, rfl⟩
  obtain ⟨T2, N, g2⟩ : ∃ T2 N, putL T1 (4, [hashW, s, s]) = (T2, N) := ⟨_, _, rfl⟩
  have l0 : ([] : List TermL).length = 0 := rfl
  have l1 := putL_len [] (2, [kx])
  rw [g1] at l1
  have l2 := putL_len T1 (4, [hashW, s, s])
  rw [g2] at l2
  simp only at l1 l2
  have n1 := putL_ne (ts := []) f1
  rw [g1] at n1
  have n2 := putL_ne (ts := T1) f2
  rw [g2] at n2
  simp only at n1 n2
  have LP : Kept (32 = P.length) := ⟨n1.2.symm⟩
  have LNN : Kept (32 = N.length) := ⟨n2.2.symm⟩
  have CPs : Kept (∀ (tb B0 : Nat) (M0 : Nat → Prop) (W : World) (M : Nat → Prop) (w : World), CT tb B0 [] M0 W M w → Calls Tryd.prog 37 (.pointer (some ⟨tb, 0, none⟩) :: [.string (strOf kx)]).toArray w fun e w' => e = .returned (.string (strOf P)) ∧ ∃ M', CT tb B0 T1 M0 W M' w' ∧ Turn M w M' w') := ⟨fun tb B0 M0 W M w h => (PubE h.1 yk (by omega) (by simp) g1 rfl).mono fun e w' hh => ⟨hh.1, h.puts hh.2⟩⟩
  have CHs : Kept (∀ (tb B0 : Nat) (M0 : Nat → Prop) (W : World) (M : Nat → Prop) (w : World), CT tb B0 T1 M0 W M w → Calls Tryd.prog 106 (.agg #[.pointer (some ⟨tb, 0, none⟩)] :: [.string (strOf s), .string (strOf s)]).toArray w fun e w' => e = .returned (.string (strOf N)) ∧ ∃ M', CT tb B0 T2 M0 W M' w' ∧ Turn M w M' w') := ⟨fun tb B0 M0 W M w h => (HashT h.1 hs hs (by omega) (by omega) (by omega) g2).mono fun e w' hh => ⟨hh.1, h.puts hh.2⟩⟩
  have CKs : Kept (∀ (tb B0 : Nat) (M : Nat → Prop) (w : World), Tab tb B0 T2 M w → Calls Tryd.prog 107 (.agg #[.pointer (some ⟨tb, 0, none⟩)] :: [.string (strOf kx), .string (strOf s), .int .i64 (n : Int)]).toArray w fun e w' => ∃ v, e = .returned v ∧ KV n v w' ∧ Below B0 w w') := ⟨fun tb B0 M w h => by
    by_cases h0 : n = 0
    · refine (KeysTb (z := (n : Int)) (.inl (by omega))).mono fun e w' hh => ?_
      exact ⟨_, hh.1, by rw [h0]; exact KV.nil _, h.below (Turn.of_below hh.2)⟩
    · refine (KeysT h yk hs (by omega) (by omega) (by omega) (by omega) (by omega)).mono fun e w' hh => ?_
      obtain ⟨v, M', e1, e2, _, _, e3⟩ := hh
      exact ⟨v, e1, ⟨_, nmsK_len _ _ _ _, nmsK_32 (by omega) (by omega), vrow_vals e2⟩, h.below e3⟩⟩
  clear hn n4 hm hY hH f1 f2 g1 g2 l0 l1 l2 n1 n2 hsm
  clear hw0 hgk hr hp q0 lk yk hs hz
  go_enter Tryd.func3, Tryd.ntmps3
  go_wp2_with fail
  rw [← Kw0.out, ← Kgk.out]
  refine (alive11 KR.out).mono ?_
  rintro e w1 ⟨rfl, q1⟩
  have KP1 : Kept (Below w0.heap.size w0 w1) := ⟨q1⟩
  clear q1
  go_wp2_with (first | ((with_reducible refine wv_val (d := 15) ?hd ?hw (.int .i64 (z : Int)) ?hr ?_); (case hd => rfl); (case hw => kernel_rfl); (case hr => intro w; exact run_slen rfl (by kernel_rfl) Kz.out w); simp only [Act.put, List.setIfInBounds_toArray, List.set_cons_succ, List.set_cons_zero]) | ((with_reducible refine wv_val (d := 16) ?hd ?hw (.bool false) ?hr ?_); (case hd => rfl); (case hw => kernel_rfl); (case hr => intro w; exact run_gtrQ 1000 rfl (by kernel_rfl) Kb.out w); simp only [Act.put, List.setIfInBounds_toArray, List.set_cons_succ, List.set_cons_zero]))
  refine RealD.mono ?_
  rintro e w5 ⟨rfl, q5⟩
  have KP5 : Kept (Below w0.heap.size w0 w5) := ⟨KP1.out.trans (q5.mono KP1.out.size)⟩
  clear q5 KP1
  go_wp2_with fail
  refine NewD.mono ?_
  rintro e w6 ⟨⟨tb, M0, rfl, hT6⟩, q6⟩
  obtain ⟨B0, hB0⟩ : ∃ b, b = w5.heap.size := ⟨_, rfl⟩
  rw [← hB0] at hT6
  have KB0 : Kept (w0.heap.size ≤ B0) := ⟨by rw [hB0]; exact KP5.out.size⟩
  have KT6 : Kept (Tab tb B0 [] M0 w6) := ⟨hT6⟩
  have KP6 : Kept (Below w0.heap.size w0 w6) := ⟨KP5.out.trans (q6.mono KP5.out.size)⟩
  clear q6 KP5 hT6 hB0
  go_wp2_with fail
  refine SymbolD.mono ?_
  rintro e w7 ⟨rfl, q7⟩
  have KT7 : Kept (Tab tb B0 [] M0 w7) := ⟨KT6.out.under q7⟩
  have KP7 : Kept (Below w0.heap.size w0 w7) := ⟨KP6.out.trans (q7.mono KP6.out.size)⟩
  clear q7 KP6 KT6
  obtain ⟨w8, hw8⟩ : ∃ z, z = w7.alloc (.cells #[.iface 39 (.agg #[]), .iface 41 (.agg #[.pointer (some ⟨tb, 0, none⟩)])] 25) := ⟨_, rfl⟩
  obtain ⟨gs, hgs⟩ : ∃ z, z = w7.heap.size := ⟨_, rfl⟩
  have q8 : Below w7.heap.size w7 w8 := by rw [hw8]; exact (Below.refl _ _).alloc (Nat.le_refl _) _
  have KS : Kept (Blk w8 gs 25 #[.iface 39 (.agg #[]), .iface 41 (.agg #[.pointer (some ⟨tb, 0, none⟩)])]) := ⟨by rw [hw8, hgs]; exact blk_new w7 _ _⟩
  have KP8 : Kept (Below w0.heap.size w0 w8) := ⟨KP7.out.trans (q8.mono KP7.out.size)⟩
  have KT8 : Kept (Tab tb B0 [] M0 w8) := ⟨KT7.out.under q8⟩
  have Kw8 : Kept _ := ⟨hw8⟩
  have Kgs : Kept _ := ⟨hgs⟩
  clear q8 hw8 hgs KT7 KP7
  go_wp2_with (first | (refine wl_bsP rfl tb (.tmp 17) (.tmp 19) rfl (by kernel_rfl) (by kernel_rfl) ?_; rw [← Kw8.out, ← Kgs.out]; simp only [Act.put, List.setIfInBounds_toArray, List.set_cons_succ, List.set_cons_zero]))
  refine wp_loop_rounds 3 ?_
  rw [rounds_succ]
  go_wp2_with (first | ((with_reducible refine wv_val (d := 24) ?hd ?hw (.pointer (some ⟨gs, 0, none⟩)) ?hr ?_); (case hd => rfl); (case hw => kernel_rfl); (case hr => intro w; exact run_idxG0 (i := 0) (l := 2) (c := 2) (g := gs) rfl (by kernel_rfl) (by kernel_rfl) Tryd.underlying30 (by decide) Tryd.sizeOf25 w); simp only [Act.put, List.setIfInBounds_toArray, List.set_cons_succ, List.set_cons_zero]) | ((with_reducible refine wv_elem (d := 25) ?hd ?hw 25 Tryd.isAgg25 (.tmp 24) ?ho (⟨gs, 0, none⟩) ?hx (.iface 39 (.agg #[])) ?hc ?_); (case hd => rfl); (case hw => kernel_rfl); (case ho => rfl); (case hx => kernel_rfl); (case hc => exact KS.out.cell rfl); simp only [Act.put, List.setIfInBounds_toArray, List.set_cons_succ, List.set_cons_zero]))
  refine region_ownL w8 17 [(26, .iface 39 (.agg #[])), (27, .slice (some ⟨gm, 0, none⟩) 32 32), (28, .string (strOf kx)), (29, .func (.method "Pub") #[.iface 39 (.agg #[])] #[]), (30, .func (.method "Pub") #[.iface 39 (.agg #[])] #[]), (31, .iface 39 (.agg #[])), (32, .string (strOf Y)), (33, .int .i64 (32 : Int)), (34, .bool false), (35, .bool false), (36, .iface 39 (.agg #[])), (37, .string (strOf s)), (38, .string (strOf s)), (39, .string (strOf H)), (40, .int .i64 (32 : Int)), (41, .bool false), (42, .bool false)] [] [] [] rfl (by kernel_rfl) (by kernel_rfl) (by kernel_rfl) (by kernel_rfl) (by kernel_rfl) (by kernel_rfl) (by kernel_rfl) (by kernel_rfl) (by kernel_rfl) (by kernel_rfl) (by kernel_rfl) ?hst1 ?hst2 (Below.refl _ _) (fun hA => ⟨ow_val hA (wants_none rfl) 26 (.iface 39 (.agg #[])) (by kernel_rfl) rfl rfl rfl rfl (by kernel_rfl) (fun w => by kernel_rfl), ow_val hA (wants_none rfl) 27 (.slice (some ⟨gm, 0, none⟩) 32 32) (by kernel_rfl) rfl rfl rfl rfl (by kernel_rfl) (fun w => arr_all_run rfl (by kernel_rfl) Tryd.underlying22 Tryd.sizeOf5 (by decide) w), ow_str hA (wants_none rfl) 28 (.string (strOf kx)) (by kernel_rfl) rfl rfl rfl rfl (by kernel_rfl) (.tmp 27) rfl (.slice (some ⟨gm, 0, none⟩) 32 32) (by kernel_rfl) kx (fun w1 hb => blk_bytes (BK.out.under (KP8.out.trans (hb.mono KP8.out.size))) Lk32.out) rfl, ow_val hA (wants_none rfl) 29 (.func (.method "Pub") #[.iface 39 (.agg #[])] #[]) (by kernel_rfl) rfl rfl rfl rfl (by kernel_rfl) (fun w => by kernel_rfl), ow_val hA (wants_none rfl) 30 (.func (.method "Pub") #[.iface 39 (.agg #[])] #[]) (by kernel_rfl) rfl rfl rfl rfl (by kernel_rfl) (fun w => by kernel_rfl), ow_val hA (wants_none rfl) 31 (.iface 39 (.agg #[])) (by kernel_rfl) rfl rfl rfl rfl (by kernel_rfl) (fun w => by kernel_rfl), ow_invoke hA (wants_none rfl) 32 (.string (strOf Y)) (by kernel_rfl) rfl rfl rfl rfl (by kernel_rfl) (.tmp 31) "Pub" [.tmp 28] _ 39 (.agg #[]) 64 (.agg #[]) Tryd.f64 _ [.string (strOf kx)] rfl (by kernel_rfl) (by kernel_rfl) (fun w => by kernel_rfl) Tryd.func64 (by kernel_rfl) rfl (fun w2 hb => CP.out w2 (KP8.out.trans (hb.mono KP8.out.size))), ow_val hA (wants_none rfl) 33 (.int .i64 (32 : Int)) (by kernel_rfl) rfl rfl rfl rfl (by kernel_rfl) (fun w => run_slen rfl (by kernel_rfl) LY.out w), ow_val hA (wants_none rfl) 34 (.bool false) (by kernel_rfl) rfl rfl rfl rfl (by kernel_rfl) (fun w => by kernel_rfl), ow_val hA (wants_none rfl) 35 (.bool false) (by kernel_rfl) rfl rfl rfl rfl (by kernel_rfl) (fun w => by kernel_rfl), ow_val hA (wants_at hA 9 false 35 rfl rfl (by kernel_rfl) rfl rfl (by kernel_rfl)) 36 (.iface 39 (.agg #[])) (by kernel_rfl) rfl rfl rfl rfl (by kernel_rfl) (fun w => by kernel_rfl), ow_val hA (wants_at hA 9 false 35 rfl rfl (by kernel_rfl) rfl rfl (by kernel_rfl)) 37 (.string (strOf s)) (by kernel_rfl) rfl rfl rfl rfl (by kernel_rfl) (fun w => by kernel_rfl), ow_val hA (wants_at hA 9 false 35 rfl rfl (by kernel_rfl) rfl rfl (by kernel_rfl)) 38 (.string (strOf s)) (by kernel_rfl) rfl rfl rfl rfl (by kernel_rfl) (fun w => by kernel_rfl), ow_invoke hA (wants_at hA 9 false 35 rfl rfl (by kernel_rfl) rfl rfl (by kernel_rfl)) 39 (.string (strOf H)) (by kernel_rfl) rfl rfl rfl rfl (by kernel_rfl) (.tmp 36) "Hash" [.tmp 37, .tmp 38] _ 39 (.agg #[]) 61 (.agg #[]) Tryd.f61 _ [.string (strOf s), .string (strOf s)] rfl (by kernel_rfl) (by kernel_rfl) (fun w => by kernel_rfl) Tryd.func61 (by kernel_rfl) rfl (fun w2 hb => CH.out w2 (KP8.out.trans (hb.mono KP8.out.size))), ow_val hA (wants_at hA 9 false 35 rfl rfl (by kernel_rfl) rfl rfl (by kernel_rfl)) 40 (.int .i64 (32 : Int)) (by kernel_rfl) rfl rfl rfl rfl (by kernel_rfl) (fun w => run_slen rfl (by kernel_rfl) LH.out w), ow_val hA (wants_at hA 9 false 35 rfl rfl (by kernel_rfl) rfl rfl (by kernel_rfl)) 41 (.bool false) (by kernel_rfl) rfl rfl rfl rfl (by kernel_rfl) (fun w => by kernel_rfl), ow_val hA (wants_none rfl) 42 (.bool false) (by kernel_rfl) rfl rfl rfl rfl (by kernel_rfl) (fun w => by kernel_rfl), trivial⟩) ?_
  case hst1 => intro q hq; cases hq
  case hst2 => intro q hq; cases hq
  intro fv wa hf hD hba
  simp only [putR, List.foldl_cons, List.foldl_nil, List.map_cons, List.map_nil, Act.put, List.setIfInBounds_toArray, List.set_cons_succ, List.set_cons_zero]
  refine wpList_nil ?_
  have KTa : Kept (Tab tb B0 [] M0 wa) := ⟨KT8.out.under hba⟩
  have KSa : Kept (Blk wa gs 25 #[.iface 39 (.agg #[]), .iface 41 (.agg #[.pointer (some ⟨tb, 0, none⟩)])]) := ⟨KS.out.under hba⟩
  have KPa : Kept (Below w0.heap.size w0 wa) := ⟨KP8.out.trans (hba.mono KP8.out.size)⟩
  clear hf hD hba KT8 KS KP8
  go_wp2_with fail
  refine region_phaseL (G := Unit) 11 [10] [(43, .iface 39 (.agg #[])), (44, .slice (some ⟨gm, 0, none⟩) 32 32), (45, .string (strOf kx)), (46, .string (strOf s)), (47, .int .u8 (nn : Int)), (48, .int .u8 (n : Int)), (49, .int .i64 (n : Int)), (50, .func (.method "Keys") #[.iface 39 (.agg #[])] #[]), (51, .func (.method "Keys") #[.iface 39 (.agg #[])] #[]), (52, .iface 39 (.agg #[]))] [(53, fun _ => KV n)] (fun _ (_ : Unit) w => (Tab tb B0 [] M0 w ∧ Blk w gs 25 #[.iface 39 (.agg #[]), .iface 41 (.agg #[.pointer (some ⟨tb, 0, none⟩)])]) ∧ Below w0.heap.size w0 w) rfl (by kernel_rfl) (by kernel_rfl) (by kernel_rfl) (by kernel_rfl) (by kernel_rfl) (by kernel_rfl) (by kernel_rfl) (by kernel_rfl) (by kernel_rfl) (by kernel_rfl) (by intro q hq g v w w2 h hb; simp only [List.mem_singleton] at hq; subst hq; exact KV.under h hb) (fun k g w w2 h hb => ⟨⟨h.1.1.under hb, h.1.2.under hb⟩, h.2.trans (hb.mono h.2.size)⟩) () ⟨⟨KTa.out, KSa.out⟩, KPa.out⟩ (fun hA => ⟨.inl ⟨rfl, fun k0 M W1 hC1 => (fun hA => ow_val hA (wants_none rfl) 43 (.iface 39 (.agg #[])) (by kernel_rfl) rfl rfl rfl rfl (by kernel_rfl) (fun w => by kernel_rfl)) (hA M)⟩, .inl ⟨rfl, fun k0 M W1 hC1 => (fun hA => ow_val hA (wants_none rfl) 44 (.slice (some ⟨gm, 0, none⟩) 32 32) (by kernel_rfl) rfl rfl rfl rfl (by kernel_rfl) (fun w => arr_all_run rfl (by kernel_rfl) Tryd.underlying22 Tryd.sizeOf5 (by decide) w)) (hA M)⟩, .inl ⟨rfl, fun k0 M W1 hC1 => (fun hA => ow_str hA (wants_none rfl) 45 (.string (strOf kx)) (by kernel_rfl) rfl rfl rfl rfl (by kernel_rfl) (.tmp 44) rfl (.slice (some ⟨gm, 0, none⟩) 32 32) (by kernel_rfl) kx (fun w1 hb => blk_bytes (BK.out.under (hC1.2.trans (hb.mono hC1.2.size))) Lk32.out) rfl) (hA M)⟩, .inl ⟨rfl, fun k0 M W1 hC1 => (fun hA => ow_val hA (wants_none rfl) 46 (.string (strOf s)) (by kernel_rfl) rfl rfl rfl rfl (by kernel_rfl) (fun w => by kernel_rfl)) (hA M)⟩, .inl ⟨rfl, fun k0 M W1 hC1 => (fun hA => ow_val hA (wants_none rfl) 47 (.int .u8 (nn : Int)) (by kernel_rfl) rfl rfl rfl rfl (by kernel_rfl) (fun w => by kernel_rfl)) (hA M)⟩, .inl ⟨rfl, fun k0 M W1 hC1 => (fun hA => ow_val hA (wants_none rfl) 48 (.int .u8 (n : Int)) (by kernel_rfl) rfl rfl rfl rfl (by kernel_rfl) (fun w => run_remQ rfl (by kernel_rfl) Kn.out.1 w)) (hA M)⟩, .inl ⟨rfl, fun k0 M W1 hC1 => (fun hA => ow_val hA (wants_none rfl) 49 (.int .i64 (n : Int)) (by kernel_rfl) rfl rfl rfl rfl (by kernel_rfl) (fun w => run_convQ rfl (by kernel_rfl) Kn.out.2 w)) (hA M)⟩, .inl ⟨rfl, fun k0 M W1 hC1 => (fun hA => ow_val hA (wants_none rfl) 50 (.func (.method "Keys") #[.iface 39 (.agg #[])] #[]) (by kernel_rfl) rfl rfl rfl rfl (by kernel_rfl) (fun w => by kernel_rfl)) (hA M)⟩, .inl ⟨rfl, fun k0 M W1 hC1 => (fun hA => ow_val hA (wants_none rfl) 51 (.func (.method "Keys") #[.iface 39 (.agg #[])] #[]) (by kernel_rfl) rfl rfl rfl rfl (by kernel_rfl) (fun w => by kernel_rfl)) (hA M)⟩, .inl ⟨rfl, fun k0 M W1 hC1 => (fun hA => ow_val hA (wants_none rfl) 52 (.iface 39 (.agg #[])) (by kernel_rfl) rfl rfl rfl rfl (by kernel_rfl) (fun w => by kernel_rfl)) (hA M)⟩, .inr ⟨0, rfl, ph_invokeV hA (fun M => (fun hA => (wants_none rfl)) (hA M)) 53 rfl (KV n) rfl (by kernel_rfl) (.tmp 52) "Keys" [.tmp 45, .tmp 46, .tmp 49] _ 39 (.agg #[]) 62 (.agg #[]) Tryd.f62 _ [.string (strOf kx), .string (strOf s), .int .i64 (n : Int)] rfl (by kernel_rfl) (by kernel_rfl) (fun w => by kernel_rfl) Tryd.func62 (by kernel_rfl) rfl (fun w2 hC2 => (CKr.out w2 hC2.2).mono fun e w3 hh => by obtain ⟨v, e1, e2, e3⟩ := hh; exact ⟨v, e1, e2, ⟨hC2.1.1.under e3, hC2.1.2.under e3⟩, hC2.2.trans (e3.mono hC2.2.size)⟩)⟩, trivial⟩) ?_
  intro fv gq wb hf hCb
  have KTb : Kept (Tab tb B0 [] M0 wb) := ⟨hCb.1.1⟩
  have KSb : Kept (Blk wb gs 25 #[.iface 39 (.agg #[]), .iface 41 (.agg #[.pointer (some ⟨tb, 0, none⟩)])]) := ⟨hCb.1.2⟩
  have KPb : Kept (Below w0.heap.size w0 wb) := ⟨hCb.2⟩
  clear hCb KTa KSa KPa
  obtain ⟨kl, hkl1, hkl2, hV⟩ := hf 53 _ rfl
  obtain ⟨pk, ck, eV, _⟩ := vals_form hV (show (strs kl).length = n by rw [strs_len]; exact hkl1)
  rw [eV] at hV
  have KVe : Kept _ := ⟨hV⟩
  have Lk : Kept _ := ⟨And.intro hkl1 hkl2⟩
  simp only [putR, List.foldl_cons, List.foldl_nil, List.map_cons, List.map_nil, Act.put, List.setIfInBounds_toArray, List.set_cons_succ, List.set_cons_zero]
  rw [eV]
  clear hf eV hV hkl1 hkl2
  go_wp2_with (first | ((with_reducible refine wv_val (d := 57) ?hd ?hw (.int .u8 (n : Int)) ?hr ?_); (case hd => rfl); (case hw => kernel_rfl); (case hr => intro w; exact run_remQ rfl (by kernel_rfl) Kn.out.1 w); simp only [Act.put, List.setIfInBounds_toArray, List.set_cons_succ, List.set_cons_zero]) | ((with_reducible refine wv_val (d := 58) ?hd ?hw (.int .i64 (n : Int)) ?hr ?_); (case hd => rfl); (case hw => kernel_rfl); (case hr => intro w; exact run_convQ rfl (by kernel_rfl) Kn.out.2 w); simp only [Act.put, List.setIfInBounds_toArray, List.set_cons_succ, List.set_cons_zero]) | ((with_reducible refine wv_val (d := 59) ?hd ?hw (.bool false) ?hr ?_); (case hd => rfl); (case hw => kernel_rfl); (case hr => intro w; exact run_neI (m := (n : Int)) (n := (n : Int)) rfl (by kernel_rfl) (by kernel_rfl) (by simp) w); simp only [Act.put, List.setIfInBounds_toArray, List.set_cons_succ, List.set_cons_zero]))
  go_loopg [62] n (fun g s62 wr => ∃ i : Nat, i + g = n ∧ s62 = .int .i64 (i : Int) ∧ Below wb.heap.size wb wr)
  case atStart => exact ⟨0, by omega, rfl, Below.refl _ _⟩
  case round =>
    rename World => wz
    obtain ⟨i, hik, rfl, hbx⟩ := hrel
    by_cases hk0 : gk = 0
    case neg =>
      have hin : i < n := by omega
      have hin' : (i : Int) < (n : Int) := by omega
      have hi1 : (i : Int) + 1 ≤ 9223372036854775807 := by have := Kn.out.2; omega
      obtain ⟨K, hK⟩ : ∃ K, kl[i]? = some K := ⟨_, List.getElem?_eq_getElem (by rw [Lk.out.1]; exact hin)⟩
      have KK : Kept (32 = K.length) := ⟨(Lk.out.2 K (List.mem_of_getElem? hK)).symm⟩
      obtain ⟨Ak, rfl, hAk, hck⟩ := vals_at (KVe.out.under hbx) (strs_get hK)
      have KVz : Kept (wz.cell? (Ak.add i) = some (.string (strOf K))) := ⟨hck⟩
      have Kbz : Kept _ := ⟨hbx⟩
      clear hK hbx hAk hck
      go_wp2_with (first | ((with_reducible refine wv_val (d := 64) ?hd ?hw (.pointer (some (Ak.add i))) ?hr ?_); (case hd => rfl); (case hw => kernel_rfl); (case hr => intro w; exact run_idxS (A := Ak) (i := i) (l := n) (c := ck) rfl (by kernel_rfl) (by kernel_rfl) Tryd.underlying34 hin Tryd.sizeOf9 w); simp only [Act.put, List.setIfInBounds_toArray, List.set_cons_succ, List.set_cons_zero]) | ((with_reducible refine wv_elem (d := 65) ?hd ?hw 9 ag_str (.tmp 64) ?ho ((Ak.add i)) ?hx (.string (strOf K)) ?hc ?_); (case hd => rfl); (case hw => kernel_rfl); (case ho => rfl); (case hx => kernel_rfl); (case hc => exact KVz.out); simp only [Act.put, List.setIfInBounds_toArray, List.set_cons_succ, List.set_cons_zero]) | ((with_reducible refine wv_val (d := 67) ?hd ?hw (.int .i64 (32 : Int)) ?hr ?_); (case hd => rfl); (case hw => kernel_rfl); (case hr => intro w; exact run_slen rfl (by kernel_rfl) KK.out w); simp only [Act.put, List.setIfInBounds_toArray, List.set_cons_succ, List.set_cons_zero]))
      go_roundg (gk - 1)
      case measure => omega
      case rel => exact ⟨i + 1, by omega, by simp, Kbz.out⟩
    case pos =>
      obtain rfl : n = i := by omega
      have KTz : Kept (Tab tb B0 [] M0 wz) := ⟨KTb.out.under hbx⟩
      have KSz : Kept (Blk wz gs 25 #[.iface 39 (.agg #[]), .iface 41 (.agg #[.pointer (some ⟨tb, 0, none⟩)])]) := ⟨KSb.out.under hbx⟩
      have KPz : Kept (Below w0.heap.size w0 wz) := ⟨KPb.out.trans (hbx.mono KPb.out.size)⟩
      have KDb : Kept (∀ (ts : List TermL) (M : Nat → Prop) (W1 w1 : World), CT tb B0 ts M0 wz M W1 → Below W1.heap.size W1 w1 → BytesV (.slice (some ⟨gm, 0, none⟩) 32 32) w1 kx) := ⟨fun ts M W1 w1 hC hb => by
        have h1 := KPz.out.trans ((KTz.out.below hC.2).mono KB0.out)
        exact blk_bytes (BK.out.under (h1.trans (hb.mono h1.size))) Lk32.out⟩
      clear hbx KTb KSb KPb KVe Lk
      go_wp2_with fail
      rw [rounds_succ]
      go_wp2_with (first | ((with_reducible refine wv_val (d := 24) ?hd ?hw (.pointer (some ⟨gs, 1, none⟩)) ?hr ?_); (case hd => rfl); (case hw => kernel_rfl); (case hr => intro w; exact run_idxG0 (i := 1) (l := 2) (c := 2) (g := gs) rfl (by kernel_rfl) (by kernel_rfl) Tryd.underlying30 (by decide) Tryd.sizeOf25 w); simp only [Act.put, List.setIfInBounds_toArray, List.set_cons_succ, List.set_cons_zero]) | ((with_reducible refine wv_elem (d := 25) ?hd ?hw 25 Tryd.isAgg25 (.tmp 24) ?ho (⟨gs, 1, none⟩) ?hx (.iface 41 (.agg #[.pointer (some ⟨tb, 0, none⟩)])) ?hc ?_); (case hd => rfl); (case hw => kernel_rfl); (case ho => rfl); (case hx => kernel_rfl); (case hc => exact KSz.out.cell rfl); simp only [Act.put, List.setIfInBounds_toArray, List.set_cons_succ, List.set_cons_zero]))
      refine region_phaseL (G := Nat → Prop) 17 [6, 13] [(26, .iface 41 (.agg #[.pointer (some ⟨tb, 0, none⟩)])), (27, .slice (some ⟨gm, 0, none⟩) 32 32), (28, .string (strOf kx)), (29, .func (.method "Pub") #[.iface 41 (.agg #[.pointer (some ⟨tb, 0, none⟩)])] #[]), (30, .func (.method "Pub") #[.iface 41 (.agg #[.pointer (some ⟨tb, 0, none⟩)])] #[]), (31, .iface 41 (.agg #[.pointer (some ⟨tb, 0, none⟩)])), (32, .string (strOf P)), (33, .int .i64 (32 : Int)), (34, .bool false), (35, .bool false), (36, .iface 41 (.agg #[.pointer (some ⟨tb, 0, none⟩)])), (37, .string (strOf s)), (38, .string (strOf s)), (39, .string (strOf N)), (40, .int .i64 (32 : Int)), (41, .bool false), (42, .bool false)] (LN []) (fun k => CT tb B0 (([[], T1, T2] : List (List TermL)).getD k []) M0 wz) rfl (by kernel_rfl) (by kernel_rfl) (by kernel_rfl) (by kernel_rfl) (by kernel_rfl) (by kernel_rfl) (by kernel_rfl) (by kernel_rfl) (by kernel_rfl) (by kernel_rfl) LN_under (fun k g w w' h hb => CT.under h hb) M0 ⟨KTz.out, Turn.refl _ _⟩ (fun hA => ⟨.inl ⟨rfl, fun k M W1 hC1 => (fun hA => ow_val hA (wants_none rfl) 26 (.iface 41 (.agg #[.pointer (some ⟨tb, 0, none⟩)])) (by kernel_rfl) rfl rfl rfl rfl (by kernel_rfl) (fun w => by kernel_rfl)) (hA M)⟩, .inl ⟨rfl, fun k M W1 hC1 => (fun hA => ow_val hA (wants_none rfl) 27 (.slice (some ⟨gm, 0, none⟩) 32 32) (by kernel_rfl) rfl rfl rfl rfl (by kernel_rfl) (fun w => arr_all_run rfl (by kernel_rfl) Tryd.underlying22 Tryd.sizeOf5 (by decide) w)) (hA M)⟩, .inl ⟨rfl, fun k M W1 hC1 => (fun hA => ow_str hA (wants_none rfl) 28 (.string (strOf kx)) (by kernel_rfl) rfl rfl rfl rfl (by kernel_rfl) (.tmp 27) rfl (.slice (some ⟨gm, 0, none⟩) 32 32) (by kernel_rfl) kx (fun w1 hb => KDb.out _ _ _ _ hC1 hb) rfl) (hA M)⟩, .inl ⟨rfl, fun k M W1 hC1 => (fun hA => ow_val hA (wants_none rfl) 29 (.func (.method "Pub") #[.iface 41 (.agg #[.pointer (some ⟨tb, 0, none⟩)])] #[]) (by kernel_rfl) rfl rfl rfl rfl (by kernel_rfl) (fun w => by kernel_rfl)) (hA M)⟩, .inl ⟨rfl, fun k M W1 hC1 => (fun hA => ow_val hA (wants_none rfl) 30 (.func (.method "Pub") #[.iface 41 (.agg #[.pointer (some ⟨tb, 0, none⟩)])] #[]) (by kernel_rfl) rfl rfl rfl rfl (by kernel_rfl) (fun w => by kernel_rfl)) (hA M)⟩, .inl ⟨rfl, fun k M W1 hC1 => (fun hA => ow_val hA (wants_none rfl) 31 (.iface 41 (.agg #[.pointer (some ⟨tb, 0, none⟩)])) (by kernel_rfl) rfl rfl rfl rfl (by kernel_rfl) (fun w => by kernel_rfl)) (hA M)⟩, .inr ⟨0, rfl, ph_invoke hA (fun M => (fun hA => (wants_none rfl)) (hA M)) 32 (.string (strOf P)) rfl rfl (by kernel_rfl) LN_turn (by kernel_rfl) (.tmp 31) "Pub" [.tmp 28] _ 41 (.agg #[.pointer (some ⟨tb, 0, none⟩)]) 37 (.pointer (some ⟨tb, 0, none⟩)) Tryd.f37 _ [.string (strOf kx)] rfl (by kernel_rfl) (by kernel_rfl) (fun w => by kernel_rfl) Tryd.func37 (by kernel_rfl) rfl (CPs.out _ _ _ _)⟩, .inl ⟨rfl, fun k M W1 hC1 => (fun hA => ow_val hA (wants_none rfl) 33 (.int .i64 (32 : Int)) (by kernel_rfl) rfl rfl rfl rfl (by kernel_rfl) (fun w => run_slen rfl (by kernel_rfl) LP.out w)) (hA M)⟩, .inl ⟨rfl, fun k M W1 hC1 => (fun hA => ow_val hA (wants_none rfl) 34 (.bool false) (by kernel_rfl) rfl rfl rfl rfl (by kernel_rfl) (fun w => by kernel_rfl)) (hA M)⟩, .inl ⟨rfl, fun k M W1 hC1 => (fun hA => ow_val hA (wants_none rfl) 35 (.bool false) (by kernel_rfl) rfl rfl rfl rfl (by kernel_rfl) (fun w => by kernel_rfl)) (hA M)⟩, .inl ⟨rfl, fun k M W1 hC1 => (fun hA => ow_val hA (wants_at hA 9 false 35 rfl rfl (by kernel_rfl) rfl rfl (by kernel_rfl)) 36 (.iface 41 (.agg #[.pointer (some ⟨tb, 0, none⟩)])) (by kernel_rfl) rfl rfl rfl rfl (by kernel_rfl) (fun w => by kernel_rfl)) (hA M)⟩, .inl ⟨rfl, fun k M W1 hC1 => (fun hA => ow_val hA (wants_at hA 9 false 35 rfl rfl (by kernel_rfl) rfl rfl (by kernel_rfl)) 37 (.string (strOf s)) (by kernel_rfl) rfl rfl rfl rfl (by kernel_rfl) (fun w => by kernel_rfl)) (hA M)⟩, .inl ⟨rfl, fun k M W1 hC1 => (fun hA => ow_val hA (wants_at hA 9 false 35 rfl rfl (by kernel_rfl) rfl rfl (by kernel_rfl)) 38 (.string (strOf s)) (by kernel_rfl) rfl rfl rfl rfl (by kernel_rfl) (fun w => by kernel_rfl)) (hA M)⟩, .inr ⟨1, rfl, ph_invoke hA (fun M => (fun hA => (wants_at hA 9 false 35 rfl rfl (by kernel_rfl) rfl rfl (by kernel_rfl))) (hA M)) 39 (.string (strOf N)) rfl rfl (by kernel_rfl) LN_turn (by kernel_rfl) (.tmp 36) "Hash" [.tmp 37, .tmp 38] _ 41 (.agg #[.pointer (some ⟨tb, 0, none⟩)]) 106 (.agg #[.pointer (some ⟨tb, 0, none⟩)]) Tryd.f106 _ [.string (strOf s), .string (strOf s)] rfl (by kernel_rfl) (by kernel_rfl) (fun w => by kernel_rfl) Tryd.func106 (by kernel_rfl) rfl (CHs.out _ _ _ _)⟩, .inl ⟨rfl, fun k M W1 hC1 => (fun hA => ow_val hA (wants_at hA 9 false 35 rfl rfl (by kernel_rfl) rfl rfl (by kernel_rfl)) 40 (.int .i64 (32 : Int)) (by kernel_rfl) rfl rfl rfl rfl (by kernel_rfl) (fun w => run_slen rfl (by kernel_rfl) LNN.out w)) (hA M)⟩, .inl ⟨rfl, fun k M W1 hC1 => (fun hA => ow_val hA (wants_at hA 9 false 35 rfl rfl (by kernel_rfl) rfl rfl (by kernel_rfl)) 41 (.bool false) (by kernel_rfl) rfl rfl rfl rfl (by kernel_rfl) (fun w => by kernel_rfl)) (hA M)⟩, .inl ⟨rfl, fun k M W1 hC1 => (fun hA => ow_val hA (wants_none rfl) 42 (.bool false) (by kernel_rfl) rfl rfl rfl rfl (by kernel_rfl) (fun w => by kernel_rfl)) (hA M)⟩, trivial⟩) ?_
      intro fv Mc wc hf hCc
      simp only [LN, putR, List.foldl_cons, List.foldl_nil, List.map_cons, List.map_nil, Act.put, List.setIfInBounds_toArray, List.set_cons_succ, List.set_cons_zero]
      refine wpList_nil ?_
      have KTc : Kept (Tab tb B0 T2 Mc wc) := ⟨hCc.1⟩
      have KPc : Kept (Below w0.heap.size w0 wc) := ⟨KPz.out.trans ((KTz.out.below hCc.2).mono KB0.out)⟩
      clear hf hCc KTz KSz KDb
      go_wp2_with fail
      refine region_phaseL (G := Unit) 11 [10] [(43, .iface 41 (.agg #[.pointer (some ⟨tb, 0, none⟩)])), (44, .slice (some ⟨gm, 0, none⟩) 32 32), (45, .string (strOf kx)), (46, .string (strOf s)), (47, .int .u8 (nn : Int)), (48, .int .u8 (n : Int)), (49, .int .i64 (n : Int)), (50, .func (.method "Keys") #[.iface 41 (.agg #[.pointer (some ⟨tb, 0, none⟩)])] #[]), (51, .func (.method "Keys") #[.iface 41 (.agg #[.pointer (some ⟨tb, 0, none⟩)])] #[]), (52, .iface 41 (.agg #[.pointer (some ⟨tb, 0, none⟩)]))] [(53, fun _ => KV n)] (fun j (_ : Unit) w => (j = 0 → Tab tb B0 T2 Mc w) ∧ Below w0.heap.size w0 w) rfl (by kernel_rfl) (by kernel_rfl) (by kernel_rfl) (by kernel_rfl) (by kernel_rfl) (by kernel_rfl) (by kernel_rfl) (by kernel_rfl) (by kernel_rfl) (by kernel_rfl) (by intro q hq g v w w2 h hb; simp only [List.mem_singleton] at hq; subst hq; exact KV.under h hb) (fun k g w w2 h hb => ⟨fun e => (h.1 e).under hb, h.2.trans (hb.mono h.2.size)⟩) () ⟨fun _ => KTc.out, KPc.out⟩ (fun hA => ⟨.inl ⟨rfl, fun k0 M W1 hC1 => (fun hA => ow_val hA (wants_none rfl) 43 (.iface 41 (.agg #[.pointer (some ⟨tb, 0, none⟩)])) (by kernel_rfl) rfl rfl rfl rfl (by kernel_rfl) (fun w => by kernel_rfl)) (hA M)⟩, .inl ⟨rfl, fun k0 M W1 hC1 => (fun hA => ow_val hA (wants_none rfl) 44 (.slice (some ⟨gm, 0, none⟩) 32 32) (by kernel_rfl) rfl rfl rfl rfl (by kernel_rfl) (fun w => arr_all_run rfl (by kernel_rfl) Tryd.underlying22 Tryd.sizeOf5 (by decide) w)) (hA M)⟩, .inl ⟨rfl, fun k0 M W1 hC1 => (fun hA => ow_str hA (wants_none rfl) 45 (.string (strOf kx)) (by kernel_rfl) rfl rfl rfl rfl (by kernel_rfl) (.tmp 44) rfl (.slice (some ⟨gm, 0, none⟩) 32 32) (by kernel_rfl) kx (fun w1 hb => blk_bytes (BK.out.under (hC1.2.trans (hb.mono hC1.2.size))) Lk32.out) rfl) (hA M)⟩, .inl ⟨rfl, fun k0 M W1 hC1 => (fun hA => ow_val hA (wants_none rfl) 46 (.string (strOf s)) (by kernel_rfl) rfl rfl rfl rfl (by kernel_rfl) (fun w => by kernel_rfl)) (hA M)⟩, .inl ⟨rfl, fun k0 M W1 hC1 => (fun hA => ow_val hA (wants_none rfl) 47 (.int .u8 (nn : Int)) (by kernel_rfl) rfl rfl rfl rfl (by kernel_rfl) (fun w => by kernel_rfl)) (hA M)⟩, .inl ⟨rfl, fun k0 M W1 hC1 => (fun hA => ow_val hA (wants_none rfl) 48 (.int .u8 (n : Int)) (by kernel_rfl) rfl rfl rfl rfl (by kernel_rfl) (fun w => run_remQ rfl (by kernel_rfl) Kn.out.1 w)) (hA M)⟩, .inl ⟨rfl, fun k0 M W1 hC1 => (fun hA => ow_val hA (wants_none rfl) 49 (.int .i64 (n : Int)) (by kernel_rfl) rfl rfl rfl rfl (by kernel_rfl) (fun w => run_convQ rfl (by kernel_rfl) Kn.out.2 w)) (hA M)⟩, .inl ⟨rfl, fun k0 M W1 hC1 => (fun hA => ow_val hA (wants_none rfl) 50 (.func (.method "Keys") #[.iface 41 (.agg #[.pointer (some ⟨tb, 0, none⟩)])] #[]) (by kernel_rfl) rfl rfl rfl rfl (by kernel_rfl) (fun w => by kernel_rfl)) (hA M)⟩, .inl ⟨rfl, fun k0 M W1 hC1 => (fun hA => ow_val hA (wants_none rfl) 51 (.func (.method "Keys") #[.iface 41 (.agg #[.pointer (some ⟨tb, 0, none⟩)])] #[]) (by kernel_rfl) rfl rfl rfl rfl (by kernel_rfl) (fun w => by kernel_rfl)) (hA M)⟩, .inl ⟨rfl, fun k0 M W1 hC1 => (fun hA => ow_val hA (wants_none rfl) 52 (.iface 41 (.agg #[.pointer (some ⟨tb, 0, none⟩)])) (by kernel_rfl) rfl rfl rfl rfl (by kernel_rfl) (fun w => by kernel_rfl)) (hA M)⟩, .inr ⟨0, rfl, ph_invokeV hA (fun M => (fun hA => (wants_none rfl)) (hA M)) 53 rfl (KV n) rfl (by kernel_rfl) (.tmp 52) "Keys" [.tmp 45, .tmp 46, .tmp 49] _ 41 (.agg #[.pointer (some ⟨tb, 0, none⟩)]) 107 (.agg #[.pointer (some ⟨tb, 0, none⟩)]) Tryd.f107 _ [.string (strOf kx), .string (strOf s), .int .i64 (n : Int)] rfl (by kernel_rfl) (by kernel_rfl) (fun w => by kernel_rfl) Tryd.func107 (by kernel_rfl) rfl (fun w2 hC2 => (CKs.out _ _ _ w2 (hC2.1 rfl)).mono fun e w3 hh => by obtain ⟨v, e1, e2, e3⟩ := hh; exact ⟨v, e1, e2, fun h9 => absurd h9 (by decide), hC2.2.trans ((e3.mono KB0.out).mono (Nat.le_refl _))⟩)⟩, trivial⟩) ?_
      intro fv gq wd hf hCd
      have KPd : Kept (Below w0.heap.size w0 wd) := ⟨hCd.2⟩
      clear hCd KTc KPc
      obtain ⟨kl, hkl1, hkl2, hV⟩ := hf 53 _ rfl
      obtain ⟨pk, ck, eV, _⟩ := vals_form hV (show (strs kl).length = n by rw [strs_len]; exact hkl1)
      rw [eV] at hV
      have KVe : Kept _ := ⟨hV⟩
      have Lk : Kept _ := ⟨And.intro hkl1 hkl2⟩
      simp only [putR, List.foldl_cons, List.foldl_nil, List.map_cons, List.map_nil, Act.put, List.setIfInBounds_toArray, List.set_cons_succ, List.set_cons_zero]
      rw [eV]
      clear hf eV hV hkl1 hkl2
      go_wp2_with (first | ((with_reducible refine wv_val (d := 57) ?hd ?hw (.int .u8 (n : Int)) ?hr ?_); (case hd => rfl); (case hw => kernel_rfl); (case hr => intro w; exact run_remQ rfl (by kernel_rfl) Kn.out.1 w); simp only [Act.put, List.setIfInBounds_toArray, List.set_cons_succ, List.set_cons_zero]) | ((with_reducible refine wv_val (d := 58) ?hd ?hw (.int .i64 (n : Int)) ?hr ?_); (case hd => rfl); (case hw => kernel_rfl); (case hr => intro w; exact run_convQ rfl (by kernel_rfl) Kn.out.2 w); simp only [Act.put, List.setIfInBounds_toArray, List.set_cons_succ, List.set_cons_zero]) | ((with_reducible refine wv_val (d := 59) ?hd ?hw (.bool false) ?hr ?_); (case hd => rfl); (case hw => kernel_rfl); (case hr => intro w; exact run_neI (m := (n : Int)) (n := (n : Int)) rfl (by kernel_rfl) (by kernel_rfl) (by simp) w); simp only [Act.put, List.setIfInBounds_toArray, List.set_cons_succ, List.set_cons_zero]))
      go_loopg [62] n (fun g s62 wr => ∃ i : Nat, i + g = n ∧ s62 = .int .i64 (i : Int) ∧ Below wd.heap.size wd wr)
      case atStart => exact ⟨0, by omega, rfl, Below.refl _ _⟩
      case round =>
        rename World => wy
        obtain ⟨i, hik, rfl, hbx⟩ := hrel
        by_cases hk0 : gk = 0
        case neg =>
          have hin : i < n := by omega
          have hin' : (i : Int) < (n : Int) := by omega
          have hi1 : (i : Int) + 1 ≤ 9223372036854775807 := by have := Kn.out.2; omega
          obtain ⟨K, hK⟩ : ∃ K, kl[i]? = some K := ⟨_, List.getElem?_eq_getElem (by rw [Lk.out.1]; exact hin)⟩
          have KK : Kept (32 = K.length) := ⟨(Lk.out.2 K (List.mem_of_getElem? hK)).symm⟩
          obtain ⟨Ak, rfl, hAk, hck⟩ := vals_at (KVe.out.under hbx) (strs_get hK)
          have KVz : Kept (wy.cell? (Ak.add i) = some (.string (strOf K))) := ⟨hck⟩
          have Kbz : Kept _ := ⟨hbx⟩
          clear hK hbx hAk hck
          go_wp2_with (first | ((with_reducible refine wv_val (d := 64) ?hd ?hw (.pointer (some (Ak.add i))) ?hr ?_); (case hd => rfl); (case hw => kernel_rfl); (case hr => intro w; exact run_idxS (A := Ak) (i := i) (l := n) (c := ck) rfl (by kernel_rfl) (by kernel_rfl) Tryd.underlying34 hin Tryd.sizeOf9 w); simp only [Act.put, List.setIfInBounds_toArray, List.set_cons_succ, List.set_cons_zero]) | ((with_reducible refine wv_elem (d := 65) ?hd ?hw 9 ag_str (.tmp 64) ?ho ((Ak.add i)) ?hx (.string (strOf K)) ?hc ?_); (case hd => rfl); (case hw => kernel_rfl); (case ho => rfl); (case hx => kernel_rfl); (case hc => exact KVz.out); simp only [Act.put, List.setIfInBounds_toArray, List.set_cons_succ, List.set_cons_zero]) | ((with_reducible refine wv_val (d := 67) ?hd ?hw (.int .i64 (32 : Int)) ?hr ?_); (case hd => rfl); (case hw => kernel_rfl); (case hr => intro w; exact run_slen rfl (by kernel_rfl) KK.out w); simp only [Act.put, List.setIfInBounds_toArray, List.set_cons_succ, List.set_cons_zero]))
          go_roundg (gk - 1)
          case measure => omega
          case rel => exact ⟨i + 1, by omega, by simp, Kbz.out⟩
        case pos =>
          obtain rfl : n = i := by omega
          have KPe : Kept (Below w0.heap.size w0 wy) := ⟨KPd.out.trans (hbx.mono KPd.out.size)⟩
          clear hbx
          go_wp2_with fail
          rw [rounds_succ]
          go_wp2_with fail
          go_ret
          exact ⟨rfl, Q0.out.trans (KPe.out.mono Q0.out.size)⟩


theorem sizes11 {pA pB pC pD : Nat} {kx s : List Nat} {nn : Nat} {w : World} (lk : kx.length = 32) (yk : Bytes kx) (hs : Bytes s) (hr : RootsAt w) (hp : PrimeP pA pB pC pD w) : Calls Tryd.prog 3 #[.agg (ints .u8 kx), .string (strOf s), .int .u8 (nn : Int)] w fun e w' => e = .returned (.bool true) ∧ Below w.heap.size w w' := by
  by_cases h : s.length ≤ 1000
  · exact sizes_few lk yk hs hr hp h
  · exact sizes_big lk yk hs hr hp (by omega)
end Go.Proofs.YtjkdonjcngmjeaaDoor.sh
