/-
  What MacLong answers.
-/
import Derived.Test.YthnkipicehppmaaDoorUT
namespace Go.Proofs.YthnkipicehppmaaDoor.sh
open Go Go.RowKit
set_option linter.unusedVariables false
set_option linter.unusedSimpArgs false

set_option maxRecDepth 100000 in
set_option maxHeartbeats 4000000 in
theorem long4_any (key : List Nat) (z : Int) (w : World) (hk : key.length = 32) (hy : Bytes key) (hz : (Lit.int .u8 z).wf = true) (hr : RootsAt w) :
    Calls Tryd.prog 7 #[.agg (ints .u8 key), .int .u8 z] w fun e w' => e = .returned (.bool true) ∧ Below w.heap.size w w' := by
  have hz8 := bounds_u8 hz
  obtain ⟨m, rfl⟩ := Int.eq_ofNat_of_zero_le hz8.1
  have m8 : m < 256 := by omega
  clear hz hz8
  have KR : Kept _ := ⟨hr⟩
  have LK : Kept _ := ⟨hk⟩
  have YK : Kept _ := ⟨hy⟩
  have h0 := hr.1
  have A0 : Blk (w.alloc (.cells (ints .u8 key) 24)) w.heap.size 24 (ints .u8 key) := blk_new w _ _
  have Q0 : Below w.heap.size w (w.alloc (.cells (ints .u8 key) 24)) := (Below.refl _ _).alloc (Nat.le_refl _) _
  clear hk hy hr
  go_enter Tryd.func7, Tryd.ntmps7
  go_wp2_with fail
  generalize hW : w.alloc (.cells (ints .u8 key) 24) = wa at *
  clear hW
  refine (alive4_any wa (KR.out.below h0 Q0)).mono ?_
  rintro e w1 ⟨rfl, hb1⟩
  have A1 := A0.under hb1
  have Q1 := Q0.trans (hb1.mono Q0.size)
  clear A0 Q0 hb1
  obtain ⟨X, hX⟩ : ∃ X, X = expL key [] 8160 := ⟨_, rfl⟩
  have EX : Kept (X = tsL key [] 255) := ⟨by rw [hX]; unfold expL; rw [List.take_of_length_le (by rw [tsL_len]; decide)]⟩
  have LX : Kept (X.length = 8160) := ⟨by rw [hX]; exact expL_len key [] 8160 (by decide)⟩
  have NV : ∀ w' : World, BytesV (.slice none 0 0) w' [] := fun w' => ⟨none, 0, rfl, Nat.le_refl _, fun h => absurd rfl h⟩
  have CE : Kept (Calls Tryd.prog 14 #[.agg (ints .u8 key), .slice none 0 0, .int .i64 8160] w1 fun e w' => ∃ v, e = .returned (.tuple #[v, .int .i64 0]) ∧ Row w1.heap.size 5 .u8 X v w' ∧ Below w1.heap.size w1 w') := ⟨by rw [hX]; exact Expand_ok key [] 8160 (.slice none 0 0) w1 LK.out YK.out nil_bytes (by decide) (by decide) (KR.out.below h0 Q1) (NV w1)⟩
  clear hX NV
  go_wp2_with (first | ((with_reducible refine wv_row (d := 16) ?hd ?hw 24 (.tmp 2) ?ho (w.heap.size) ?hx (t' := 24) (ints .u8 key) _ _ Tryd.underlying24 ?hs ?hg ?_); (case hd => rfl); (case hw => kernel_rfl); (case ho => rfl); (case hx => kernel_rfl); (case hs => rw [ints_size, LK.out]; exact t32_info); (case hg => exact A1); simp only [Act.put, List.setIfInBounds_toArray, List.set_cons_succ, List.set_cons_zero]))
  refine CE.out.mono ?_
  rintro e w3 ⟨v5, rfl, RX, hb3⟩
  have BX := row_bytes RX
  obtain ⟨p5, c5, e5, hc5, _⟩ := row_cells RX
  rw [LX.out] at e5 hc5
  subst e5
  have KX : Kept _ := ⟨BX⟩
  have A3 := A1.under hb3
  have Q3 := Q1.trans (hb3.mono Q1.size)
  clear A1 Q1 hb3 CE RX BX
  go_wp2_with (first | ((with_reducible refine wv_row (d := 21) ?hd ?hw 24 (.tmp 2) ?ho (w.heap.size) ?hx (t' := 24) (ints .u8 key) _ _ Tryd.underlying24 ?hs ?hg ?_); (case hd => rfl); (case hw => kernel_rfl); (case ho => rfl); (case hx => kernel_rfl); (case hs => rw [ints_size, LK.out]; exact t32_info); (case hg => exact A3); simp only [Act.put, List.setIfInBounds_toArray, List.set_cons_succ, List.set_cons_zero]))
  refine (Expand_bad (ints .u8 key) 8161 (.slice none 0 0) w3 (.inr (by decide))).mono ?_
  rintro e w4 ⟨rfl, hb4⟩
  have A4 := A3.under hb4
  have Q4 := Q3.trans (hb4.mono Q3.size)
  have KX4 : Kept _ := ⟨KX.out.under hb4⟩
  clear A3 Q3 hb4 KX
  go_wp2_with (first | ((with_reducible refine wv_row (d := 26) ?hd ?hw 24 (.tmp 2) ?ho (w.heap.size) ?hx (t' := 24) (ints .u8 key) _ _ Tryd.underlying24 ?hs ?hg ?_); (case hd => rfl); (case hw => kernel_rfl); (case ho => rfl); (case hx => kernel_rfl); (case hs => rw [ints_size, LK.out]; exact t32_info); (case hg => exact A4); simp only [Act.put, List.setIfInBounds_toArray, List.set_cons_succ, List.set_cons_zero]))
  refine (Expand_bad (ints .u8 key) (-1) (.slice none 0 0) w4 (.inl (by decide))).mono ?_
  rintro e w6 ⟨rfl, hb6⟩
  have A6 := A4.under hb6
  have Q6 := Q4.trans (hb6.mono Q4.size)
  have KX6 : Kept _ := ⟨KX4.out.under hb6⟩
  clear A4 Q4 hb6 KX4
  obtain ⟨r, hr⟩ : ∃ r, r = m % 254 := ⟨_, rfl⟩
  have Er : Kept _ := ⟨hr⟩
  obtain ⟨i, hi⟩ : ∃ i, i = 1 + r := ⟨_, rfl⟩
  have Ei : Kept _ := ⟨hi⟩
  have i1 : 1 ≤ i := by omega
  have i254 : i ≤ 254 := by omega
  obtain ⟨a2, ha2⟩ : ∃ a, a = 32 * i := ⟨_, rfl⟩
  obtain ⟨a1, ha1⟩ : ∃ a, a = a2 - 32 := ⟨_, rfl⟩
  obtain ⟨a3, ha3⟩ : ∃ a, a = a2 + 32 := ⟨_, rfl⟩
  obtain ⟨i1', hi1⟩ : ∃ a, a = i + 1 := ⟨_, rfl⟩
  obtain ⟨b, hb⟩ : ∃ b, b = i1' % 256 := ⟨_, rfl⟩
  obtain ⟨q1, hq1⟩ : ∃ q, q = (if c5 = a1 then p5 else p5.map (·.add a1)) := ⟨_, rfl⟩
  obtain ⟨q2, hq2⟩ : ∃ q, q = (if c5 = a2 then p5 else p5.map (·.add a2)) := ⟨_, rfl⟩
  have E2 : Kept _ := ⟨ha2⟩
  have Ea1 : Kept _ := ⟨ha1⟩
  have Ea3 : Kept _ := ⟨ha3⟩
  have Ei1 : Kept _ := ⟨hi1⟩
  have Eb : Kept _ := ⟨hb⟩
  obtain ⟨T, hT⟩ : ∃ T, T = tL key [] i := ⟨_, rfl⟩
  obtain ⟨T1, hT1⟩ : ∃ T, T = tL key [] (i + 1) := ⟨_, rfl⟩
  have LT : Kept (T.length = 32) := ⟨by rw [hT, show i = (i - 1) + 1 from by omega]; exact tL_len key [] (i - 1)⟩
  have LT1 : Kept (T1.length = 32) := ⟨by rw [hT1]; exact tL_len key [] i⟩
  have YT : Kept (Bytes T) := ⟨by rw [hT]; exact tL_bytes key [] i⟩
  have CT : Kept ((X.drop a1).take 32 = T) := ⟨by
    rw [EX.out, show a1 = 32 * (i - 1) from by omega, tsL_cut key [] 255 (i - 1) (by omega), hT]
    congr 1
    omega⟩
  have CT1 : Kept ((X.drop a2).take 32 = T1) := ⟨by rw [EX.out, ha2, tsL_cut key [] 255 i (by omega), hT1]⟩
  have MT : Kept (T1 = macL key (([] ++ T) ++ [b])) := ⟨by rw [hT1, tL_succ, ← hT, hb, hi1]; simp⟩
  have VT : Kept (∀ w', Below w6.heap.size w6 w' → IntsV .u8 (.slice q1 32 (c5 - a1)) w' T) := ⟨fun w' hb => by
    have h := BytesV.piece (k := a1) (m := 32) KX6.out (by rw [LX.out]; omega)
    rw [CT.out, ← hq1] at h
    exact h.under hb⟩
  have VL0 : Kept (∀ w', Below w6.heap.size w6 w' → IntsV .u8 (.slice q2 32 (c5 - a2)) w' T1) := ⟨fun w' hb => by
    have h := BytesV.piece (k := a2) (m := 32) KX6.out (by rw [LX.out]; omega)
    rw [CT1.out, ← hq2] at h
    exact h.under hb⟩
  have CUT1 : Kept (∀ {o : Oper} {a : Act}, o.op = .slice 22 (.tmp 50) (some (.tmp 53)) (some (.tmp 55)) none → a.eval (.tmp 50) = .slice p5 8160 c5 → a.eval (.tmp 53) = .int .i64 (a1 : Int) → a.eval (.tmp 55) = .int .i64 (a2 : Int) → ∀ w, (execOp a.eval o).run Tryd.prog w = .ok (.value (.slice q1 32 (c5 - a1))) w) := ⟨fun ho hx hy hz w => by
    have := cuts_run ho hx hy hz Tryd.underlying22 sz_u8 (by omega) (by omega) w
    rw [this, ← hq1, show a2 - a1 = 32 from by omega]⟩
  have CUT2 : Kept (∀ {o : Oper} {a : Act}, o.op = .slice 22 (.tmp 66) (some (.tmp 68)) (some (.tmp 71)) none → a.eval (.tmp 66) = .slice p5 8160 c5 → a.eval (.tmp 68) = .int .i64 (a2 : Int) → a.eval (.tmp 71) = .int .i64 (a3 : Int) → ∀ w, (execOp a.eval o).run Tryd.prog w = .ok (.value (.slice q2 32 (c5 - a2))) w) := ⟨fun ho hx hy hz w => by
    have := cuts_run ho hx hy hz Tryd.underlying22 sz_u8 (by omega) (by omega) w
    rw [this, ← hq2, show a3 - a2 = 32 from by omega]⟩
  have LA : Kept (([] : List Nat).length + T.length ≤ 8796093022208) := ⟨by rw [LT.out]; decide⟩
  have LB : Kept (([] ++ T).length + [b].length ≤ 8796093022208) := ⟨by simp [LT.out]⟩
  have b8 : b < 256 := by omega
  have CS : Kept (∀ w' v, Below w6.heap.size w6 w' → Row w6.heap.size 5 .u8 (([] ++ T) ++ [b]) v w' → Calls Tryd.prog 12 #[.slice (some ⟨w.heap.size, 0, none⟩) 32 32, v] w' fun e w2 => e = .returned (.agg (ints .u8 T1)) ∧ Below w'.heap.size w' w2) := ⟨fun w' v hb hR => by
    rw [MT.out]
    refine mSum_any key (([] ++ T) ++ [b]) _ _ w' YK.out (by rw [LK.out]; decide) (YT.out.append (fun j x hx => ?_)) (by simp [LT.out]) ((KR.out.below h0 Q6).under hb) ((arr_bytes A6 LK.out).under hb) (row_bytes hR)
    rcases j with _ | j <;> simp at hx
    omega⟩
  have I1 : Kept (∀ {o : Oper} {a : Act} {x : Operand}, o.op = .binOp .rem 3 x (.const (.int .i64 254)) 3 → a.eval x = .int .i64 (m : Int) → ∀ w, (execOp a.eval o).run Tryd.prog w = .ok (.value (.int .i64 (r : Int))) w) := ⟨fun ho hx w => run_remV (n := 254) ho hx rfl (by decide) hr (by omega) w⟩
  clear hT hT1 hq1 hq2 CT CT1
  go_wp2_with (first | ((with_reducible refine wv_val (d := 46) ?hd ?hw (.int .i64 (m : Int)) ?hr ?_); (case hd => rfl); (case hw => kernel_rfl); (case hr => intro w; exact run_conv83 rfl (by kernel_rfl) m8 w); simp only [Act.put, List.setIfInBounds_toArray, List.set_cons_succ, List.set_cons_zero]) | ((with_reducible refine wv_val (d := 47) ?hd ?hw (.int .i64 (r : Int)) ?hr ?_); (case hd => rfl); (case hw => kernel_rfl); (case hr => intro w; exact I1.out rfl (by kernel_rfl) w); simp only [Act.put, List.setIfInBounds_toArray, List.set_cons_succ, List.set_cons_zero]) | ((with_reducible refine wv_val (d := 48) ?hd ?hw (.int .i64 (i : Int)) ?hr ?_); (case hd => rfl); (case hw => kernel_rfl); (case hr => intro w; exact run_addC 1 rfl (by kernel_rfl) Ei.out (by omega) w); simp only [Act.put, List.setIfInBounds_toArray, List.set_cons_succ, List.set_cons_zero]))
  refine region_ownL w6 16 [(49, .slice (some ⟨w.heap.size, 0, none⟩) 32 32), (50, .slice p5 8160 c5), (51, .int .i64 (i : Int)), (52, .int .i64 (a2 : Int)), (53, .int .i64 (a1 : Int)), (54, .int .i64 (i : Int)), (55, .int .i64 (a2 : Int)), (56, .slice q1 32 (c5 - a1)), (58, .int .i64 (i : Int)), (59, .int .i64 (i1' : Int)), (60, .int .u8 (b : Int)), (63, .agg (ints .u8 T1))] [(57, Row w6.heap.size 5 .u8 ([] ++ T)), (61, Const 5 .u8 [b]), (62, Row w6.heap.size 5 .u8 (([] ++ T) ++ [b])), (12, PtrAt 24 #[.int .u8 0, .int .u8 0, .int .u8 0, .int .u8 0, .int .u8 0, .int .u8 0, .int .u8 0, .int .u8 0, .int .u8 0, .int .u8 0, .int .u8 0, .int .u8 0, .int .u8 0, .int .u8 0, .int .u8 0, .int .u8 0, .int .u8 0, .int .u8 0, .int .u8 0, .int .u8 0, .int .u8 0, .int .u8 0, .int .u8 0, .int .u8 0, .int .u8 0, .int .u8 0, .int .u8 0, .int .u8 0, .int .u8 0, .int .u8 0, .int .u8 0, .int .u8 0])] [57, 61, 62, 12] [(13, 57)] rfl (by kernel_rfl) (by kernel_rfl) (by kernel_rfl) (by kernel_rfl) (by kernel_rfl) (by kernel_rfl) (by kernel_rfl) (by kernel_rfl) (by kernel_rfl) (by kernel_rfl) (by kernel_rfl) ?hst1 ?hst2 (Below.refl _ _) (fun hA => ⟨ow_val hA (wants_none rfl) 49 (.slice (some ⟨w.heap.size, 0, none⟩) 32 32) (by kernel_rfl) rfl rfl rfl rfl (by kernel_rfl) (fun w => by kernel_rfl), ow_val hA (wants_none rfl) 50 (.slice p5 8160 c5) (by kernel_rfl) rfl rfl rfl rfl (by kernel_rfl) (fun w => by kernel_rfl), ow_val hA (wants_none rfl) 51 (.int .i64 (i : Int)) (by kernel_rfl) rfl rfl rfl rfl (by kernel_rfl) (fun w => by kernel_rfl), ow_val hA (wants_none rfl) 52 (.int .i64 (a2 : Int)) (by kernel_rfl) rfl rfl rfl rfl (by kernel_rfl) (fun w => run_mulC 32 rfl (by kernel_rfl) E2.out (by omega) w), ow_val hA (wants_none rfl) 53 (.int .i64 (a1 : Int)) (by kernel_rfl) rfl rfl rfl rfl (by kernel_rfl) (fun w => by rw [Ea1.out]; exact run_subI 32 rfl (by kernel_rfl) (by omega) (by omega) w), ow_val hA (wants_none rfl) 54 (.int .i64 (i : Int)) (by kernel_rfl) rfl rfl rfl rfl (by kernel_rfl) (fun w => by kernel_rfl), ow_val hA (wants_none rfl) 55 (.int .i64 (a2 : Int)) (by kernel_rfl) rfl rfl rfl rfl (by kernel_rfl) (fun w => run_mulC 32 rfl (by kernel_rfl) E2.out (by omega) w), ow_val hA (wants_none rfl) 56 (.slice q1 32 (c5 - a1)) (by kernel_rfl) rfl rfl rfl rfl (by kernel_rfl) (fun w => CUT1.out rfl (by kernel_rfl) (by kernel_rfl) (by kernel_rfl) w), ow_app (wants_none rfl) 57 rfl (.const (.slice none 0 0)) (.tmp 56) 22 5 .u8 1 rfl Tryd.underlying22 inf_u8 (by decide) ([]) (T) LA.out rfl (fun a w1 hF hb hgot => ⟨row_nil _ _ _ _, by rw [gotE_det (v := .slice q1 32 (c5 - a1)) hA hgot (by kernel_rfl) rfl rfl (by kernel_rfl)]; exact VT.out w1 hb, fun b hb => by cases hb⟩), ow_val hA (wants_none rfl) 58 (.int .i64 (i : Int)) (by kernel_rfl) rfl rfl rfl rfl (by kernel_rfl) (fun w => by kernel_rfl), ow_val hA (wants_none rfl) 59 (.int .i64 (i1' : Int)) (by kernel_rfl) rfl rfl rfl rfl (by kernel_rfl) (fun w => by rw [Ei1.out]; exact run_addI 1 rfl (by kernel_rfl) (by omega) w), ow_val hA (wants_none rfl) 60 (.int .u8 (b : Int)) (by kernel_rfl) rfl rfl rfl rfl (by kernel_rfl) (fun w => run_conv38 rfl (by kernel_rfl) Eb.out w), ow_byte hA (wants_none rfl) 61 60 b rfl rfl (by kernel_rfl) (by kernel_rfl) rfl rfl rfl, ow_app (wants_none rfl) 62 rfl (.tmp 57) (.tmp 61) 22 5 .u8 1 rfl Tryd.underlying22 inf_u8 (by decide) ([] ++ T) ([b]) LB.out rfl (fun a w1 hF hb hgot => ⟨(gotE_spec hgot (Row w6.heap.size 5 .u8 ([] ++ T)) (by kernel_rfl) rfl rfl).1, (gotE_spec hgot (Const 5 .u8 [b]) (by kernel_rfl) rfl rfl).1.ints, fun b hb => ⟨57, by decide, by rw [(gotE_spec hgot (Row w6.heap.size 5 .u8 ([] ++ T)) (by kernel_rfl) rfl rfl).2.1]; exact hb⟩⟩), ow_call (wants_none rfl) 63 12 Tryd.f12 _ [.tmp 49, .tmp 62] _ rfl rfl Tryd.func12 (by kernel_rfl) rfl (fun a w1 hF hb hgot => by rw [List.map_cons, List.map_cons, List.map_nil, gotE_det (v := .slice (some ⟨w.heap.size, 0, none⟩) 32 32) hA hgot (by kernel_rfl) rfl rfl (by kernel_rfl)]; exact (CS.out w1 _ hb (gotE_spec hgot (Row w6.heap.size 5 .u8 (([] ++ T) ++ [b])) (by kernel_rfl) rfl rfl).1).mono fun e w2 hh => ⟨_, hh.1, rel_det hA rfl (by kernel_rfl), hh.2, fun h => by cases h⟩), ow_new (wants_none rfl) 12 rfl (PtrAt 24 #[.int .u8 0, .int .u8 0, .int .u8 0, .int .u8 0, .int .u8 0, .int .u8 0, .int .u8 0, .int .u8 0, .int .u8 0, .int .u8 0, .int .u8 0, .int .u8 0, .int .u8 0, .int .u8 0, .int .u8 0, .int .u8 0, .int .u8 0, .int .u8 0, .int .u8 0, .int .u8 0, .int .u8 0, .int .u8 0, .int .u8 0, .int .u8 0, .int .u8 0, .int .u8 0, .int .u8 0, .int .u8 0, .int .u8 0, .int .u8 0, .int .u8 0, .int .u8 0]) rfl (fun a w _ => ⟨_, _, by kernel_rfl, ⟨w.heap.size, rfl, heap_new w _⟩, (Below.refl _ _).alloc (Nat.le_refl _) _, fun b hb => by cases hb; exact ⟨Nat.le_refl _, by simp⟩⟩), trivial⟩) ?_
  case hst1 =>
    intro q hq hO
    simp only [List.mem_cons, List.not_mem_nil, or_false] at hq
    rcases hq with rfl | rfl | rfl | rfl <;> cases hO
  case hst2 =>
    intro q hq hO v w3 w4 row h1 h2 h3 h4
    simp only [List.mem_cons, List.not_mem_nil, or_false] at hq
    rcases hq with rfl | rfl | rfl | rfl
    · exact Row.keeps h1 h2 h3
    · exact Const.keeps h1 h2 h3
    · exact Row.keeps h1 h2 h3
    · exact PtrAt.keeps h1 h2 h3
  intro fv w7 hf hD hb7
  obtain ⟨g12, e12, A12⟩ := (hf 12 _ rfl rfl).1
  have r12 := (hf 12 _ rfl rfl).2 rfl g12 (by rw [e12]; rfl)
  simp only [putR, List.foldl_cons, List.foldl_nil, List.map_cons, List.map_nil, Act.put, List.setIfInBounds_toArray, List.set_cons_succ, List.set_cons_zero]
  rw [e12]
  have Q7 := Q6.trans (hb7.mono Q6.size)
  have g12w : w.heap.size ≤ g12 := Nat.le_trans Q6.size r12.1
  clear hf hD e12 CS CUT1 LA LB VT
  refine wl_store rfl 24 (.tmp 12) (.tmp 63) rfl g12 (ints .u8 T1) (by kernel_rfl) (by kernel_rfl) _ A12 (by rw [ints_size, LT1.out]; exact t32_info) (by rw [ints_size, LT1.out]; rfl) (ints_one _ _) ?_
  intro w8 A8 P8
  have Q8 := Q7.trans (P8.below g12w)
  have hb8 : Below w6.heap.size w6 w8 := hb7.trans (P8.below r12.1)
  have VS : Kept (∀ w', Below w8.heap.size w8 w' → IntsV .u8 (.slice (some ⟨g12, 0, none⟩) 32 32) w' T1) := ⟨fun w' hb => (arr_bytes A8 LT1.out).under hb⟩
  have VL : Kept (∀ w', Below w8.heap.size w8 w' → IntsV .u8 (.slice q2 32 (c5 - a2)) w' T1) := ⟨fun w' hb => VL0.out w' (hb8.trans (hb.mono hb8.size))⟩
  obtain ⟨S1, hS1⟩ : ∃ S, S = strOf T1 := ⟨_, rfl⟩
  have ES : Kept (Value.string S1 = .string (strOf T1)) := ⟨by rw [hS1]⟩
  clear A12 P8 hb7 hb8 VL0 Q7 A6 r12 hS1 Q6
  go_wp2_with fail
  refine region_ownL w8 11 [(64, .slice (some ⟨g12, 0, none⟩) 32 32), (65, .string S1), (66, .slice p5 8160 c5), (67, .int .i64 (i : Int)), (68, .int .i64 (a2 : Int)), (69, .int .i64 (i : Int)), (70, .int .i64 (a2 : Int)), (71, .int .i64 (a3 : Int)), (72, .slice q2 32 (c5 - a2)), (73, .string S1), (74, .bool true)] [] [] [] rfl (by kernel_rfl) (by kernel_rfl) (by kernel_rfl) (by kernel_rfl) (by kernel_rfl) (by kernel_rfl) (by kernel_rfl) (by kernel_rfl) (by kernel_rfl) (by kernel_rfl) (by kernel_rfl) ?hst1 ?hst2 (Below.refl _ _) (fun hA => ⟨ow_val hA (wants_none rfl) 64 (.slice (some ⟨g12, 0, none⟩) 32 32) (by kernel_rfl) rfl rfl rfl rfl (by kernel_rfl) (fun w => by kernel_rfl), ow_str hA (wants_none rfl) 65 (.string S1) (by kernel_rfl) rfl rfl rfl rfl (by kernel_rfl) (.tmp 64) rfl _ (by kernel_rfl) T1 (fun w1 hb => VS.out w1 hb) ES.out, ow_val hA (wants_none rfl) 66 (.slice p5 8160 c5) (by kernel_rfl) rfl rfl rfl rfl (by kernel_rfl) (fun w => by kernel_rfl), ow_val hA (wants_none rfl) 67 (.int .i64 (i : Int)) (by kernel_rfl) rfl rfl rfl rfl (by kernel_rfl) (fun w => by kernel_rfl), ow_val hA (wants_none rfl) 68 (.int .i64 (a2 : Int)) (by kernel_rfl) rfl rfl rfl rfl (by kernel_rfl) (fun w => run_mulC 32 rfl (by kernel_rfl) E2.out (by omega) w), ow_val hA (wants_none rfl) 69 (.int .i64 (i : Int)) (by kernel_rfl) rfl rfl rfl rfl (by kernel_rfl) (fun w => by kernel_rfl), ow_val hA (wants_none rfl) 70 (.int .i64 (a2 : Int)) (by kernel_rfl) rfl rfl rfl rfl (by kernel_rfl) (fun w => run_mulC 32 rfl (by kernel_rfl) E2.out (by omega) w), ow_val hA (wants_none rfl) 71 (.int .i64 (a3 : Int)) (by kernel_rfl) rfl rfl rfl rfl (by kernel_rfl) (fun w => by rw [Ea3.out]; exact run_addI 32 rfl (by kernel_rfl) (by omega) w), ow_val hA (wants_none rfl) 72 (.slice q2 32 (c5 - a2)) (by kernel_rfl) rfl rfl rfl rfl (by kernel_rfl) (fun w => CUT2.out rfl (by kernel_rfl) (by kernel_rfl) (by kernel_rfl) w), ow_str hA (wants_none rfl) 73 (.string S1) (by kernel_rfl) rfl rfl rfl rfl (by kernel_rfl) (.tmp 72) rfl _ (by kernel_rfl) T1 (fun w1 hb => VL.out w1 hb) ES.out, ow_val hA (wants_none rfl) 74 (.bool true) (by kernel_rfl) rfl rfl rfl rfl (by kernel_rfl) (fun w => run_eql_str (s := S1) rfl (by kernel_rfl) (by kernel_rfl) w), trivial⟩) ?_
  case hst1 => intro q hq; cases hq
  case hst2 => intro q hq; cases hq
  intro fv2 w9 hf hD hb9
  simp only [putR, List.foldl_cons, List.foldl_nil, List.map_cons, List.map_nil, Act.put, List.setIfInBounds_toArray, List.set_cons_succ, List.set_cons_zero]
  clear hf hD VS VL CUT2 A8
  go_wp2
  go_ret
  exact ⟨rfl, Q8.trans (hb9.mono Q8.size)⟩
end Go.Proofs.YthnkipicehppmaaDoor.sh
