/-
  StreamEnd: behind the last count there is no block more; more bytes than may be are refused.
-/
import Derived.Test.YthieljiplhhdeaaXL
namespace Go.Proofs.Ythieljiplhhdeaa.sh
open Go Go.RowKit
set_option linter.unusedVariables false
set_option linter.unusedSimpArgs false

theorem run_rem8c {o : Oper} {a : Act} {x : Operand} {i z : Nat} (ho : o.op = .binOp .rem 5 x (.const (.int .u8 4)) 5) (hx : a.eval x = .int .u8 (i : Int)) (hz : z = i % 4) (hi : i < 256) (w : World) : (execOp a.eval o).run Try.prog w = .ok (.value (.int .u8 (z : Int))) w := by
  have e3 : a.eval (.const (.int .u8 4)) = .int .u8 4 := rfl
  have h3 : (i : Int).tmod 4 = (z : Int) := by rw [hz, Int.tmod_eq_emod_of_nonneg (by omega)]; omega
  unfold execOp
  simp only [ho, hx, e3]
  simp [go_sem, h3]
theorem run_rem16c {o : Oper} {a : Act} {x : Operand} {i z : Nat} (ho : o.op = .binOp .rem 40 x (.const (.int .u16 400)) 40) (hx : a.eval x = .int .u16 (i : Int)) (hz : z = i % 400) (hi : i < 65536) (w : World) : (execOp a.eval o).run Try.prog w = .ok (.value (.int .u16 (z : Int))) w := by
  have e3 : a.eval (.const (.int .u16 400)) = .int .u16 400 := rfl
  have h3 : (i : Int).tmod 400 = (z : Int) := by rw [hz, Int.tmod_eq_emod_of_nonneg (by omega)]; omega
  unfold execOp
  simp only [ho, hx, e3]
  simp [go_sem, h3]
theorem run_c864 {o : Oper} {a : Act} {x : Operand} {z : Nat} (ho : o.op = .convert 5 37 x) (hx : a.eval x = .int .u8 (z : Int)) (hz : z < 256) (w : World) : (execOp a.eval o).run Try.prog w = .ok (.value (.int .u64 (z : Int))) w := by
  unfold execOp
  simp only [ho, hx]
  simp [go_sem, IntKind.wrap_u64]
  omega
theorem run_c163 {o : Oper} {a : Act} {x : Operand} {z : Nat} (ho : o.op = .convert 40 3 x) (hx : a.eval x = .int .u16 (z : Int)) (hz : z < 65536) (w : World) : (execOp a.eval o).run Try.prog w = .ok (.value (.int .i64 (z : Int))) w := by
  unfold execOp
  simp only [ho, hx]
  simp [go_sem, IntKind.wrap_i64, wrap64]
  omega
theorem run_c6432 {o : Oper} {a : Act} {x : Operand} {z : Nat} (ho : o.op = .convert 37 24 x) (hx : a.eval x = .int .u64 (z : Int)) (hz : z < 4294967296) (w : World) : (execOp a.eval o).run Try.prog w = .ok (.value (.int .u32 (z : Int))) w := by
  unfold execOp
  simp only [ho, hx]
  simp [go_sem, IntKind.wrap_u32']
  omega
theorem run_subL {o : Oper} {a : Act} {x : Operand} {i z : Nat} (ho : o.op = .binOp .sub 37 (.const (.int .u64 4294967295)) x 37) (hx : a.eval x = .int .u64 (i : Int)) (hz : z + i = 4294967295) (w : World) : (execOp a.eval o).run Try.prog w = .ok (.value (.int .u64 (z : Int))) w := by
  have e3 : a.eval (.const (.int .u64 4294967295)) = .int .u64 4294967295 := rfl
  unfold execOp
  simp only [ho, hx, e3]
  simp [go_sem, IntKind.wrap_u64]
  omega
theorem run_leqI {o : Oper} {a : Act} {x y : Operand} {m n : Nat} {b : Bool} (ho : o.op = .binOp .leq 3 x y 3) (hx : a.eval x = .int .i64 (m : Int)) (hy : a.eval y = .int .i64 (n : Int)) (hb : b = decide (m ≤ n)) (w : World) : (execOp a.eval o).run Try.prog w = .ok (.value (.bool b)) w := by
  unfold execOp
  simp only [ho, hx, hy]
  simp [go_sem, hb]
theorem zn_val (w : World) : (Instr.build 23 #[]).run Try.prog w = .ok (.agg (ints .u8 (List.replicate 12 0))) w := by kernel_rfl
theorem nat_of_u8 {y : Int} (h : (Lit.int .u8 y).wf = true) : ∃ a : Nat, y = (a : Int) ∧ a < 256 := by
  have := bounds_u8 h
  exact ⟨y.toNat, by omega, by omega⟩
theorem nat_of_u16 {y : Int} (h : (Lit.int .u16 y).wf = true) : ∃ a : Nat, y = (a : Int) ∧ a < 65536 := by
  have := bounds_u16 h
  exact ⟨y.toNat, by omega, by omega⟩
theorem make_new {B : Nat} {o : Oper} {a : Act} (c : Nat) (hc : c < 1000000) (ho : o.op = .makeSlice 27 (.const (.int .i64 (c : Int))) (.const (.int .i64 (c : Int)))) (w : World) (hB : B ≤ w.heap.size) : ∃ v w', (execOp a.eval o).run Try.prog w = .ok (.value v) w' ∧ Row B 5 .u8 (List.replicate c 0) v w' ∧ Below w.heap.size w w' ∧ ∀ b, blkOf v = some b → w.heap.size ≤ b ∧ b < w'.heap.size := by
  refine ⟨.slice (some ⟨w.heap.size, 0, none⟩) c c, w.alloc (.cells (ints .u8 (List.replicate c 0)) 5), ?_, blk_row (blk_new _ _ _) (by rw [List.length_replicate]) hB (by unfold maxLen; omega), (Below.refl _ _).alloc (Nat.le_refl _) _, fun b hb => ?_⟩
  · have e3 : a.eval (.const (.int .i64 (c : Int))) = .int .i64 (c : Int) := rfl
    unfold execOp
    simp only [ho, e3]
    simp [run_make8 c hc .i64 w]
  · cases hb
    exact ⟨Nat.le_refl _, by simp⟩
set_option maxRecDepth 100000 in
set_option maxHeartbeats 2000000 in
theorem end5_any (key : List Nat) (y1 y2 : Int) (w : World) (hk : key.length = 32) (hy : Bytes key) (h1 : (Lit.int .u8 y1).wf = true) (h2 : (Lit.int .u16 y2).wf = true) :
    Calls Try.prog 6 #[.agg (ints .u8 key), .int .u8 y1, .int .u16 y2] w fun e w' => e = .returned (.bool true) ∧ Below w.heap.size w w' := by
  obtain ⟨a, rfl, ha⟩ := nat_of_u8 h1
  obtain ⟨b, rfl, hb⟩ := nat_of_u16 h2
  obtain ⟨l, hl⟩ : ∃ l, l = a % 4 := ⟨_, rfl⟩
  obtain ⟨m, hm⟩ : ∃ m, m = b % 400 := ⟨_, rfl⟩
  obtain ⟨ct, hct⟩ : ∃ ct, ct + l = 4294967295 := ⟨4294967295 - l, by omega⟩
  obtain ⟨l1, hl1⟩ : ∃ q, q = l + 1 := ⟨_, rfl⟩
  obtain ⟨q, hq⟩ : ∃ q, q = 64 * l1 := ⟨_, rfl⟩
  have LK : Kept _ := ⟨hk⟩
  have El : Kept _ := ⟨hl⟩
  have Em : Kept _ := ⟨hm⟩
  have Ec : Kept _ := ⟨hct⟩
  have El1 : Kept _ := ⟨hl1⟩
  have Eq : Kept _ := ⟨hq⟩
  have l4 : l < 4 := by omega
  have m400 : m < 400 := by omega
  have l15 : l1 < 100 := by omega
  have q9 : q < 1000 := by omega
  have c32 : ct < 4294967296 := by omega
  obtain ⟨ZN, hZN⟩ : ∃ Z : List Nat, Z = List.replicate 12 0 := ⟨_, rfl⟩
  have HN : Kept (∀ {o : Oper} {a : Act}, o.op = .build 23 #[] → ∀ w, (execOp a.eval o).run Try.prog w = .ok (.value (.agg (ints .u8 ZN))) w) := ⟨fun {o a} ho w => by
    unfold execOp
    simp only [ho]
    simp [go_sem]
    rw [hZN]
    rfl⟩
  obtain ⟨BG, hBG⟩ : ∃ Z : List Nat, Z = List.replicate 65537 0 := ⟨_, rfl⟩
  have LBG : Kept (65536 < BG.length) := ⟨by rw [hBG, List.length_replicate]; omega⟩
  have MKB : Kept (∀ {B : Nat} {o : Oper} {a : Act}, o.op = .makeSlice 27 (.const (.int .i64 65537)) (.const (.int .i64 65537)) → ∀ w : World, B ≤ w.heap.size → ∃ v w', (execOp a.eval o).run Try.prog w = .ok (.value v) w' ∧ Row B 5 .u8 BG v w' ∧ Below w.heap.size w w' ∧ ∀ b, blkOf v = some b → w.heap.size ≤ b ∧ b < w'.heap.size) := ⟨fun {B o a} ho w hB => by rw [hBG]; exact make_new 65537 (by decide) ho w hB⟩
  have CG : Kept (∀ (w' : World) (v : Value), BytesV v w' BG → Calls Try.prog 9 [.agg (ints .u8 key), .agg (ints .u8 ZN), .int .u32 0, v].toArray w' fun e w2 => e = .returned (.tuple #[.slice none 0 0, .int .i64 3]) ∧ Below w'.heap.size w' w2) := ⟨fun w' v hv => Xor_big key ZN BG 0 v w' hv LBG.out⟩
  have CO : Kept (∀ (w' : World) (v : Value) (n : Nat), BytesV v w' (List.replicate n 0) → n ≤ 65536 → ct + (n + 63) / 64 ≤ 4294967296 → Calls Try.prog 9 #[.agg (ints .u8 key), .agg (ints .u8 ZN), .int .u32 (ct : Int), v] w' fun e w2 => ∃ v, e = .returned (.tuple #[v, .int .i64 0]) ∧ Below w'.heap.size w' w2) := ⟨fun w' v n hv h1 h2 => by
    refine (Xor_ok key ZN (List.replicate n 0) ct v w' hk hy (by rw [hZN]; rfl) (by rw [hZN]; exact bytes_zero _) (bytes_zero _) hv c32 (by rw [List.length_replicate]; exact h1) (by rw [List.length_replicate]; exact h2)).mono ?_
    rintro e w2 ⟨v, rfl, _, hb⟩
    exact ⟨v, rfl, hb⟩⟩
  have CE : Kept (∀ (w' : World) (v : Value) (n : Nat), BytesV v w' (List.replicate n 0) → n ≤ 65536 → 4294967296 < ct + (n + 63) / 64 → Calls Try.prog 9 #[.agg (ints .u8 key), .agg (ints .u8 ZN), .int .u32 (ct : Int), v] w' fun e w2 => e = .returned (.tuple #[.slice none 0 0, .int .i64 12]) ∧ Below w'.heap.size w' w2) := ⟨fun w' v n hv h1 h2 => Xor_end key ZN (List.replicate n 0) ct v w' hv c32 (by rw [List.length_replicate]; exact h1) (by rw [List.length_replicate]; exact h2)⟩
  have A0 : Blk (w.alloc (.cells (ints .u8 key) 22)) w.heap.size 22 (ints .u8 key) := blk_new _ _ _
  have Q0 : Below w.heap.size w (w.alloc (.cells (ints .u8 key) 22)) := (Below.refl _ _).alloc (Nat.le_refl _) _
  clear hk hy hl hm hct hl1 hq hZN hBG h1 h2
  go_enter Try.func6, Try.ntmps6
  go_wp2_with fail
  generalize hW : w.alloc (.cells (ints .u8 key) 22) = wa at *
  clear hW
  refine (alive5_any wa).mono ?_
  rintro e w1 ⟨rfl, hb1⟩
  have B0 := A0.under hb1
  have Q1 := Q0.trans (hb1.mono Q0.size)
  clear A0 Q0 hb1
  go_wp2_with (first | ((with_reducible refine wv_val (d := 18) ?hd ?hw (.int .u8 (l : Int)) ?hr ?_); (case hd => rfl); (case hw => kernel_rfl); (case hr => intro w; exact run_rem8c rfl (by kernel_rfl) El.out ha w); simp only [Act.put, List.setIfInBounds_toArray, List.set_cons_succ, List.set_cons_zero]) | ((with_reducible refine wv_val (d := 19) ?hd ?hw (.int .u64 (l : Int)) ?hr ?_); (case hd => rfl); (case hw => kernel_rfl); (case hr => intro w; exact run_c864 rfl (by kernel_rfl) (by omega) w); simp only [Act.put, List.setIfInBounds_toArray, List.set_cons_succ, List.set_cons_zero]) | ((with_reducible refine wv_val (d := 20) ?hd ?hw (.int .u64 (ct : Int)) ?hr ?_); (case hd => rfl); (case hw => kernel_rfl); (case hr => intro w; exact run_subL rfl (by kernel_rfl) Ec.out w); simp only [Act.put, List.setIfInBounds_toArray, List.set_cons_succ, List.set_cons_zero]) | ((with_reducible refine wv_val (d := 21) ?hd ?hw (.int .u32 (ct : Int)) ?hr ?_); (case hd => rfl); (case hw => kernel_rfl); (case hr => intro w; exact run_c6432 rfl (by kernel_rfl) c32 w); simp only [Act.put, List.setIfInBounds_toArray, List.set_cons_succ, List.set_cons_zero]) | ((with_reducible refine wv_val (d := 23) ?hd ?hw (.int .u16 (m : Int)) ?hr ?_); (case hd => rfl); (case hw => kernel_rfl); (case hr => intro w; exact run_rem16c rfl (by kernel_rfl) Em.out hb w); simp only [Act.put, List.setIfInBounds_toArray, List.set_cons_succ, List.set_cons_zero]) | ((with_reducible refine wv_val (d := 24) ?hd ?hw (.int .i64 (m : Int)) ?hr ?_); (case hd => rfl); (case hw => kernel_rfl); (case hr => intro w; exact run_c163 rfl (by kernel_rfl) (by omega) w); simp only [Act.put, List.setIfInBounds_toArray, List.set_cons_succ, List.set_cons_zero]) | (refine wl_make rfl (.tmp 24) rfl .i64 m rfl (by omega) ?_) | (refine wl_load rfl 22 (.tmp 3) rfl w.heap.size rfl (ints .u8 key) 32 5 Try.underlying22 (by rw [ints_size, LK.out]; exact t32_info) (B0.alloc _) ?_) | ((with_reducible refine wv_val (d := 28) ?hd ?hw (.agg (ints .u8 ZN)) ?hr ?_); (case hd => rfl); (case hw => kernel_rfl); (case hr => intro w; exact HN.out rfl w); simp only [Act.put, List.setIfInBounds_toArray, List.set_cons_succ, List.set_cons_zero]))
  have V2 : Kept (BytesV (.slice (some ⟨w1.heap.size, 0, none⟩) m m) (w1.alloc (.cells (ints .u8 (List.replicate m 0)) 5)) (List.replicate m 0)) := ⟨arr_bytes (blk_new w1 5 _) (by rw [List.length_replicate])⟩
  have B2 := B0.alloc (.cells (ints .u8 (List.replicate m 0)) 5)
  have Q2 := Q1.alloc Q1.size (.cells (ints .u8 (List.replicate m 0)) 5)
  generalize hW : w1.alloc (.cells (ints .u8 (List.replicate m 0)) 5) = w2 at *
  generalize hg : w1.heap.size = g2 at *
  clear hW hg B0 Q1
  by_cases hE : m ≤ q
  case pos =>
    have hLE : Kept (true = decide (m ≤ q)) := ⟨(decide_eq_true hE).symm⟩
    refine (CO.out w2 _ m V2.out (by omega) (by have := Eq.out; have := El1.out; have := Ec.out; omega)).mono ?_
    rintro e w4 ⟨v, rfl, hb4⟩
    have C0 := B2.under hb4
    have Q4 := Q2.trans (hb4.mono Q2.size)
    clear B2 Q2 V2 hb4 CE
    go_wp2_with fail
    refine region_ownL w4 9 [(35, .agg (ints .u8 key)), (36, .agg (ints .u8 ZN)), (38, .tuple #[.slice none 0 0, .int .i64 3]), (34, .tuple #[.slice none 0 0, .int .i64 3]), (39, .slice none 0 0), (40, .int .i64 3), (11, .slice none 0 0), (12, .int .i64 3)] [(37, Row w4.heap.size 5 .u8 BG)] [37] [] rfl (by kernel_rfl) (by kernel_rfl) (by kernel_rfl) (by kernel_rfl) (by kernel_rfl) (by kernel_rfl) (by kernel_rfl) (by kernel_rfl) (by kernel_rfl) (by kernel_rfl) (by kernel_rfl) ?hst1 ?hst2 (Below.refl _ _) (fun hA => ⟨ow_row hA (wants_none rfl) 35 (.agg (ints .u8 key)) (by kernel_rfl) rfl rfl rfl rfl (by kernel_rfl) 22 (.tmp 3) rfl (w.heap.size) (by kernel_rfl) 22 (ints .u8 key) 32 5 Try.underlying22 ((by rw [ints_size, LK.out]; exact t32_info)) (fun w1 hb => C0.under hb) rfl, ow_val hA (wants_none rfl) 36 (.agg (ints .u8 ZN)) (by kernel_rfl) rfl rfl rfl rfl (by kernel_rfl) (fun w => HN.out rfl w), ow_new (wants_none rfl) 37 rfl _ rfl (fun a w1 hs => MKB.out rfl w1 hs), ow_call (wants_none rfl) 38 9 Try.f9 _ [.tmp 35, .tmp 36, .const (.int .u32 0), .tmp 37] _ rfl rfl Try.func9 (by kernel_rfl) rfl (fun a w1 hF hb hgot => by rw [List.map_cons, List.map_cons, List.map_cons, List.map_cons, List.map_nil, gotE_det (v := .agg (ints .u8 key)) hA hgot (by kernel_rfl) rfl rfl (by kernel_rfl), gotE_det (v := .agg (ints .u8 ZN)) hA hgot (by kernel_rfl) rfl rfl (by kernel_rfl)]; exact (CG.out w1 _ (row_bytes (gotE_spec hgot (Row w4.heap.size 5 .u8 BG) (by kernel_rfl) rfl rfl).1)).mono fun e w2 hh => ⟨_, hh.1, rel_det hA rfl (by kernel_rfl), hh.2, fun h => by cases h⟩), ow_val hA (wants_none rfl) 34 (.tuple #[.slice none 0 0, .int .i64 3]) (by kernel_rfl) rfl rfl rfl rfl (by kernel_rfl) (fun w => by kernel_rfl), ow_val hA (wants_none rfl) 39 (.slice none 0 0) (by kernel_rfl) rfl rfl rfl rfl (by kernel_rfl) (fun w => by kernel_rfl), ow_val hA (wants_none rfl) 40 (.int .i64 3) (by kernel_rfl) rfl rfl rfl rfl (by kernel_rfl) (fun w => by kernel_rfl), ow_val hA (wants_none rfl) 11 (.slice none 0 0) (by kernel_rfl) rfl rfl rfl rfl (by kernel_rfl) (fun w => by kernel_rfl), ow_val hA (wants_none rfl) 12 (.int .i64 3) (by kernel_rfl) rfl rfl rfl rfl (by kernel_rfl) (fun w => by kernel_rfl), trivial⟩) ?_
    case hst1 =>
      intro q hq hO
      simp only [List.mem_cons, List.not_mem_nil, or_false] at hq
      subst hq
      cases hO
    case hst2 =>
      intro q hq hO v w3 w4 row h1 h2 h3 h4
      simp only [List.mem_cons, List.not_mem_nil, or_false] at hq
      subst hq
      exact Row.keeps h1 h2 h3
    intro fv w5 hf hD hb5
    simp only [putR, List.foldl_cons, List.foldl_nil, List.map_cons, List.map_nil, Act.put, List.setIfInBounds_toArray, List.set_cons_succ, List.set_cons_zero]
    clear hf hD
    have D0 := C0.under hb5
    have Q5 := Q4.trans (hb5.mono Q4.size)
    clear C0 Q4 hb5 CG MKB
    generalize fv 37 = v37 at *
    refine (show wpList _ _ _ [] _ _ from ?_)
    refine wpList_nil ?_
    go_wp2_with (first | (refine wl_load rfl 22 (.tmp 3) rfl w.heap.size rfl (ints .u8 key) 32 5 Try.underlying22 (by rw [ints_size, LK.out]; exact t32_info) D0 ?_) | ((with_reducible refine wv_val (d := 43) ?hd ?hw (.agg (ints .u8 ZN)) ?hr ?_); (case hd => rfl); (case hw => kernel_rfl); (case hr => intro w; exact HN.out rfl w); simp only [Act.put, List.setIfInBounds_toArray, List.set_cons_succ, List.set_cons_zero]))
    refine (CO.out w5 (.slice none 0 0) 0 ⟨none, 0, rfl, Nat.le_refl _, fun h => absurd rfl h⟩ (by omega) (by omega)).mono ?_
    rintro e w6 ⟨v6, rfl, hb6⟩
    have Q6 := Q5.trans (hb6.mono Q5.size)
    clear Q5 hb6 D0 CO
    go_wp2_with (first | ((with_reducible refine wv_val (d := 53) ?hd ?hw (.int .u8 (l : Int)) ?hr ?_); (case hd => rfl); (case hw => kernel_rfl); (case hr => intro w; exact run_rem8c rfl (by kernel_rfl) El.out ha w); simp only [Act.put, List.setIfInBounds_toArray, List.set_cons_succ, List.set_cons_zero]) | ((with_reducible refine wv_val (d := 54) ?hd ?hw (.int .i64 (l : Int)) ?hr ?_); (case hd => rfl); (case hw => kernel_rfl); (case hr => intro w; exact run_conv83 rfl (by kernel_rfl) (by omega) w); simp only [Act.put, List.setIfInBounds_toArray, List.set_cons_succ, List.set_cons_zero]) | ((with_reducible refine wv_val (d := 55) ?hd ?hw (.int .i64 (l1 : Int)) ?hr ?_); (case hd => rfl); (case hw => kernel_rfl); (case hr => intro w; exact run_addZ 1 rfl (by kernel_rfl) El1.out (by omega) w); simp only [Act.put, List.setIfInBounds_toArray, List.set_cons_succ, List.set_cons_zero]) | ((with_reducible refine wv_val (d := 56) ?hd ?hw (.int .i64 (q : Int)) ?hr ?_); (case hd => rfl); (case hw => kernel_rfl); (case hr => intro w; exact run_mulC 64 rfl (by kernel_rfl) Eq.out (by omega) w); simp only [Act.put, List.setIfInBounds_toArray, List.set_cons_succ, List.set_cons_zero]) | ((with_reducible refine wv_val (d := 57) ?hd ?hw (.bool true) ?hr ?_); (case hd => rfl); (case hw => kernel_rfl); (case hr => intro w; exact run_leqI rfl (by kernel_rfl) (by kernel_rfl) hLE.out w); simp only [Act.put, List.setIfInBounds_toArray, List.set_cons_succ, List.set_cons_zero]))
    go_ret
    exact ⟨rfl, Q6⟩
  case neg =>
    have hLE : Kept (false = decide (m ≤ q)) := ⟨(decide_eq_false hE).symm⟩
    refine (CE.out w2 _ m V2.out (by omega) (by have := Eq.out; have := El1.out; have := Ec.out; omega)).mono ?_
    rintro e w4 ⟨rfl, hb4⟩
    have C0 := B2.under hb4
    have Q4 := Q2.trans (hb4.mono Q2.size)
    clear B2 Q2 V2 hb4 CE
    go_wp2_with fail
    refine region_ownL w4 9 [(35, .agg (ints .u8 key)), (36, .agg (ints .u8 ZN)), (38, .tuple #[.slice none 0 0, .int .i64 3]), (34, .tuple #[.slice none 0 0, .int .i64 3]), (39, .slice none 0 0), (40, .int .i64 3), (11, .slice none 0 0), (12, .int .i64 3)] [(37, Row w4.heap.size 5 .u8 BG)] [37] [] rfl (by kernel_rfl) (by kernel_rfl) (by kernel_rfl) (by kernel_rfl) (by kernel_rfl) (by kernel_rfl) (by kernel_rfl) (by kernel_rfl) (by kernel_rfl) (by kernel_rfl) (by kernel_rfl) ?hst1 ?hst2 (Below.refl _ _) (fun hA => ⟨ow_row hA (wants_none rfl) 35 (.agg (ints .u8 key)) (by kernel_rfl) rfl rfl rfl rfl (by kernel_rfl) 22 (.tmp 3) rfl (w.heap.size) (by kernel_rfl) 22 (ints .u8 key) 32 5 Try.underlying22 ((by rw [ints_size, LK.out]; exact t32_info)) (fun w1 hb => C0.under hb) rfl, ow_val hA (wants_none rfl) 36 (.agg (ints .u8 ZN)) (by kernel_rfl) rfl rfl rfl rfl (by kernel_rfl) (fun w => HN.out rfl w), ow_new (wants_none rfl) 37 rfl _ rfl (fun a w1 hs => MKB.out rfl w1 hs), ow_call (wants_none rfl) 38 9 Try.f9 _ [.tmp 35, .tmp 36, .const (.int .u32 0), .tmp 37] _ rfl rfl Try.func9 (by kernel_rfl) rfl (fun a w1 hF hb hgot => by rw [List.map_cons, List.map_cons, List.map_cons, List.map_cons, List.map_nil, gotE_det (v := .agg (ints .u8 key)) hA hgot (by kernel_rfl) rfl rfl (by kernel_rfl), gotE_det (v := .agg (ints .u8 ZN)) hA hgot (by kernel_rfl) rfl rfl (by kernel_rfl)]; exact (CG.out w1 _ (row_bytes (gotE_spec hgot (Row w4.heap.size 5 .u8 BG) (by kernel_rfl) rfl rfl).1)).mono fun e w2 hh => ⟨_, hh.1, rel_det hA rfl (by kernel_rfl), hh.2, fun h => by cases h⟩), ow_val hA (wants_none rfl) 34 (.tuple #[.slice none 0 0, .int .i64 3]) (by kernel_rfl) rfl rfl rfl rfl (by kernel_rfl) (fun w => by kernel_rfl), ow_val hA (wants_none rfl) 39 (.slice none 0 0) (by kernel_rfl) rfl rfl rfl rfl (by kernel_rfl) (fun w => by kernel_rfl), ow_val hA (wants_none rfl) 40 (.int .i64 3) (by kernel_rfl) rfl rfl rfl rfl (by kernel_rfl) (fun w => by kernel_rfl), ow_val hA (wants_none rfl) 11 (.slice none 0 0) (by kernel_rfl) rfl rfl rfl rfl (by kernel_rfl) (fun w => by kernel_rfl), ow_val hA (wants_none rfl) 12 (.int .i64 3) (by kernel_rfl) rfl rfl rfl rfl (by kernel_rfl) (fun w => by kernel_rfl), trivial⟩) ?_
    case hst1 =>
      intro q hq hO
      simp only [List.mem_cons, List.not_mem_nil, or_false] at hq
      subst hq
      cases hO
    case hst2 =>
      intro q hq hO v w3 w4 row h1 h2 h3 h4
      simp only [List.mem_cons, List.not_mem_nil, or_false] at hq
      subst hq
      exact Row.keeps h1 h2 h3
    intro fv w5 hf hD hb5
    simp only [putR, List.foldl_cons, List.foldl_nil, List.map_cons, List.map_nil, Act.put, List.setIfInBounds_toArray, List.set_cons_succ, List.set_cons_zero]
    clear hf hD
    have D0 := C0.under hb5
    have Q5 := Q4.trans (hb5.mono Q4.size)
    clear C0 Q4 hb5 CG MKB
    generalize fv 37 = v37 at *
    refine (show wpList _ _ _ [] _ _ from ?_)
    refine wpList_nil ?_
    go_wp2_with (first | (refine wl_load rfl 22 (.tmp 3) rfl w.heap.size rfl (ints .u8 key) 32 5 Try.underlying22 (by rw [ints_size, LK.out]; exact t32_info) D0 ?_) | ((with_reducible refine wv_val (d := 43) ?hd ?hw (.agg (ints .u8 ZN)) ?hr ?_); (case hd => rfl); (case hw => kernel_rfl); (case hr => intro w; exact HN.out rfl w); simp only [Act.put, List.setIfInBounds_toArray, List.set_cons_succ, List.set_cons_zero]))
    refine (CO.out w5 (.slice none 0 0) 0 ⟨none, 0, rfl, Nat.le_refl _, fun h => absurd rfl h⟩ (by omega) (by omega)).mono ?_
    rintro e w6 ⟨v6, rfl, hb6⟩
    have Q6 := Q5.trans (hb6.mono Q5.size)
    clear Q5 hb6 D0 CO
    go_wp2_with (first | ((with_reducible refine wv_val (d := 53) ?hd ?hw (.int .u8 (l : Int)) ?hr ?_); (case hd => rfl); (case hw => kernel_rfl); (case hr => intro w; exact run_rem8c rfl (by kernel_rfl) El.out ha w); simp only [Act.put, List.setIfInBounds_toArray, List.set_cons_succ, List.set_cons_zero]) | ((with_reducible refine wv_val (d := 54) ?hd ?hw (.int .i64 (l : Int)) ?hr ?_); (case hd => rfl); (case hw => kernel_rfl); (case hr => intro w; exact run_conv83 rfl (by kernel_rfl) (by omega) w); simp only [Act.put, List.setIfInBounds_toArray, List.set_cons_succ, List.set_cons_zero]) | ((with_reducible refine wv_val (d := 55) ?hd ?hw (.int .i64 (l1 : Int)) ?hr ?_); (case hd => rfl); (case hw => kernel_rfl); (case hr => intro w; exact run_addZ 1 rfl (by kernel_rfl) El1.out (by omega) w); simp only [Act.put, List.setIfInBounds_toArray, List.set_cons_succ, List.set_cons_zero]) | ((with_reducible refine wv_val (d := 56) ?hd ?hw (.int .i64 (q : Int)) ?hr ?_); (case hd => rfl); (case hw => kernel_rfl); (case hr => intro w; exact run_mulC 64 rfl (by kernel_rfl) Eq.out (by omega) w); simp only [Act.put, List.setIfInBounds_toArray, List.set_cons_succ, List.set_cons_zero]) | ((with_reducible refine wv_val (d := 57) ?hd ?hw (.bool false) ?hr ?_); (case hd => rfl); (case hw => kernel_rfl); (case hr => intro w; exact run_leqI rfl (by kernel_rfl) (by kernel_rfl) hLE.out w); simp only [Act.put, List.setIfInBounds_toArray, List.set_cons_succ, List.set_cons_zero]))
    go_ret
    exact ⟨rfl, Q6⟩
end Go.Proofs.Ythieljiplhhdeaa.sh
