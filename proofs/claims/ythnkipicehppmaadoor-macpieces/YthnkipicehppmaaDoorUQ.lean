/-
  What MacPieces answers.
-/
import Derived.Test.YthnkipicehppmaaDoorUT
namespace Go.Proofs.YthnkipicehppmaaDoor.sh
open Go Go.RowKit
set_option linter.unusedVariables false
set_option linter.unusedSimpArgs false

theorem cutTo_run8 {o : Oper} {a : Act} {x z : Operand} {p : Option Addr} {l c m : Nat} {t e : TypeId} (ho : o.op = .slice t x none (some z) none) (hx : a.eval x = .slice p l c) (hz : a.eval z = .int .u8 (m : Int)) (ht : Tryd.prog.underlying t = some (.slice e)) (sz : ∀ w, (sizeOf e).run Tryd.prog w = .ok 1 w) (hm : m ≤ c) (w : World) :
    (execOp a.eval o).run Tryd.prog w = .ok (.value (.slice p m c)) w := by
  have h2 : ((m : Int) ≤ (c : Int)) := by omega
  have h3 : ∀ q : Addr, q.add 0 = q := fun q => by simp [Addr.add]
  unfold execOp
  simp only [ho, hx, hz, Option.map_some, Option.map_none, Instr.sliceAt, Instr.slice, Instr.sliceBounds, Sem.run_bind, run_underlying ht, Result.andThen_ok]
  simp [Instr.sliceBound, asIntOf, sz, go_sem, h2]
  intro h
  omega
set_option maxRecDepth 100000 in
set_option maxHeartbeats 4000000 in
theorem pieces4_any (key : List Nat) (vi : Value) (info : List Nat) (z : Int) (w : World) (hk : key.length = 32) (hy : Bytes key) (hvi : BytesV vi w info) (hi : Bytes info) (hil : info.length ≤ maxLen) (hz : (Lit.int .u8 z).wf = true) (hr : RootsAt w) :
    Calls Tryd.prog 8 #[.agg (ints .u8 key), vi, .int .u8 z] w fun e w' => e = .returned (.bool true) ∧ Below w.heap.size w w' := by
  have hz8 := bounds_u8 hz
  obtain ⟨n, rfl⟩ := Int.eq_ofNat_of_zero_le hz8.1
  have n8 : n < 256 := by omega
  clear hz hz8 hil
  have KV : Kept _ := ⟨hvi⟩
  obtain ⟨pi, ci, ei, _, _⟩ := hvi
  obtain ⟨ni, hni⟩ : ∃ n, n = info.length := ⟨_, rfl⟩
  rw [← hni] at ei
  subst ei
  have ENI : Kept _ := ⟨hni⟩
  have KR : Kept _ := ⟨hr⟩
  have LK : Kept _ := ⟨hk⟩
  have YK : Kept _ := ⟨hy⟩
  have YI : Kept _ := ⟨hi⟩
  have h0 := hr.1
  have A0 : Blk (w.alloc (.cells (ints .u8 key) 24)) w.heap.size 24 (ints .u8 key) := blk_new w _ _
  have Q0 : Below w.heap.size w (w.alloc (.cells (ints .u8 key) 24)) := (Below.refl _ _).alloc (Nat.le_refl _) _
  clear hk hy hr hi hni
  go_enter Tryd.func8, Tryd.ntmps8
  go_wp2_with fail
  generalize hW : w.alloc (.cells (ints .u8 key) 24) = wa at *
  clear hW
  refine (alive4_any wa (KR.out.below h0 Q0)).mono ?_
  rintro e w1 ⟨rfl, hb1⟩
  have A1 := A0.under hb1
  have Q1 := Q0.trans (hb1.mono Q0.size)
  clear A0 Q0 hb1
  by_cases hb0 : ni ≤ 300
  case neg =>
    have hb0' : (300 : Int) < (ni : Int) := by omega
    go_wp2_with fail
    go_ret
    exact ⟨rfl, Q1⟩
  have hb0' : ¬ (300 : Int) < (ni : Int) := by omega
  have NI : Kept (info.length ≤ 300) := ⟨by rw [← ENI.out]; exact hb0⟩
  obtain ⟨X, hX⟩ : ∃ X, X = expL key info n := ⟨_, rfl⟩
  have EX : Kept _ := ⟨hX⟩
  have LX : Kept (X.length = n) := ⟨by rw [hX]; exact expL_len key info n (by omega)⟩
  have CE : Kept (Calls Tryd.prog 14 #[.agg (ints .u8 key), .slice pi ni ci, .int .i64 (n : Int)] w1 fun e w' => ∃ v, e = .returned (.tuple #[v, .int .i64 0]) ∧ Row w1.heap.size 5 .u8 X v w' ∧ Below w1.heap.size w1 w') := ⟨by rw [hX]; exact Expand_ok key info n _ w1 LK.out YK.out YI.out (by have := NI.out; omega) (by omega) (KR.out.below h0 Q1) (KV.out.under Q1)⟩
  clear hX
  go_wp2_with (first | ((with_reducible refine wv_row (d := 19) ?hd ?hw 24 (.tmp 3) ?ho (w.heap.size) ?hx (t' := 24) (ints .u8 key) _ _ Tryd.underlying24 ?hs ?hg ?_); (case hd => rfl); (case hw => kernel_rfl); (case ho => rfl); (case hx => kernel_rfl); (case hs => rw [ints_size, LK.out]; exact t32_info); (case hg => exact A1); simp only [Act.put, List.setIfInBounds_toArray, List.set_cons_succ, List.set_cons_zero]) | ((with_reducible refine wv_val (d := 22) ?hd ?hw (.int .i64 (n : Int)) ?hr ?_); (case hd => rfl); (case hw => kernel_rfl); (case hr => intro w; exact run_conv83 rfl (by kernel_rfl) n8 w); simp only [Act.put, List.setIfInBounds_toArray, List.set_cons_succ, List.set_cons_zero]))
  refine CE.out.mono ?_
  rintro e w3 ⟨v7, rfl, RX, hb3⟩
  have BX : Kept _ := ⟨row_bytes RX⟩
  obtain ⟨p7, c7, e7, _, _⟩ := row_cells RX
  rw [LX.out] at e7
  subst e7
  have A3 := A1.under hb3
  have Q3 := Q1.trans (hb3.mono Q1.size)
  have sz3 := A3.lt
  clear A1 Q1 hb3 CE RX
  go_wp2_with fail
  go_loopg [9, 10, 11] 256 (fun m s9 s10 s11 wr => ∃ k q : Nat, k + m = 256 ∧ s11 = .int .u8 (q : Int) ∧ Kept (k ≤ 255 ∧ q = (k + 1) % 256 ∧ Row w3.heap.size 5 .u8 (tsL key info k) s9 wr ∧ BytesV s10 wr (tL key info k) ∧ Below w3.heap.size w3 wr))
  case atStart => exact ⟨0, 1, by omega, rfl, ⟨by omega, rfl, row_nil _ _ _ _, ⟨none, 0, rfl, Nat.le_refl _, fun h => absurd rfl h⟩, Below.refl _ _⟩⟩
  case round =>
    obtain ⟨k, q, hkm, rfl, KQ⟩ := hrel
    obtain ⟨k255, hq, RW, BT', HB⟩ := KQ.out
    have EQ : Kept _ := ⟨hq⟩
    have K255 : Kept _ := ⟨k255⟩
    clear KQ hq
    obtain ⟨Y, hY⟩ : ∃ Y, Y = tsL key info k := ⟨_, rfl⟩
    have EY : Kept _ := ⟨hY⟩
    have LY : Y.length = 32 * k := by rw [hY]; exact tsL_len key info k
    rw [← hY] at RW
    have KW : Kept _ := ⟨RW⟩
    obtain ⟨p9, c9, e9, hc9, _⟩ := row_cells RW
    obtain ⟨n9, hn9⟩ : ∃ m, m = Y.length := ⟨_, rfl⟩
    rw [← hn9] at e9 hc9
    subst e9
    obtain ⟨T, hT⟩ : ∃ T, T = tL key info k := ⟨_, rfl⟩
    have ET : Kept _ := ⟨hT⟩
    rw [← hT] at BT'
    have KT : Kept _ := ⟨BT'⟩
    obtain ⟨p10, c10, e10, _, _⟩ := BT'
    obtain ⟨n10, hn10⟩ : ∃ m, m = T.length := ⟨_, rfl⟩
    rw [← hn10] at e10
    subst e10
    have LT : Kept (T.length ≤ 32) := ⟨by rw [hT]; exact tL_le key info k⟩
    have YT : Kept (Bytes T) := ⟨by rw [hT]; exact tL_bytes key info k⟩
    have E9 : Kept (n9 = 32 * k) := ⟨by rw [hn9, LY]⟩
    clear hY hT hn10 RW hn9 LY
    have QR := Q3.trans (HB.mono Q3.size)
    by_cases hlt : n9 < n
    case pos =>
      have hlt' : (n9 : Int) < (n : Int) := by omega
      have q256 : q < 256 := by have := EQ.out; omega
      obtain ⟨T1, hT1⟩ : ∃ T, T = tL key info (k + 1) := ⟨_, rfl⟩
      have ET1 : Kept _ := ⟨hT1⟩
      have LT1 : Kept (T1.length = 32) := ⟨by rw [hT1]; exact tL_len key info k⟩
      have VTT : Kept (∀ w', Below wr.heap.size wr w' → IntsV .u8 (.slice p10 n10 c10) w' T) := ⟨fun w' hb => KT.out.under hb⟩
      have VII : Kept (∀ w', Below wr.heap.size wr w' → IntsV .u8 (.slice pi ni ci) w' info) := ⟨fun w' hb => (KV.out.under QR).under hb⟩
      have LA : Kept (([] : List Nat).length + T.length ≤ 8796093022208) := ⟨by have := LT.out; simp; omega⟩
      have LB : Kept (([] ++ T).length + info.length ≤ 8796093022208) := ⟨by have := LT.out; have := NI.out; simp; omega⟩
      have LC : Kept ((([] ++ T) ++ info).length + [q].length ≤ 8796093022208) := ⟨by have := LT.out; have := NI.out; simp; omega⟩
      have CS : Kept (∀ w' v, Below wr.heap.size wr w' → Row wr.heap.size 5 .u8 ((([] ++ T) ++ info) ++ [q]) v w' → Calls Tryd.prog 12 #[.slice (some ⟨w.heap.size, 0, none⟩) 32 32, v] w' fun e w2 => e = .returned (.agg (ints .u8 T1)) ∧ Below w'.heap.size w' w2) := ⟨fun w' v hb hR => by
        have e : T1 = macL key ((([] ++ T) ++ info) ++ [q]) := by rw [hT1, tL_succ, ← ET.out, ← EQ.out]; simp
        rw [e]
        refine mSum_any key ((([] ++ T) ++ info) ++ [q]) _ _ w' YK.out (by rw [LK.out]; decide) ((YT.out.append YI.out).append (fun j x hx => ?_)) (by have := LT.out; have := NI.out; simp; omega) ((KR.out.below h0 QR).under hb) (((arr_bytes A3 LK.out).under HB).under hb) (row_bytes hR)
        rcases j with _ | j <;> simp at hx
        omega⟩
      clear hT1
      go_wp2_with (first | ((with_reducible refine wv_val (d := 31) ?hd ?hw (.int .i64 (n : Int)) ?hr ?_); (case hd => rfl); (case hw => kernel_rfl); (case hr => intro w; exact run_conv83 rfl (by kernel_rfl) n8 w); simp only [Act.put, List.setIfInBounds_toArray, List.set_cons_succ, List.set_cons_zero]))
      refine region_ownL wr 10 [(35, .slice (some ⟨w.heap.size, 0, none⟩) 32 32), (36, .slice p10 n10 c10), (38, .slice pi ni ci), (40, .int .u8 (q : Int)), (43, .agg (ints .u8 T1))] [(37, Row wr.heap.size 5 .u8 ([] ++ T)), (39, Row wr.heap.size 5 .u8 (([] ++ T) ++ info)), (41, Const 5 .u8 [q]), (42, Row wr.heap.size 5 .u8 ((([] ++ T) ++ info) ++ [q])), (12, PtrAt 24 #[.int .u8 0, .int .u8 0, .int .u8 0, .int .u8 0, .int .u8 0, .int .u8 0, .int .u8 0, .int .u8 0, .int .u8 0, .int .u8 0, .int .u8 0, .int .u8 0, .int .u8 0, .int .u8 0, .int .u8 0, .int .u8 0, .int .u8 0, .int .u8 0, .int .u8 0, .int .u8 0, .int .u8 0, .int .u8 0, .int .u8 0, .int .u8 0, .int .u8 0, .int .u8 0, .int .u8 0, .int .u8 0, .int .u8 0, .int .u8 0, .int .u8 0, .int .u8 0])] [37, 39, 41, 42, 12] [(4, 37), (7, 39)] rfl (by kernel_rfl) (by kernel_rfl) (by kernel_rfl) (by kernel_rfl) (by kernel_rfl) (by kernel_rfl) (by kernel_rfl) (by kernel_rfl) (by kernel_rfl) (by kernel_rfl) (by kernel_rfl) ?hst1 ?hst2 (Below.refl _ _) (fun hA => ⟨ow_val hA (wants_none rfl) 35 (.slice (some ⟨w.heap.size, 0, none⟩) 32 32) (by kernel_rfl) rfl rfl rfl rfl (by kernel_rfl) (fun w => by kernel_rfl), ow_val hA (wants_none rfl) 36 (.slice p10 n10 c10) (by kernel_rfl) rfl rfl rfl rfl (by kernel_rfl) (fun w => by kernel_rfl), ow_app (wants_none rfl) 37 rfl (.const (.slice none 0 0)) (.tmp 36) 22 5 .u8 1 rfl Tryd.underlying22 inf_u8 (by decide) ([]) (T) LA.out rfl (fun a w1 hF hb hgot => ⟨row_nil _ _ _ _, by rw [gotE_det (v := .slice p10 n10 c10) hA hgot (by kernel_rfl) rfl rfl (by kernel_rfl)]; exact VTT.out w1 hb, fun b hb => by cases hb⟩), ow_val hA (wants_none rfl) 38 (.slice pi ni ci) (by kernel_rfl) rfl rfl rfl rfl (by kernel_rfl) (fun w => by kernel_rfl), ow_app (wants_none rfl) 39 rfl (.tmp 37) (.tmp 38) 22 5 .u8 1 rfl Tryd.underlying22 inf_u8 (by decide) ([] ++ T) (info) LB.out rfl (fun a w1 hF hb hgot => ⟨(gotE_spec hgot (Row wr.heap.size 5 .u8 ([] ++ T)) (by kernel_rfl) rfl rfl).1, by rw [gotE_det (v := .slice pi ni ci) hA hgot (by kernel_rfl) rfl rfl (by kernel_rfl)]; exact VII.out w1 hb, fun b hb => ⟨37, by decide, by rw [(gotE_spec hgot (Row wr.heap.size 5 .u8 ([] ++ T)) (by kernel_rfl) rfl rfl).2.1]; exact hb⟩⟩), ow_val hA (wants_none rfl) 40 (.int .u8 (q : Int)) (by kernel_rfl) rfl rfl rfl rfl (by kernel_rfl) (fun w => by kernel_rfl), ow_byte hA (wants_none rfl) 41 40 q rfl rfl (by kernel_rfl) (by kernel_rfl) rfl rfl rfl, ow_app (wants_none rfl) 42 rfl (.tmp 39) (.tmp 41) 22 5 .u8 1 rfl Tryd.underlying22 inf_u8 (by decide) (([] ++ T) ++ info) ([q]) LC.out rfl (fun a w1 hF hb hgot => ⟨(gotE_spec hgot (Row wr.heap.size 5 .u8 (([] ++ T) ++ info)) (by kernel_rfl) rfl rfl).1, (gotE_spec hgot (Const 5 .u8 [q]) (by kernel_rfl) rfl rfl).1.ints, fun b hb => ⟨39, by decide, by rw [(gotE_spec hgot (Row wr.heap.size 5 .u8 (([] ++ T) ++ info)) (by kernel_rfl) rfl rfl).2.1]; exact hb⟩⟩), ow_call (wants_none rfl) 43 12 Tryd.f12 _ [.tmp 35, .tmp 42] _ rfl rfl Tryd.func12 (by kernel_rfl) rfl (fun a w1 hF hb hgot => by rw [List.map_cons, List.map_cons, List.map_nil, gotE_det (v := .slice (some ⟨w.heap.size, 0, none⟩) 32 32) hA hgot (by kernel_rfl) rfl rfl (by kernel_rfl)]; exact (CS.out w1 _ hb (gotE_spec hgot (Row wr.heap.size 5 .u8 ((([] ++ T) ++ info) ++ [q])) (by kernel_rfl) rfl rfl).1).mono fun e w2 hh => ⟨_, hh.1, rel_det hA rfl (by kernel_rfl), hh.2, fun h => by cases h⟩), ow_new (wants_none rfl) 12 rfl (PtrAt 24 #[.int .u8 0, .int .u8 0, .int .u8 0, .int .u8 0, .int .u8 0, .int .u8 0, .int .u8 0, .int .u8 0, .int .u8 0, .int .u8 0, .int .u8 0, .int .u8 0, .int .u8 0, .int .u8 0, .int .u8 0, .int .u8 0, .int .u8 0, .int .u8 0, .int .u8 0, .int .u8 0, .int .u8 0, .int .u8 0, .int .u8 0, .int .u8 0, .int .u8 0, .int .u8 0, .int .u8 0, .int .u8 0, .int .u8 0, .int .u8 0, .int .u8 0, .int .u8 0]) rfl (fun a w _ => ⟨_, _, by kernel_rfl, ⟨w.heap.size, rfl, heap_new w _⟩, (Below.refl _ _).alloc (Nat.le_refl _) _, fun b hb => by cases hb; exact ⟨Nat.le_refl _, by simp⟩⟩), trivial⟩) ?_
      case hst1 =>
        intro q hq hO
        simp only [List.mem_cons, List.not_mem_nil, or_false] at hq
        rcases hq with rfl | rfl | rfl | rfl | rfl <;> cases hO
      case hst2 =>
        intro q hq hO v w3 w4 row h1 h2 h3 h4
        simp only [List.mem_cons, List.not_mem_nil, or_false] at hq
        rcases hq with rfl | rfl | rfl | rfl | rfl
        · exact Row.keeps h1 h2 h3
        · exact Row.keeps h1 h2 h3
        · exact Const.keeps h1 h2 h3
        · exact Row.keeps h1 h2 h3
        · exact PtrAt.keeps h1 h2 h3
      intro fv w7 hf hD hb7
      obtain ⟨g12, e12, A12⟩ := (hf 12 _ rfl rfl).1
      have r12 := (hf 12 _ rfl rfl).2 rfl g12 (by rw [e12]; rfl)
      simp only [putR, List.foldl_cons, List.foldl_nil, List.map_cons, List.map_nil, Act.put, List.setIfInBounds_toArray, List.set_cons_succ, List.set_cons_zero]
      rw [e12]
      clear hf hD e12 CS LA LB LC VTT VII
      refine wl_store rfl 24 (.tmp 12) (.tmp 43) rfl g12 (ints .u8 T1) (by kernel_rfl) (by kernel_rfl) _ A12 (by rw [ints_size, LT1.out]; exact t32_info) (by rw [ints_size, LT1.out]; rfl) (ints_one _ _) ?_
      intro w8 A8 P8
      have hb8 : Below wr.heap.size wr w8 := hb7.trans (P8.below r12.1)
      have V8 : Kept (IntsV .u8 (.slice (some ⟨g12, 0, none⟩) 32 32) w8 T1) := ⟨arr_bytes A8 LT1.out⟩
      have L8 : Kept (([] : List Nat).length + T1.length ≤ 8796093022208) := ⟨by rw [LT1.out]; decide⟩
      clear A12 P8 hb7 r12 A8
      go_wp2_with (first | (refine wl_app (by kernel_rfl) (.const (.slice none 0 0)) (.tmp 44) 22 5 .u8 1 (show _ = _ from rfl) Tryd.underlying22 inf_u8 (by decide) w8.heap.size [] T1 _ _ rfl rfl (row_nil _ _ _ _) V8.out L8.out (Nat.le_refl _) ?_))
      intro v10 w9 R10 G10 B10
      have R10 : Row w8.heap.size 5 .u8 T1 v10 w9 := R10
      have hb9 : Below w8.heap.size w8 w9 := grown_below0 G10 (Nat.le_refl _) (fun b hb => by cases hb)
      have K10 : Kept _ := ⟨R10⟩
      obtain ⟨p11, c11, e11, _, _⟩ := row_cells R10
      rw [LT1.out] at e11
      subst e11
      have hb89 : Below wr.heap.size wr w9 := hb8.trans (hb9.mono hb8.size)
      have RW9 := KW.out.under hb89
      have V10 : Kept _ := ⟨row_cells R10⟩
      have L9 : Kept (Y.length + T1.length ≤ 8796093022208) := ⟨by rw [EY.out, tsL_len, LT1.out]; have := K255.out; omega⟩
      have hbs : w3.heap.size ≤ w9.heap.size := Nat.le_trans HB.size hb89.size
      have b9 : Kept (∀ b, blkOf (.slice p9 n9 c9) = some b → w3.heap.size ≤ b ∧ b < wr.heap.size) := ⟨KW.out.range⟩
      have s8 : Kept (wr.heap.size ≤ w8.heap.size) := ⟨hb8.size⟩
      clear V8 L8 G10 B10 R10 hb8 hb9
      go_wp2_with (first | (refine wl_app (by kernel_rfl) (.tmp 46) (.tmp 47) 22 5 .u8 1 (show _ = _ from rfl) Tryd.underlying22 inf_u8 (by decide) w3.heap.size Y T1 _ _ rfl rfl RW9 V10.out L9.out hbs ?_))
      intro v9 wA RA9 GA BA
      have RA9 : Row w3.heap.size 5 .u8 (tsL key info (k + 1)) v9 wA := by rw [tsL_succ, ← EY.out, ← ET1.out]; exact RA9
      have VA : BytesV (.slice p11 32 c11) wA (tL key info (k + 1)) := by
        rw [← ET1.out]
        exact V10.out.keeps GA (by
          cases hb : blkOf (.slice p11 32 c11) with
          | none => exact .inl rfl
          | some b => exact .inr fun e => by have h1 := (K10.out.range b hb).1; have h2 := (b9.out b e.symm).2; have := s8.out; omega)
      have HBA : Below w3.heap.size w3 wA := (HB.trans (hb89.mono HB.size)).trans (grown_below0 GA hbs (fun b hb => (b9.out b hb).1))
      obtain ⟨z, hz⟩ : ∃ z, z = (q + 1) % 256 := ⟨_, rfl⟩
      have Ez : Kept _ := ⟨hz⟩
      have k254 : Kept (k + 1 ≤ 255) := ⟨by have := E9.out; omega⟩
      clear RW9 V10 L9 GA BA hz b9 hb89 hbs K10 HB s8
      go_wp2_with (first | ((with_reducible refine wv_val (d := 34) ?hd ?hw (.int .u8 (z : Int)) ?hr ?_); (case hd => rfl); (case hw => kernel_rfl); (case hr => intro w; exact run_inc8 rfl (by kernel_rfl) Ez.out w); simp only [Act.put, List.setIfInBounds_toArray, List.set_cons_succ, List.set_cons_zero]))
      go_roundg (gk - 1)
      case measure => have := k254.out; omega
      case rel => exact ⟨k + 1, z, by have := k254.out; omega, by rfl, ⟨k254.out, by have := Ez.out; have := EQ.out; omega, RA9, VA, HBA⟩⟩
    case neg =>
      have hlt' : ¬ (n9 : Int) < (n : Int) := by omega
      have nc9 : n ≤ c9 := by omega
      have VX : Kept (∀ w', Below wr.heap.size wr w' → IntsV .u8 (.slice p7 n c7) w' X) := ⟨fun w' hb => (BX.out.under HB).under hb⟩
      have VY : Kept (∀ w', Below wr.heap.size wr w' → IntsV .u8 (.slice p9 n c9) w' X) := ⟨fun w' hb => by
        have h := IntsV.take (m := n) (row_cells KW.out) (by rw [EY.out, tsL_len, ← E9.out]; omega)
        rw [EY.out, expL_of key info k n K255.out (by have := E9.out; omega), ← EX.out] at h
        exact BytesV.under h hb⟩
      obtain ⟨S1, hS1⟩ : ∃ S, S = strOf X := ⟨_, rfl⟩
      have ES : Kept (Value.string S1 = .string (strOf X)) := ⟨by rw [hS1]⟩
      clear hS1
      go_wp2_with (first | ((with_reducible refine wv_val (d := 31) ?hd ?hw (.int .i64 (n : Int)) ?hr ?_); (case hd => rfl); (case hw => kernel_rfl); (case hr => intro w; exact run_conv83 rfl (by kernel_rfl) n8 w); simp only [Act.put, List.setIfInBounds_toArray, List.set_cons_succ, List.set_cons_zero]))
      refine region_ownL wr 7 [(49, .slice p7 n c7), (50, .string S1), (51, .slice p9 n9 c9), (52, .int .u8 (n : Int)), (53, .slice p9 n c9), (54, .string S1), (55, .bool true)] [] [] [] rfl (by kernel_rfl) (by kernel_rfl) (by kernel_rfl) (by kernel_rfl) (by kernel_rfl) (by kernel_rfl) (by kernel_rfl) (by kernel_rfl) (by kernel_rfl) (by kernel_rfl) (by kernel_rfl) ?hst1 ?hst2 (Below.refl _ _) (fun hA => ⟨ow_val hA (wants_none rfl) 49 (.slice p7 n c7) (by kernel_rfl) rfl rfl rfl rfl (by kernel_rfl) (fun w => by kernel_rfl), ow_str hA (wants_none rfl) 50 (.string S1) (by kernel_rfl) rfl rfl rfl rfl (by kernel_rfl) (.tmp 49) rfl _ (by kernel_rfl) X (fun w1 hb => VX.out w1 hb) ES.out, ow_val hA (wants_none rfl) 51 (.slice p9 n9 c9) (by kernel_rfl) rfl rfl rfl rfl (by kernel_rfl) (fun w => by kernel_rfl), ow_val hA (wants_none rfl) 52 (.int .u8 (n : Int)) (by kernel_rfl) rfl rfl rfl rfl (by kernel_rfl) (fun w => by kernel_rfl), ow_val hA (wants_none rfl) 53 (.slice p9 n c9) (by kernel_rfl) rfl rfl rfl rfl (by kernel_rfl) (fun w => cutTo_run8 (l := n9) rfl (by kernel_rfl) (by kernel_rfl) Tryd.underlying22 sz_u8 nc9 w), ow_str hA (wants_none rfl) 54 (.string S1) (by kernel_rfl) rfl rfl rfl rfl (by kernel_rfl) (.tmp 53) rfl _ (by kernel_rfl) X (fun w1 hb => VY.out w1 hb) ES.out, ow_val hA (wants_none rfl) 55 (.bool true) (by kernel_rfl) rfl rfl rfl rfl (by kernel_rfl) (fun w => run_eql_str (s := S1) rfl (by kernel_rfl) (by kernel_rfl) w), trivial⟩) ?_
      case hst1 => intro q hq; cases hq
      case hst2 => intro q hq; cases hq
      intro fv2 w9 hf hD hb9
      simp only [putR, List.foldl_cons, List.foldl_nil, List.map_cons, List.map_nil, Act.put, List.setIfInBounds_toArray, List.set_cons_succ, List.set_cons_zero]
      clear hf hD VX VY
      go_wp2
      go_ret
      exact ⟨rfl, QR.trans (hb9.mono QR.size)⟩
end Go.Proofs.YthnkipicehppmaaDoor.sh
