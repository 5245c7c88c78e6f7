/-
  The reference's Expand.
-/
import Derived.Test.YthnkipicehppmaaDoorUL
import Derived.Test.YthnkipicehppmaaDoorUT
import Derived.Test.YthnkipicehppmaaDoorSHG
namespace Go.Proofs.YthnkipicehppmaaDoor.sh
open Go Go.RowKit
set_option linter.unusedVariables false
set_option linter.unusedSimpArgs false

set_option maxRecDepth 100000 in
set_option maxHeartbeats 1000000 in
theorem rExpand_bad (C : Array Value) (z : Int) (vi : Value) (w : World) (hz : z < 0 ∨ 8160 < z) :
    Calls Tryd.prog 15 #[.agg C, vi, .int .i64 z] w fun e w' => e = .returned (.tuple #[.slice none 0 0, .int .i64 2]) ∧ Below w.heap.size w w' := by
  have Q0 : Below w.heap.size w (w.alloc (.cells C 24)) := (Below.refl _ _).alloc (Nat.le_refl _) _
  rcases hz with h | h
  · go_enter Tryd.func15, Tryd.ntmps15
    go_wp2_with fail
    go_ret2
    exact ⟨rfl, Q0⟩
  · have h0 : ¬ z < 0 := by omega
    go_enter Tryd.func15, Tryd.ntmps15
    go_wp2_with fail
    go_ret2
    exact ⟨rfl, Q0⟩
set_option maxRecDepth 100000 in
set_option maxHeartbeats 4000000 in
theorem rExpand_ok (key info : List Nat) (n : Nat) (vi : Value) (w : World) (hk : key.length = 32) (hy : Bytes key) (hi : Bytes info) (hin : info.length ≤ 800) (hn : n ≤ 8160) (hvi : BytesV vi w info) :
    Calls Tryd.prog 15 #[.agg (ints .u8 key), vi, .int .i64 (n : Int)] w fun e w' => ∃ v, e = .returned (.tuple #[v, .int .i64 0]) ∧ IntsV .u8 v w' (expL key info n) ∧ Below w.heap.size w w' := by
  have KV : Kept _ := ⟨hvi⟩
  obtain ⟨pi, ci, ei, _, _⟩ := hvi
  obtain ⟨ni, hni⟩ : ∃ n, n = info.length := ⟨_, rfl⟩
  rw [← hni] at ei
  subst ei
  have LK : Kept _ := ⟨hk⟩
  have YK : Kept _ := ⟨hy⟩
  have YI : Kept _ := ⟨hi⟩
  have NI : Kept _ := ⟨hin⟩
  have A0 : Blk (w.alloc (.cells (ints .u8 key) 24)) w.heap.size 24 (ints .u8 key) := blk_new w _ _
  have Q0 : Below w.heap.size w (w.alloc (.cells (ints .u8 key) 24)) := (Below.refl _ _).alloc (Nat.le_refl _) _
  have hn0 : ¬ (n : Int) < 0 := by omega
  have hn1 : ¬ (8160 : Int) < (n : Int) := by omega
  clear hk hy hi hin hni
  go_enter Tryd.func15, Tryd.ntmps15
  go_wp2_with fail
  generalize hW : w.alloc (.cells (ints .u8 key) 24) = wa at *
  clear hW
  go_loopg [8, 9, 10] 256 (fun m s8 s9 s10 wr => ∃ k k1 : Nat, k + m = 256 ∧ s10 = .int .i64 (k1 : Int) ∧ Kept (k ≤ 255 ∧ k1 = k + 1 ∧ Row wa.heap.size 5 .u8 (tsL key info k) s8 wr ∧ BytesV s9 wr (tL key info k) ∧ Below wa.heap.size wa wr))
  case atStart => exact ⟨0, 1, by omega, rfl, ⟨by omega, rfl, row_nil _ _ _ _, ⟨none, 0, rfl, Nat.le_refl _, fun h => absurd rfl h⟩, Below.refl _ _⟩⟩
  case round =>
    obtain ⟨k, k1, hkm, rfl, KQ⟩ := hrel
    obtain ⟨k255, hk1, RW, BT', HB⟩ := KQ.out
    have K255 : Kept _ := ⟨k255⟩
    have EK1 : Kept _ := ⟨hk1⟩
    clear KQ
    obtain ⟨Y, hY⟩ : ∃ Y, Y = tsL key info k := ⟨_, rfl⟩
    have EY : Kept _ := ⟨hY⟩
    have LY : Y.length = 32 * k := by rw [hY]; exact tsL_len key info k
    rw [← hY] at RW
    have KW : Kept _ := ⟨RW⟩
    obtain ⟨p8, c8, e8, hc8, _⟩ := row_cells RW
    obtain ⟨n8, hn8⟩ : ∃ m, m = Y.length := ⟨_, rfl⟩
    rw [← hn8] at e8 hc8
    subst e8
    obtain ⟨T, hT⟩ : ∃ T, T = tL key info k := ⟨_, rfl⟩
    have ET : Kept _ := ⟨hT⟩
    rw [← hT] at BT'
    have KT : Kept _ := ⟨BT'⟩
    obtain ⟨p9, c9, e9, _, _⟩ := BT'
    obtain ⟨n9, hn9⟩ : ∃ m, m = T.length := ⟨_, rfl⟩
    rw [← hn9] at e9
    subst e9
    have LT : Kept (T.length ≤ 32) := ⟨by rw [hT]; exact tL_le key info k⟩
    have YT : Kept (Bytes T) := ⟨by rw [hT]; exact tL_bytes key info k⟩
    have E8 : Kept (n8 = 32 * k) := ⟨by rw [hn8, LY]⟩
    clear hY hT hn9 RW hn8 LY hk1
    have QR := Q0.trans (HB.mono Q0.size)
    by_cases hlt : n8 < n
    case pos =>
      have hlt' : (n8 : Int) < (n : Int) := by omega
      obtain ⟨q, hq⟩ : ∃ q, q = k1 % 256 := ⟨_, rfl⟩
      have Eq : Kept _ := ⟨hq⟩
      have q256 : q < 256 := by omega
      obtain ⟨T1, hT1⟩ : ∃ T, T = tL key info (k + 1) := ⟨_, rfl⟩
      have ET1 : Kept _ := ⟨hT1⟩
      have LT1 : Kept (T1.length = 32) := ⟨by rw [hT1]; exact tL_len key info k⟩
      have MT : Kept (T1 = macL key ((T ++ info) ++ [q])) := ⟨by rw [hT1, tL_succ, ← ET.out, hq, EK1.out]; simp⟩
      have QA : Below wr.heap.size wr (wr.alloc (.cells #[] 5)) := (Below.refl _ _).alloc (Nat.le_refl _) _
      have RA : Row wr.heap.size 5 .u8 [] (.slice (some ⟨wr.heap.size, 0, none⟩) 0 0) (wr.alloc (.cells #[] 5)) := row_empty wr (Nat.le_refl _)
      have VT : Kept (IntsV .u8 (.slice p9 n9 c9) (wr.alloc (.cells #[] 5)) T) := ⟨KT.out.under QA⟩
      have LA : Kept (([] : List Nat).length + T.length ≤ 8796093022208) := ⟨by have := LT.out; simp; omega⟩
      have hbA := QA.size
      clear hq hT1
      go_wp2_with (first | (refine wl_app (by kernel_rfl) (.tmp 25) (.tmp 26) 22 5 .u8 1 (show _ = _ from rfl) Tryd.underlying22 inf_u8 (by decide) wr.heap.size [] T _ _ rfl rfl RA VT.out LA.out hbA ?_))
      intro v27 w4 R4 G4 B4
      have R4 : Row wr.heap.size 5 .u8 T v27 w4 := R4
      have HB4 : Below wr.heap.size wr w4 := QA.trans (grown_below0 G4 hbA (fun b hb => by cases hb; exact Nat.le_refl _))
      have VI4 : Kept (IntsV .u8 (.slice pi ni ci) w4 info) := ⟨(KV.out.under QR).under HB4⟩
      have LB : Kept (T.length + info.length ≤ 8796093022208) := ⟨by have := LT.out; have := NI.out; omega⟩
      have hb4 := HB4.size
      have r4 : Kept (∀ b, blkOf v27 = some b → wr.heap.size ≤ b) := ⟨fun b hb => (R4.range b hb).1⟩
      clear QA RA VT LA hbA G4 B4
      go_wp2_with (first | (refine wl_app (by kernel_rfl) (.tmp 28) (.tmp 29) 22 5 .u8 1 (show _ = _ from rfl) Tryd.underlying22 inf_u8 (by decide) wr.heap.size T info _ _ rfl rfl R4 VI4.out LB.out hb4 ?_))
      intro v11 w5 R5 G5 B5
      have HB5 : Below wr.heap.size wr w5 := HB4.trans (grown_below0 G5 hb4 r4.out)
      have KR5 : Kept _ := ⟨R5⟩
      have LC : Kept ((T ++ info).length + [q].length ≤ 8796093022208) := ⟨by have := LT.out; have := NI.out; simp; omega⟩
      have CS : Kept (∀ w' v, Below wr.heap.size wr w' → Row wr.heap.size 5 .u8 ((T ++ info) ++ [q]) v w' → Calls Tryd.prog 11 #[.slice (some ⟨w.heap.size, 0, none⟩) 32 32, v] w' fun e w2 => e = .returned (.agg (ints .u8 T1)) ∧ Below w'.heap.size w' w2) := ⟨fun w' v hb hR => by
        rw [MT.out]
        refine rmSum_any key ((T ++ info) ++ [q]) _ _ w' YK.out (by rw [LK.out]; decide) ((YT.out.append YI.out).append (fun j x hx => ?_)) (by have := LT.out; have := NI.out; simp; omega) (((arr_bytes A0 LK.out).under HB).under hb) (row_bytes hR)
        rcases j with _ | j <;> simp at hx
        omega⟩
      clear R4 VI4 LB hb4 r4 G5 B5 HB4 R5
      go_wp2_with fail
      refine region_ownGL wr 8 [(31, .slice (some ⟨w.heap.size, 0, none⟩) 32 32), (33, .int .i64 (k1 : Int)), (34, .int .u8 (q : Int)), (37, .agg (ints .u8 T1))] [(32, Row wr.heap.size 5 .u8 (T ++ info)), (35, Const 5 .u8 [q]), (36, Row wr.heap.size 5 .u8 ((T ++ info) ++ [q])), (12, PtrAt 24 #[.int .u8 0, .int .u8 0, .int .u8 0, .int .u8 0, .int .u8 0, .int .u8 0, .int .u8 0, .int .u8 0, .int .u8 0, .int .u8 0, .int .u8 0, .int .u8 0, .int .u8 0, .int .u8 0, .int .u8 0, .int .u8 0, .int .u8 0, .int .u8 0, .int .u8 0, .int .u8 0, .int .u8 0, .int .u8 0, .int .u8 0, .int .u8 0, .int .u8 0, .int .u8 0, .int .u8 0, .int .u8 0, .int .u8 0, .int .u8 0, .int .u8 0, .int .u8 0])] [11, 32, 35, 36, 12] [(1, 11), (5, 32)] [] [(11, Row wr.heap.size 5 .u8 (T ++ info))] rfl (by kernel_rfl) (by kernel_rfl) (by kernel_rfl) (by kernel_rfl) (by kernel_rfl) (by kernel_rfl) (by kernel_rfl) (by kernel_rfl) (by kernel_rfl) (by kernel_rfl) (by kernel_rfl) (by kernel_rfl) (by kernel_rfl) (by kernel_rfl) (by kernel_rfl) (by kernel_rfl) ?hG1 ?hG2 (by kernel_rfl) ?hst1 ?hst2 ?hst3 HB5 (fun hA => ⟨.inl (OwnOk.toG (ow_val hA (wants_none rfl) 31 (.slice (some ⟨w.heap.size, 0, none⟩) 32 32) (by kernel_rfl) rfl rfl rfl rfl (by kernel_rfl) (fun w => by kernel_rfl))), .inl (og_take rfl 32 11 rfl rfl _ rfl rfl (by simp) rfl (by decide)), .inl (OwnOk.toG (ow_val hA (wants_none rfl) 33 (.int .i64 (k1 : Int)) (by kernel_rfl) rfl rfl rfl rfl (by kernel_rfl) (fun w => by kernel_rfl))), .inl (OwnOk.toG (ow_val hA (wants_none rfl) 34 (.int .u8 (q : Int)) (by kernel_rfl) rfl rfl rfl rfl (by kernel_rfl) (fun w => run_conv38 rfl (by kernel_rfl) Eq.out w))), .inl (OwnOk.toG (ow_byte hA (wants_none rfl) 35 34 q rfl rfl (by kernel_rfl) (by kernel_rfl) rfl rfl rfl)), .inl (OwnOk.toG (ow_app (wants_none rfl) 36 rfl (.tmp 32) (.tmp 35) 22 5 .u8 1 rfl Tryd.underlying22 inf_u8 (by decide) (T ++ info) ([q]) LC.out rfl (fun a w1 hF hb hgot => ⟨(gotE_spec hgot (Row wr.heap.size 5 .u8 (T ++ info)) (by kernel_rfl) rfl rfl).1, (gotE_spec hgot (Const 5 .u8 [q]) (by kernel_rfl) rfl rfl).1.ints, fun b hb => ⟨32, by decide, by rw [(gotE_spec hgot (Row wr.heap.size 5 .u8 (T ++ info)) (by kernel_rfl) rfl rfl).2.1]; exact hb⟩⟩))), .inl (OwnOk.toG (ow_call (wants_none rfl) 37 11 Tryd.f11 _ [.tmp 31, .tmp 36] _ rfl rfl Tryd.func11 (by kernel_rfl) rfl (fun a w1 hF hb hgot => by rw [List.map_cons, List.map_cons, List.map_nil, gotE_det (v := .slice (some ⟨w.heap.size, 0, none⟩) 32 32) hA hgot (by kernel_rfl) rfl rfl (by kernel_rfl)]; exact (CS.out w1 _ hb (gotE_spec hgot (Row wr.heap.size 5 .u8 ((T ++ info) ++ [q])) (by kernel_rfl) rfl rfl).1).mono fun e w2 hh => ⟨_, hh.1, rel_det hA rfl (by kernel_rfl), hh.2, fun h => by cases h⟩))), .inl (OwnOk.toG (ow_new (wants_none rfl) 12 rfl (PtrAt 24 #[.int .u8 0, .int .u8 0, .int .u8 0, .int .u8 0, .int .u8 0, .int .u8 0, .int .u8 0, .int .u8 0, .int .u8 0, .int .u8 0, .int .u8 0, .int .u8 0, .int .u8 0, .int .u8 0, .int .u8 0, .int .u8 0, .int .u8 0, .int .u8 0, .int .u8 0, .int .u8 0, .int .u8 0, .int .u8 0, .int .u8 0, .int .u8 0, .int .u8 0, .int .u8 0, .int .u8 0, .int .u8 0, .int .u8 0, .int .u8 0, .int .u8 0, .int .u8 0]) rfl (fun a w _ => ⟨_, _, by kernel_rfl, ⟨w.heap.size, rfl, heap_new w _⟩, (Below.refl _ _).alloc (Nat.le_refl _) _, fun b hb => by cases hb; exact ⟨Nat.le_refl _, by simp⟩⟩))), trivial⟩) ?_
      case hG1 =>
        intro q hq
        simp only [List.mem_cons, List.not_mem_nil, or_false] at hq
        subst hq
        exact ⟨_, by kernel_rfl, KR5.out, KR5.out.range⟩
      case hG2 =>
        intro d hd d' hd' hne
        simp only [List.map_cons, List.map_nil, List.mem_cons, List.not_mem_nil, or_false] at hd hd'
        omega
      case hst1 =>
        intro q hq hO
        simp only [List.cons_append, List.nil_append, List.mem_cons, List.not_mem_nil, or_false] at hq
        rcases hq with rfl | rfl | rfl | rfl | rfl <;> cases hO
      case hst2 =>
        intro q hq hO v w3 w4 row h1 h2 h3 h4
        simp only [List.cons_append, List.nil_append, List.mem_cons, List.not_mem_nil, or_false] at hq
        rcases hq with rfl | rfl | rfl | rfl | rfl
        · exact Row.keeps h1 h2 h3
        · exact Const.keeps h1 h2 h3
        · exact Row.keeps h1 h2 h3
        · exact PtrAt.keeps h1 h2 h3
        · exact Row.keeps h1 h2 h3
      case hst3 => intro q hq; cases hq
      intro fv w7 hf hD hSt hb7
      obtain ⟨g12, e12, A12⟩ := (hf 12 _ rfl rfl).1
      have r12 := (hf 12 _ rfl rfl).2 rfl g12 (by rw [e12]; rfl)
      simp only [putR, List.foldl_cons, List.foldl_nil, List.map_cons, List.map_nil, Act.put, List.setIfInBounds_toArray, List.set_cons_succ, List.set_cons_zero]
      rw [e12]
      clear hf hD e12 CS LC KR5 hSt HB5
      refine wl_store rfl 24 (.tmp 12) (.tmp 37) rfl g12 (ints .u8 T1) (by kernel_rfl) (by kernel_rfl) _ A12 (by rw [ints_size, LT1.out]; exact t32_info) (by rw [ints_size, LT1.out]; rfl) (ints_one _ _) ?_
      intro w8 A8 P8
      have hb8 : Below wr.heap.size wr w8 := hb7.trans (P8.below r12.1)
      have QA : Below w8.heap.size w8 (w8.alloc (.cells #[] 5)) := (Below.refl _ _).alloc (Nat.le_refl _) _
      have RA : Row w8.heap.size 5 .u8 [] (.slice (some ⟨w8.heap.size, 0, none⟩) 0 0) (w8.alloc (.cells #[] 5)) := row_empty w8 (Nat.le_refl _)
      have V8 : Kept (IntsV .u8 (.slice (some ⟨g12, 0, none⟩) 32 32) (w8.alloc (.cells #[] 5)) T1) := ⟨arr_bytes (A8.alloc _) LT1.out⟩
      have L8 : Kept (([] : List Nat).length + T1.length ≤ 8796093022208) := ⟨by rw [LT1.out]; decide⟩
      have hbA := QA.size
      clear A12 P8 hb7 r12 A8
      go_wp2_with (first | (refine wl_app (by kernel_rfl) (.tmp 38) (.tmp 39) 22 5 .u8 1 (show _ = _ from rfl) Tryd.underlying22 inf_u8 (by decide) w8.heap.size [] T1 _ _ rfl rfl RA V8.out L8.out hbA ?_))
      intro v10 w9 R10 G10 B10
      have R10 : Row w8.heap.size 5 .u8 T1 v10 w9 := R10
      have hb9 : Below w8.heap.size w8 w9 := QA.trans (grown_below0 G10 hbA (fun b hb => by cases hb; exact Nat.le_refl _))
      have K10 : Kept _ := ⟨R10⟩
      obtain ⟨p11, c11, e11, _, _⟩ := row_cells R10
      rw [LT1.out] at e11
      subst e11
      have hb89 : Below wr.heap.size wr w9 := hb8.trans (hb9.mono hb8.size)
      have RW9 := KW.out.under hb89
      have V10 : Kept _ := ⟨row_cells R10⟩
      have L9 : Kept (Y.length + T1.length ≤ 8796093022208) := ⟨by rw [EY.out, tsL_len, LT1.out]; have := K255.out; omega⟩
      have hbs : wa.heap.size ≤ w9.heap.size := Nat.le_trans HB.size hb89.size
      have b9 : Kept (∀ b, blkOf (.slice p8 n8 c8) = some b → wa.heap.size ≤ b ∧ b < wr.heap.size) := ⟨KW.out.range⟩
      have s8 : Kept (wr.heap.size ≤ w8.heap.size) := ⟨hb8.size⟩
      clear V8 L8 G10 B10 R10 hb8 hb9 QA RA hbA
      go_wp2_with (first | (refine wl_app (by kernel_rfl) (.tmp 41) (.tmp 42) 22 5 .u8 1 (show _ = _ from rfl) Tryd.underlying22 inf_u8 (by decide) wa.heap.size Y T1 _ _ rfl rfl RW9 V10.out L9.out hbs ?_))
      intro v9 wA RA9 GA BA
      have RA9 : Row wa.heap.size 5 .u8 (tsL key info (k + 1)) v9 wA := by rw [tsL_succ, ← EY.out, ← ET1.out]; exact RA9
      have VA : BytesV (.slice p11 32 c11) wA (tL key info (k + 1)) := by
        rw [← ET1.out]
        exact V10.out.keeps GA (by
          cases hb : blkOf (.slice p11 32 c11) with
          | none => exact .inl rfl
          | some b => exact .inr fun e => by have h1 := (K10.out.range b hb).1; have h2 := (b9.out b e.symm).2; have := s8.out; omega)
      have HBA : Below wa.heap.size wa wA := (HB.trans (hb89.mono HB.size)).trans (grown_below0 GA hbs (fun b hb => (b9.out b hb).1))
      have k254 : Kept (k + 1 ≤ 255) := ⟨by have := E8.out; omega⟩
      have kS : k1 + 1 < 4611686018427387904 := by have := EK1.out; have := K255.out; omega
      clear RW9 V10 L9 GA BA b9 hb89 hbs K10 HB s8
      go_wp2_with (first | ((with_reducible refine wv_val (d := 24) ?hd ?hw (.int .i64 ((k1 + 1 : Nat) : Int)) ?hr ?_); (case hd => rfl); (case hw => kernel_rfl); (case hr => intro w; exact run_addI 1 rfl (by kernel_rfl) kS w); simp only [Act.put, List.setIfInBounds_toArray, List.set_cons_succ, List.set_cons_zero]))
      go_roundg (gk - 1)
      case measure => have := k254.out; omega
      case rel => exact ⟨k + 1, k1 + 1, by have := k254.out; omega, by rfl, ⟨k254.out, by rw [EK1.out], RA9, VA, HBA⟩⟩
    case neg =>
      have hlt' : ¬ (n8 : Int) < (n : Int) := by omega
      have nc8 : n ≤ c8 := by omega
      have VY : Kept (IntsV .u8 (.slice p8 n c8) wr (expL key info n)) := ⟨by
        have h := IntsV.take (m := n) (row_cells KW.out) (by rw [EY.out, tsL_len, ← E8.out]; omega)
        rw [EY.out, expL_of key info k n K255.out (by have := E8.out; omega)] at h
        exact h⟩
      go_wp2_with (first | ((with_reducible refine wv_val (d := 46) ?hd ?hw (.slice p8 n c8) ?hr ?_); (case hd => rfl); (case hw => kernel_rfl); (case hr => intro w; exact cutTo_run (l := n8) rfl (by kernel_rfl) (by kernel_rfl) Tryd.underlying22 sz_u8 nc8 w); simp only [Act.put, List.setIfInBounds_toArray, List.set_cons_succ, List.set_cons_zero]))
      go_ret2
      exact ⟨_, rfl, VY.out, QR⟩
end Go.Proofs.YthnkipicehppmaaDoor.sh
