/-
  HKDF's other half: mac.expanded, mac.Expand.
-/
import Derived.Test.YthnkipicehppmaaDoorMacA
import Derived.Test.YthnkipicehppmaaDoorSHS
namespace Go.Proofs.YthnkipicehppmaaDoor.sh
open Go Go.RowKit
set_option linter.unusedVariables false
set_option linter.unusedSimpArgs false

theorem alloc_kd {o : Oper} {a : Act} (ho : o.op = .alloc 55) (w : World) : (execOp a.eval o).run Tryd.prog w = .ok (.value (.pointer (some ⟨w.heap.size, 0, none⟩))) (w.alloc (.cells (dgs [] ++ dgs []) 55)) := by
  have h1 : ∀ w, (Instr.alloc 55 true (.tuple #[])).run Tryd.prog w = .ok (.pointer (some ⟨w.heap.size, 0, none⟩)) (w.alloc (.cells (dgs [] ++ dgs []) 55)) := fun w => by kernel_rfl
  unfold execOp
  simp only [ho]
  simp [h1]
set_option maxRecDepth 100000 in
set_option maxHeartbeats 4000000 in
theorem expanded_any (key info : List Nat) (n : Nat) (vi : Value) (w : World) (hk : key.length = 32) (hy : Bytes key) (hi : Bytes info) (hin : info.length < 800000000) (hn : n ≤ 8160) (hr : RootsAt w) (hvi : BytesV vi w info) :
    Calls Tryd.prog 24 #[.agg (ints .u8 key), vi, .int .i64 (n : Int)] w fun e w' => ∃ v, e = .returned v ∧ Row w.heap.size 5 .u8 (expL key info n) v w' ∧ Below w.heap.size w w' := by
  have KR : Kept _ := ⟨hr⟩
  have KK' : Kept _ := ⟨hk⟩
  have KY : Kept _ := ⟨hy⟩
  have KI : Kept _ := ⟨hi⟩
  have KN : Kept _ := ⟨hin⟩
  have KV : Kept _ := ⟨hvi⟩
  obtain ⟨pi, ci, ei, _, _⟩ := hvi
  obtain ⟨ni, hni⟩ : ∃ n, n = info.length := ⟨_, rfl⟩
  rw [← hni] at ei
  have ENI : Kept _ := ⟨hni⟩
  subst ei
  obtain ⟨KK, hKK⟩ : ∃ K, K = keyD key := ⟨_, rfl⟩
  have EK : Kept _ := ⟨hKK⟩
  obtain ⟨ZK, hZK⟩ : ∃ Z, Z = dgs [] ++ dgs [] := ⟨_, rfl⟩
  have AK : Kept (∀ {o : Oper} {a : Act} (ho : o.op = .alloc 55) (w : World), (execOp a.eval o).run Tryd.prog w = .ok (.value (.pointer (some ⟨w.heap.size, 0, none⟩))) (w.alloc (.cells ZK 55))) := ⟨fun ho w => by rw [hZK]; exact alloc_kd ho w⟩
  have YX : ∀ b, b < 256 → Bytes (xorL b (padL key)) := fun b hb => xorL_bytes (padL_bytes hy) hb
  have LKK : Kept (KK.size = 146) := ⟨by rw [hKK]; unfold keyD; rw [Array.size_append, dgs_size (YX 92 (by decide)), dgs_size (YX 54 (by decide))]⟩
  have SKK : Kept ((Tryd.prog.info? 55).map (·.size) = some KK.size) := ⟨by rw [LKK.out]; exact kd_info⟩
  have OKK : Kept (KK.all (·.oneCell') = true) := ⟨by rw [hKK]; unfold keyD; rw [Array.all_append, dgs_one, dgs_one]; rfl⟩
  have LZK : Kept (ZK.size = 146) := ⟨by rw [hZK, Array.size_append, dgs_size nil_bytes]⟩
  have hn0 : n < 1000000 := by omega
  have A0 : Blk (w.alloc (.cells (ints .u8 key) 24)) w.heap.size 24 (ints .u8 key) := blk_new w _ _
  have Q0 : Below w.heap.size w (w.alloc (.cells (ints .u8 key) 24)) := (Below.refl _ _).alloc (Nat.le_refl _) _
  clear hr hk hy hi hin hKK hZK YX hni
  go_enter Tryd.func24, Tryd.ntmps24
  go_wp2_with fail
  generalize hW : w.alloc (.cells (ints .u8 key) 24) = wa at *
  clear hW
  have C0 : Kept (∀ w', Below wa.heap.size wa w' → Calls Tryd.prog 22 [.slice (some ⟨w.heap.size, 0, none⟩) 32 32].toArray w' fun e w2 => e = .returned (.agg KK) ∧ Below w'.heap.size w' w2) := ⟨fun w' hb => by
    rw [EK.out]
    exact keyedBy_any key _ w' KY.out (by rw [KK'.out]; decide) ((KR.out.below KR.out.1 Q0).under hb) ((arr_bytes A0 KK'.out).under hb)⟩
  refine region_ownSL wa 6 [(12, .slice (some ⟨w.heap.size, 0, none⟩) 32 32), (13, .agg KK), (14, .int .i64 (n : Int))] [(15, Row wa.heap.size 5 .u8 []), (7, PtrSz 55 146)] [15, 7] [] [(5, 7, PtrAt 55 KK)] rfl (by kernel_rfl) (by kernel_rfl) (by kernel_rfl) (by kernel_rfl) (by kernel_rfl) (by kernel_rfl) (by kernel_rfl) (by kernel_rfl) (by kernel_rfl) (by kernel_rfl) (by kernel_rfl) (by kernel_rfl) (by kernel_rfl) (by kernel_rfl) ?hst1 ?hst2 ?hst3 (Below.refl _ _) (fun hA => ⟨.inl (ow_val hA (wants_none rfl) 12 (.slice (some ⟨w.heap.size, 0, none⟩) 32 32) (by kernel_rfl) rfl rfl rfl rfl (by kernel_rfl) (fun w => by kernel_rfl)), .inl (ow_calld hA (wants_none rfl) 13 (.agg KK) (by kernel_rfl) rfl rfl rfl rfl (by kernel_rfl) 22 Tryd.f22 _ [.tmp 12] _ [.slice (some ⟨w.heap.size, 0, none⟩) 32 32] rfl (by kernel_rfl) Tryd.func22 (by kernel_rfl) rfl (fun w1 hb => C0.out w1 hb)), .inl (ow_val hA (wants_none rfl) 14 (.int .i64 (n : Int)) (by kernel_rfl) rfl rfl rfl rfl (by kernel_rfl) (fun w => by kernel_rfl)), .inl (ow_make hA (wants_none rfl) 15 14 n rfl rfl (by kernel_rfl) (by kernel_rfl) rfl rfl hn0 rfl), .inl (ow_new (wants_none rfl) 7 rfl (PtrSz 55 146) rfl (fun a w _ => ⟨_, _, AK.out rfl w, ⟨w.heap.size, _, rfl, LZK.out, heap_new w _⟩, (Below.refl _ _).alloc (Nat.le_refl _) _, fun b hb => by cases hb; exact ⟨Nat.le_refl _, by simp⟩⟩)), .inr (ow_storeP hA (wants_none rfl) 55 55 7 13 146 (KK) rfl rfl (by simp) (by kernel_rfl) rfl rfl (by kernel_rfl) rfl rfl (by kernel_rfl) (LKK.out) (SKK.out) (OKK.out)), trivial⟩) ?_
  case hst1 =>
    intro q hq hO
    simp only [List.mem_cons, List.not_mem_nil, or_false] at hq
    rcases hq with rfl | rfl <;> cases hO
  case hst2 =>
    intro q hq hO v w3 w4 row h1 h2 h3 h4
    simp only [List.mem_cons, List.not_mem_nil, or_false] at hq
    rcases hq with rfl | rfl
    · exact Row.keeps h1 h2 h3
    · exact PtrSz.keeps h1 h2 h3
  case hst3 =>
    intro q hq v w3 w4 row h1 h2 h3 h4
    simp only [List.mem_cons, List.not_mem_nil, or_false] at hq
    subst hq
    exact PtrAt.keeps h1 h2 h3
  intro fv w1 hf hD hSt hb1
  have h15 := (hf 15 _ rfl rfl).1
  have h7 := hSt _ List.mem_cons_self
  have hne := hD 15 7 rfl rfl rfl rfl (by decide)
  obtain ⟨g7, e7, A7⟩ := h7
  have h7r := ((hf 7 _ rfl rfl).2 rfl g7 (by rw [e7]; rfl))
  obtain ⟨v15, e15⟩ : ∃ v, v = fv 15 := ⟨_, rfl⟩
  rw [← e15] at h15 hne
  rw [show fv 7 = _ from e7] at hne
  simp only [putR, List.foldl_cons, List.foldl_nil, List.map_cons, List.map_nil, Act.put, List.setIfInBounds_toArray, List.set_cons_succ, List.set_cons_zero]
  rw [show fv 7 = _ from e7, ← e15]
  have Q1 := Q0.trans (hb1.mono Q0.size)
  have hneq : Kept (blkOf v15 ≠ some g7) := ⟨fun e => hne g7 e rfl⟩
  have KRow : Kept (Row w.heap.size 5 .u8 [] v15 w1) := ⟨Row.mono h15 Q0.size⟩
  have g7w : w.heap.size ≤ g7 := Nat.le_trans Q0.size h7r.1
  clear hf hD hne h15 e7 e15 C0 A0 Q0 hb1 h7r AK hSt
  go_wp2_with fail
  go_loopg [8, 9, 10] 256 (fun m s8 s9 s10 wr => ∃ i q : Nat, i + m = 256 ∧ s10 = .int .u8 (q : Int) ∧ Kept (i ≤ 255 ∧ q = (i + 1) % 256 ∧ Row w.heap.size 5 .u8 ((tsL key info i).take n) s8 wr ∧ blkOf s8 ≠ some g7 ∧ BytesV s9 wr (tL key info i) ∧ Below w.heap.size w wr ∧ Blk wr g7 55 KK))
  case atStart => exact ⟨0, 1, by omega, rfl, ⟨by omega, rfl, by simpa [tsL] using KRow.out, hneq.out, ⟨none, 0, rfl, Nat.le_refl _, fun h => absurd rfl h⟩, Q1, A7⟩⟩
  case round =>
    clear A7 KRow hneq Q1
    obtain ⟨i, q, hik, rfl, KQ⟩ := hrel
    obtain ⟨hi255, hq, RX, hn7, VT, HB, A7⟩ := KQ.out
    have EQ : Kept _ := ⟨hq⟩
    have KI255 : Kept _ := ⟨hi255⟩
    clear KQ hq
    obtain ⟨X, hX⟩ : ∃ X, X = (tsL key info i).take n := ⟨_, rfl⟩
    have EX : Kept _ := ⟨hX⟩
    rw [← hX] at RX
    have LX : X.length = min n (32 * i) := by rw [hX, List.length_take, tsL_len]
    obtain ⟨p8, c8, e8, _, _⟩ := row_cells RX
    obtain ⟨n8, hn8⟩ : ∃ m, m = X.length := ⟨_, rfl⟩
    rw [← hn8] at e8
    subst e8
    obtain ⟨T, hT⟩ : ∃ T, T = tL key info i := ⟨_, rfl⟩
    have ET : Kept _ := ⟨hT⟩
    rw [← hT] at VT
    have KT : Kept _ := ⟨VT⟩
    obtain ⟨p9, c9, e9, _, _⟩ := VT
    obtain ⟨n9, hn9⟩ : ∃ m, m = T.length := ⟨_, rfl⟩
    rw [← hn9] at e9
    subst e9
    have LT : Kept (T.length ≤ 32) := ⟨by rw [hT]; exact tL_le key info i⟩
    have YT : Kept (Bytes T) := ⟨by rw [hT]; exact tL_bytes key info i⟩
    have KX : Kept _ := ⟨RX⟩
    have K7 : Kept _ := ⟨hn7⟩
    clear hX hT hn9 RX hn7
    by_cases hlt : 32 * i < n
    case pos =>
      have h8 : n8 = 32 * i := by omega
      have E8 : Kept _ := ⟨h8⟩
      have lt8 : n8 < n := by omega
      have hlt' : (n8 : Int) < (n : Int) := by omega
      have n62 : n < 4611686018427387904 := by omega
      have q256 : q < 256 := by have := EQ.out; omega
      obtain ⟨T1, hT1⟩ : ∃ T, T = tL key info (i + 1) := ⟨_, rfl⟩
      have ET1 : Kept _ := ⟨hT1⟩
      have LT1 : Kept (T1.length = 32) := ⟨by rw [hT1]; exact tL_len key info i⟩
      obtain ⟨r, hr⟩ : ∃ r, r = n - n8 := ⟨_, rfl⟩
      obtain ⟨m, hm⟩ : ∃ m, m = min 32 r := ⟨_, rfl⟩
      have Er : Kept _ := ⟨hr⟩
      have Em : Kept _ := ⟨hm⟩
      have m32 : m ≤ 32 := by omega
      have n8m : n8 + m ≤ 8160 := by omega
      have NX : Kept (X ++ T1.take m = (tsL key info (i + 1)).take n) := ⟨by
        rw [tsL_succ, List.take_append, EX.out, tsL_len, ← ET1.out, List.take_of_length_le (show (tsL key info i).length ≤ n by rw [tsL_len]; omega)]
        congr 1
        rw [hm, hr, h8]
        by_cases h32 : n - 32 * i ≤ 32
        · rw [Nat.min_eq_right h32]
        · rw [Nat.min_eq_left (by omega), List.take_of_length_le (by rw [LT1.out]; exact Nat.le_refl _), List.take_of_length_le (by rw [LT1.out]; omega)]⟩
      have QB : Below wr.heap.size wr ((wr.alloc (.cells #[.int .u8 (q : Int)] 5)).alloc (.cells #[.slice p9 n9 c9, .slice pi ni ci, .slice (some ⟨wr.heap.size, 0, none⟩) 1 1] 22)) := ((Below.refl _ _).alloc (Nat.le_refl _) _).alloc (by simp) _
      have HBB := HB.trans (QB.mono HB.size)
      have RV : Kept (RowsV (.slice (some ⟨wr.heap.size + 1, 0, none⟩) 3 3) ((wr.alloc (.cells #[.int .u8 (q : Int)] 5)).alloc (.cells #[.slice p9 n9 c9, .slice pi ni ci, .slice (some ⟨wr.heap.size, 0, none⟩) 1 1] 22)) (fun j => [.slice p9 n9 c9, .slice pi ni ci, .slice (some ⟨wr.heap.size, 0, none⟩) 1 1].getD j undef) [T, info, [q]]) := ⟨rowsV_of (t := 22) [.slice p9 n9 c9, .slice pi ni ci, .slice (some ⟨wr.heap.size, 0, none⟩) 1 1] [T, info, [q]] rfl rfl (blk_top _ _ _ _ (by simp)) (fun j v bs h1 h2 => by
        rcases j with _ | _ | _ | j <;> simp at h1 h2
        · subst h1 h2
          exact ⟨KT.out.under QB, YT.out, Nat.le_trans LT.out (by decide)⟩
        · subst h1 h2
          exact ⟨KV.out.under HBB, KI.out, Nat.le_of_lt (Nat.lt_of_lt_of_le KN.out (by decide))⟩
        · subst h1 h2
          refine ⟨arr_bytes (t := 5) (l := [q]) (Blk.alloc (blk_new wr _ _) _) rfl, fun j x hx => ?_, (by show 1 ≤ maxLen; decide)⟩
          rcases j with _ | j <;> simp at hx
          omega)⟩
      have C1 : Kept (Calls Tryd.prog 23 #[.agg KK, .slice (some ⟨wr.heap.size + 1, 0, none⟩) 3 3] ((wr.alloc (.cells #[.int .u8 (q : Int)] 5)).alloc (.cells #[.slice p9 n9 c9, .slice pi ni ci, .slice (some ⟨wr.heap.size, 0, none⟩) 1 1] 22)) fun e w' => e = .returned (.agg (ints .u8 T1)) ∧ Below (((wr.alloc (.cells #[.int .u8 (q : Int)] 5)).alloc (.cells #[.slice p9 n9 c9, .slice pi ni ci, .slice (some ⟨wr.heap.size, 0, none⟩) 1 1] 22))).heap.size ((wr.alloc (.cells #[.int .u8 (q : Int)] 5)).alloc (.cells #[.slice p9 n9 c9, .slice pi ni ci, .slice (some ⟨wr.heap.size, 0, none⟩) 1 1] 22)) w') := ⟨by
        have hc := ksum_any (xorL 92 (padL key)) (xorL 54 (padL key)) [T, info, [q]] _ _ _ (xorL_bytes (padL_bytes KY.out) (by decide)) (xorL_bytes (padL_bytes KY.out) (by decide)) (KR.out.below KR.out.1 HBB) RV.out ⟨by rw [xorL_len, padL_len]; decide, by rw [xorL_len, padL_len]; simp; have := LT.out; have := KN.out; omega⟩ (by simp)
        rw [EK.out, ET1.out, tL_succ, ← ET.out, ← EQ.out]
        have e : [T, info, [q]].flatten = T ++ (info ++ [q]) := by simp
        rw [e] at hc
        exact hc⟩
      clear hr hm hT1 RV h8 LX hn8
      go_wp2_with (first | ((with_reducible refine wv_rowS (d := 22) ?hd ?hw 55 (.tmp 7) ?ho (g7) ?hx (t' := 55) (KK) _ Tryd.underlying55 ?hs ?hg ?_); (case hd => rfl); (case hw => kernel_rfl); (case ho => rfl); (case hx => kernel_rfl); (case hs => exact SKK.out); (case hg => exact A7); simp only [Act.put, List.setIfInBounds_toArray, List.set_cons_succ, List.set_cons_zero]))
      refine C1.out.mono ?_
      rintro e w4 ⟨rfl, hb4⟩
      have QB4 := QB.trans (hb4.mono QB.size)
      clear C1 hb4 QB HBB
      go_wp2_with (first | (refine wl_store rfl 24 (.tmp 11) (.tmp 28) rfl w4.heap.size (ints .u8 T1) rfl rfl _ (blk_new w4 _ _) (by rw [ints_size, LT1.out]; exact t32_info) (by rw [ints_size, LT1.out]; rfl) (ints_one _ _) ?_))
      intro w5 A5 P5
      have QB5 : Below wr.heap.size wr w5 := (QB4.alloc QB4.size _).trans (P5.below QB4.size)
      have A75 := A7.under QB5
      have RX5 := KX.out.under QB5
      have V5 : IntsV .u8 (.slice (some ⟨w4.heap.size, 0, none⟩) 32 32) w5 T1 := arr_bytes A5 LT1.out
      have KV5 : Kept (IntsV .u8 (.slice (some ⟨w4.heap.size, 0, none⟩) m 32) w5 (T1.take m)) := ⟨V5.take (by rw [LT1.out]; exact m32)⟩
      have bX : Kept (∀ b, blkOf (.slice p8 n8 c8) = some b → w.heap.size ≤ b ∧ b < wr.heap.size) := ⟨KX.out.range⟩
      have szr := QB4.size
      have sz5 := RX5.range
      have hbase : w.heap.size ≤ w5.heap.size := Nat.le_trans HB.size QB5.size
      have LXT : Kept (X.length + (T1.take m).length ≤ 8796093022208) := ⟨by rw [List.length_take, EX.out, List.length_take]; omega⟩
      have HB5 := HB.trans (QB5.mono HB.size)
      clear A7 A5 P5 QB4 QB5 HB sz5
      go_wp2_with (first | ((with_reducible refine wv_val (d := 37) ?hd ?hw (.int .i64 (r : Int)) ?hr ?_); (case hd => rfl); (case hw => kernel_rfl); (case hr => intro w; exact run_subV rfl (by kernel_rfl) (by kernel_rfl) (Nat.le_of_lt lt8) n62 Er.out w); simp only [Act.put, List.setIfInBounds_toArray, List.set_cons_succ, List.set_cons_zero]) | ((with_reducible refine wv_val (d := 38) ?hd ?hw (.int .i64 (m : Int)) ?hr ?_); (case hd => rfl); (case hw => kernel_rfl); (case hr => intro w; exact run_min2 rfl (by kernel_rfl) (by kernel_rfl) Em.out w); simp only [Act.put, List.setIfInBounds_toArray, List.set_cons_succ, List.set_cons_zero]) | ((with_reducible refine wv_val (d := 39) ?hd ?hw (.slice (some ⟨w4.heap.size, 0, none⟩) m 32) ?hr ?_); (case hd => rfl); (case hw => kernel_rfl); (case hr => intro w; exact cutTo_run rfl (by kernel_rfl) (by kernel_rfl) Tryd.underlying22 sz_u8 m32 w); simp only [Act.put, List.setIfInBounds_toArray, List.set_cons_succ, List.set_cons_zero]) | (refine wl_app (by kernel_rfl) (.tmp 30) (.tmp 39) 22 5 .u8 1 rfl Tryd.underlying22 inf_u8 (by decide) w.heap.size X (T1.take m) _ _ rfl rfl RX5 KV5.out LXT.out hbase ?_))
      intro v8 w6 R6 G6 B6
      rw [NX.out] at R6
      have hne4 : blkOf (.slice p8 n8 c8) ≠ some w4.heap.size := fun e => by have := (bX.out _ e).2; omega
      have A76 : Blk w6 g7 55 KK := (G6.block g7 A75.lt (fun e => K7.out e.symm)).trans A75
      have V6 : IntsV .u8 (.slice (some ⟨w4.heap.size, 0, none⟩) 32 32) w6 T1 := V5.keeps G6 (.inr fun e => hne4 e.symm)
      have HB6 : Below w.heap.size w w6 := HB5.trans (grown_below0 G6 hbase (fun b hb => (bX.out b hb).1))
      have K76 : blkOf v8 ≠ some g7 := by
        rcases B6 with h | h
        · rw [h]; exact K7.out
        · rw [h]; intro e; cases e; exact Nat.lt_irrefl _ A75.lt
      have KR6 : Kept (Row w.heap.size 5 .u8 ((tsL key info (i + 1)).take n) v8 w6 ∧ blkOf v8 ≠ some g7 ∧ BytesV (.slice (some ⟨w4.heap.size, 0, none⟩) 32 32) w6 (tL key info (i + 1)) ∧ Below w.heap.size w w6 ∧ Blk w6 g7 55 KK) := ⟨R6, K76, by rw [← ET1.out]; exact V6, HB6, A76⟩
      obtain ⟨z, hz⟩ : ∃ z, z = (q + 1) % 256 := ⟨_, rfl⟩
      have Ez : Kept _ := ⟨hz⟩
      clear R6 G6 B6 hne4 A76 V6 HB6 K76 A75 RX5 V5 KV5 bX HB5 hbase LXT hz szr
      go_wp2_with (first | ((with_reducible refine wv_val (d := 21) ?hd ?hw (.int .u8 (z : Int)) ?hr ?_); (case hd => rfl); (case hw => kernel_rfl); (case hr => intro w; exact run_inc8 rfl (by kernel_rfl) Ez.out w); simp only [Act.put, List.setIfInBounds_toArray, List.set_cons_succ, List.set_cons_zero]))
      go_roundg (gk - 1)
      case measure => omega
      case rel => exact ⟨i + 1, z, by omega, by rfl, ⟨by omega, by have := Ez.out; have := EQ.out; omega, KR6.out⟩⟩
    case neg =>
      have h8 : n8 = n := by omega
      have hlt' : ¬ (n8 : Int) < (n : Int) := by omega
      have RXn : Kept (Row w.heap.size 5 .u8 (expL key info n) (.slice p8 n8 c8) wr) := ⟨by rw [← expL_of key info i n KI255.out (by omega), ← EX.out]; exact KX.out⟩
      clear LX hn8 h8
      go_wp2_with fail
      go_ret
      exact ⟨_, rfl, RXn.out, HB⟩
end Go.Proofs.YthnkipicehppmaaDoor.sh
