/-
  General pieces, joined: UH UI UJ US UT UR.
-/
import Derived.Test.YtkibojjbghopkaaDoorG29
import Derived.Laws.BytesString
import Derived.RangeFuncNested
import Derived.RangeFuncBound
import Derived.RangeFuncCalls
import Derived.RangeFuncLeaves
import Derived.RangeFuncBox
import Derived.Shelf.Abstract
import Derived.Shelf.RegionOpen
import Derived.WalkKit
import Derived.OwnWalkIn
import Derived.TacticsInMore
import Derived.LoopNIn
import Derived.LoopIn
/-
  HKDF's other half: mac.expanded, mac.Expand.
-/
namespace Go.Proofs.YtkibojjbghopkaaDoor.sh
open Go Go.RowKit
set_option linter.unusedVariables false
set_option linter.unusedSimpArgs false

theorem alloc_kd {o : Oper} {a : Act} (ho : o.op = .alloc 60) (w : World) : (execOp a.eval o).run Tryd.prog w = .ok (.value (.pointer (some ⟨w.heap.size, 0, none⟩))) (w.alloc (.cells (dgs [] ++ dgs []) 60)) := by
  have h1 : ∀ w, (Instr.alloc 60 true (.tuple #[])).run Tryd.prog w = .ok (.pointer (some ⟨w.heap.size, 0, none⟩)) (w.alloc (.cells (dgs [] ++ dgs []) 60)) := fun w => by kernel_rfl
  unfold execOp
  simp only [ho]
  simp [h1]
set_option maxRecDepth 100000 in
set_option maxHeartbeats 4000000 in
theorem expanded_any (key info : List Nat) (n : Nat) (vi : Value) (w : World) (hk : key.length = 32) (hy : Bytes key) (hi : Bytes info) (hin : info.length < 800000000) (hn : n ≤ 8160) (hr : RootsAt w) (hvi : BytesV vi w info) :
    Calls Tryd.prog 13 #[.agg (ints .u8 key), vi, .int .i64 (n : Int)] w fun e w' => ∃ v, e = .returned v ∧ Row w.heap.size 5 .u8 (expL key info n) v w' ∧ Below w.heap.size w w' := by
  have KR : Kept _ := ⟨hr⟩
  have KK' : Kept _ := ⟨hk⟩
  have KY : Kept _ := ⟨hy⟩
  have KI : Kept _ := ⟨hi⟩
  have KN : Kept _ := ⟨hin⟩
  have KV : Kept _ := ⟨hvi⟩
  obtain ⟨pi, ci, ei, _, _⟩ := hvi
  obtain ⟨ni, hni⟩ : ∃ n, n = info.length := ⟨_, rfl⟩
  rw [← hni] at ei
  have ENI : Kept _ := ⟨hni⟩
  subst ei
  obtain ⟨KK, hKK⟩ : ∃ K, K = keyD key := ⟨_, rfl⟩
  have EK : Kept _ := ⟨hKK⟩
  obtain ⟨ZK, hZK⟩ : ∃ Z, Z = dgs [] ++ dgs [] := ⟨_, rfl⟩
  have AK : Kept (∀ {o : Oper} {a : Act} (ho : o.op = .alloc 60) (w : World), (execOp a.eval o).run Tryd.prog w = .ok (.value (.pointer (some ⟨w.heap.size, 0, none⟩))) (w.alloc (.cells ZK 60))) := ⟨fun ho w => by rw [hZK]; exact alloc_kd ho w⟩
  have YX : ∀ b, b < 256 → Bytes (xorL b (padL key)) := fun b hb => xorL_bytes (padL_bytes hy) hb
  have LKK : Kept (KK.size = 146) := ⟨by rw [hKK]; unfold keyD; rw [Array.size_append, dgs_size (YX 92 (by decide)), dgs_size (YX 54 (by decide))]⟩
  have SKK : Kept ((Tryd.prog.info? 60).map (·.size) = some KK.size) := ⟨by rw [LKK.out]; exact kd_info⟩
  have OKK : Kept (KK.all (·.oneCell') = true) := ⟨by rw [hKK]; unfold keyD; rw [Array.all_append, dgs_one, dgs_one]; rfl⟩
  have LZK : Kept (ZK.size = 146) := ⟨by rw [hZK, Array.size_append, dgs_size nil_bytes]⟩
  have hn0 : n < 1000000 := by omega
  have A0 : Blk (w.alloc (.cells (ints .u8 key) 22)) w.heap.size 22 (ints .u8 key) := blk_new w _ _
  have Q0 : Below w.heap.size w (w.alloc (.cells (ints .u8 key) 22)) := (Below.refl _ _).alloc (Nat.le_refl _) _
  clear hr hk hy hi hin hKK hZK YX hni
  go_enter Tryd.func13, Tryd.ntmps13
  go_wp2_with fail
  generalize hW : w.alloc (.cells (ints .u8 key) 22) = wa at *
  clear hW
  have C0 : Kept (∀ w', Below wa.heap.size wa w' → Calls Tryd.prog 27 [.slice (some ⟨w.heap.size, 0, none⟩) 32 32].toArray w' fun e w2 => e = .returned (.agg KK) ∧ Below w'.heap.size w' w2) := ⟨fun w' hb => by
    rw [EK.out]
    exact keyedBy_any key _ w' KY.out (by rw [KK'.out]; decide) ((KR.out.below KR.out.1 Q0).under hb) ((arr_bytes A0 KK'.out).under hb)⟩
  refine region_ownSL wa 6 [(12, .slice (some ⟨w.heap.size, 0, none⟩) 32 32), (13, .agg KK), (14, .int .i64 (n : Int))] [(15, Row wa.heap.size 5 .u8 []), (7, PtrSz 60 146)] [15, 7] [] [(5, 7, PtrAt 60 KK)] rfl (by kernel_rfl) (by kernel_rfl) (by kernel_rfl) (by kernel_rfl) (by kernel_rfl) (by kernel_rfl) (by kernel_rfl) (by kernel_rfl) (by kernel_rfl) (by kernel_rfl) (by kernel_rfl) (by kernel_rfl) (by kernel_rfl) (by kernel_rfl) ?hst1 ?hst2 ?hst3 (Below.refl _ _) (fun hA => ⟨.inl (ow_val hA (wants_none rfl) 12 (.slice (some ⟨w.heap.size, 0, none⟩) 32 32) (by kernel_rfl) rfl rfl rfl rfl (by kernel_rfl) (fun w => by kernel_rfl)), .inl (ow_calld hA (wants_none rfl) 13 (.agg KK) (by kernel_rfl) rfl rfl rfl rfl (by kernel_rfl) 27 Tryd.f27 _ [.tmp 12] _ [.slice (some ⟨w.heap.size, 0, none⟩) 32 32] rfl (by kernel_rfl) Tryd.func27 (by kernel_rfl) rfl (fun w1 hb => C0.out w1 hb)), .inl (ow_val hA (wants_none rfl) 14 (.int .i64 (n : Int)) (by kernel_rfl) rfl rfl rfl rfl (by kernel_rfl) (fun w => by kernel_rfl)), .inl (ow_make hA (wants_none rfl) 15 14 n rfl rfl (by kernel_rfl) (by kernel_rfl) rfl rfl hn0 rfl), .inl (ow_new (wants_none rfl) 7 rfl (PtrSz 60 146) rfl (fun a w _ => ⟨_, _, AK.out rfl w, ⟨w.heap.size, _, rfl, LZK.out, heap_new w _⟩, (Below.refl _ _).alloc (Nat.le_refl _) _, fun b hb => by cases hb; exact ⟨Nat.le_refl _, by simp⟩⟩)), .inr (ow_storeP hA (wants_none rfl) 60 60 7 13 146 (KK) rfl rfl (by simp) (by kernel_rfl) rfl rfl (by kernel_rfl) rfl rfl (by kernel_rfl) (LKK.out) (SKK.out) (OKK.out)), trivial⟩) ?_
  case hst1 =>
    intro q hq hO
    simp only [List.mem_cons, List.not_mem_nil, or_false] at hq
    rcases hq with rfl | rfl <;> cases hO
  case hst2 =>
    intro q hq hO v w3 w4 row h1 h2 h3 h4
    simp only [List.mem_cons, List.not_mem_nil, or_false] at hq
    rcases hq with rfl | rfl
    · exact Row.keeps h1 h2 h3
    · exact PtrSz.keeps h1 h2 h3
  case hst3 =>
    intro q hq v w3 w4 row h1 h2 h3 h4
    simp only [List.mem_cons, List.not_mem_nil, or_false] at hq
    subst hq
    exact PtrAt.keeps h1 h2 h3
  intro fv w1 hf hD hSt hb1
  have h15 := (hf 15 _ rfl rfl).1
  have h7 := hSt _ List.mem_cons_self
  have hne := hD 15 7 rfl rfl rfl rfl (by decide)
  obtain ⟨g7, e7, A7⟩ := h7
  have h7r := ((hf 7 _ rfl rfl).2 rfl g7 (by rw [e7]; rfl))
  obtain ⟨v15, e15⟩ : ∃ v, v = fv 15 := ⟨_, rfl⟩
  rw [← e15] at h15 hne
  rw [show fv 7 = _ from e7] at hne
  simp only [putR, List.foldl_cons, List.foldl_nil, List.map_cons, List.map_nil, Act.put, List.setIfInBounds_toArray, List.set_cons_succ, List.set_cons_zero]
  rw [show fv 7 = _ from e7, ← e15]
  have Q1 := Q0.trans (hb1.mono Q0.size)
  have hneq : Kept (blkOf v15 ≠ some g7) := ⟨fun e => hne g7 e rfl⟩
  have KRow : Kept (Row w.heap.size 5 .u8 [] v15 w1) := ⟨Row.mono h15 Q0.size⟩
  have g7w : w.heap.size ≤ g7 := Nat.le_trans Q0.size h7r.1
  clear hf hD hne h15 e7 e15 C0 A0 Q0 hb1 h7r AK hSt
  go_wp2_with fail
  go_loopg [8, 9, 10] 256 (fun m s8 s9 s10 wr => ∃ i q : Nat, i + m = 256 ∧ s10 = .int .u8 (q : Int) ∧ Kept (i ≤ 255 ∧ q = (i + 1) % 256 ∧ Row w.heap.size 5 .u8 ((tsL key info i).take n) s8 wr ∧ blkOf s8 ≠ some g7 ∧ BytesV s9 wr (tL key info i) ∧ Below w.heap.size w wr ∧ Blk wr g7 60 KK))
  case atStart => exact ⟨0, 1, by omega, rfl, ⟨by omega, rfl, by simpa [tsL] using KRow.out, hneq.out, ⟨none, 0, rfl, Nat.le_refl _, fun h => absurd rfl h⟩, Q1, A7⟩⟩
  case round =>
    clear A7 KRow hneq Q1
    obtain ⟨i, q, hik, rfl, KQ⟩ := hrel
    obtain ⟨hi255, hq, RX, hn7, VT, HB, A7⟩ := KQ.out
    have EQ : Kept _ := ⟨hq⟩
    have KI255 : Kept _ := ⟨hi255⟩
    clear KQ hq
    obtain ⟨X, hX⟩ : ∃ X, X = (tsL key info i).take n := ⟨_, rfl⟩
    have EX : Kept _ := ⟨hX⟩
    rw [← hX] at RX
    have LX : X.length = min n (32 * i) := by rw [hX, List.length_take, tsL_len]
    obtain ⟨p8, c8, e8, _, _⟩ := row_cells RX
    obtain ⟨n8, hn8⟩ : ∃ m, m = X.length := ⟨_, rfl⟩
    rw [← hn8] at e8
    subst e8
    obtain ⟨T, hT⟩ : ∃ T, T = tL key info i := ⟨_, rfl⟩
    have ET : Kept _ := ⟨hT⟩
    rw [← hT] at VT
    have KT : Kept _ := ⟨VT⟩
    obtain ⟨p9, c9, e9, _, _⟩ := VT
    obtain ⟨n9, hn9⟩ : ∃ m, m = T.length := ⟨_, rfl⟩
    rw [← hn9] at e9
    subst e9
    have LT : Kept (T.length ≤ 32) := ⟨by rw [hT]; exact tL_le key info i⟩
    have YT : Kept (Bytes T) := ⟨by rw [hT]; exact tL_bytes key info i⟩
    have KX : Kept _ := ⟨RX⟩
    have K7 : Kept _ := ⟨hn7⟩
    clear hX hT hn9 RX hn7
    by_cases hlt : 32 * i < n
    case pos =>
      have h8 : n8 = 32 * i := by omega
      have E8 : Kept _ := ⟨h8⟩
      have lt8 : n8 < n := by omega
      have hlt' : (n8 : Int) < (n : Int) := by omega
      have n62 : n < 4611686018427387904 := by omega
      have q256 : q < 256 := by have := EQ.out; omega
      obtain ⟨T1, hT1⟩ : ∃ T, T = tL key info (i + 1) := ⟨_, rfl⟩
      have ET1 : Kept _ := ⟨hT1⟩
      have LT1 : Kept (T1.length = 32) := ⟨by rw [hT1]; exact tL_len key info i⟩
      obtain ⟨r, hr⟩ : ∃ r, r = n - n8 := ⟨_, rfl⟩
      obtain ⟨m, hm⟩ : ∃ m, m = min 32 r := ⟨_, rfl⟩
      have Er : Kept _ := ⟨hr⟩
      have Em : Kept _ := ⟨hm⟩
      have m32 : m ≤ 32 := by omega
      have n8m : n8 + m ≤ 8160 := by omega
      have NX : Kept (X ++ T1.take m = (tsL key info (i + 1)).take n) := ⟨by
        rw [tsL_succ, List.take_append, EX.out, tsL_len, ← ET1.out, List.take_of_length_le (show (tsL key info i).length ≤ n by rw [tsL_len]; omega)]
        congr 1
        rw [hm, hr, h8]
        by_cases h32 : n - 32 * i ≤ 32
        · rw [Nat.min_eq_right h32]
        · rw [Nat.min_eq_left (by omega), List.take_of_length_le (by rw [LT1.out]; exact Nat.le_refl _), List.take_of_length_le (by rw [LT1.out]; omega)]⟩
      have QB : Below wr.heap.size wr ((wr.alloc (.cells #[.int .u8 (q : Int)] 5)).alloc (.cells #[.slice p9 n9 c9, .slice pi ni ci, .slice (some ⟨wr.heap.size, 0, none⟩) 1 1] 23)) := ((Below.refl _ _).alloc (Nat.le_refl _) _).alloc (by simp) _
      have HBB := HB.trans (QB.mono HB.size)
      have RV : Kept (RowsV (.slice (some ⟨wr.heap.size + 1, 0, none⟩) 3 3) ((wr.alloc (.cells #[.int .u8 (q : Int)] 5)).alloc (.cells #[.slice p9 n9 c9, .slice pi ni ci, .slice (some ⟨wr.heap.size, 0, none⟩) 1 1] 23)) (fun j => [.slice p9 n9 c9, .slice pi ni ci, .slice (some ⟨wr.heap.size, 0, none⟩) 1 1].getD j undef) [T, info, [q]]) := ⟨rowsV_of (t := 23) [.slice p9 n9 c9, .slice pi ni ci, .slice (some ⟨wr.heap.size, 0, none⟩) 1 1] [T, info, [q]] rfl rfl (blk_top _ _ _ _ (by simp)) (fun j v bs h1 h2 => by
        rcases j with _ | _ | _ | j <;> simp at h1 h2
        · subst h1 h2
          exact ⟨KT.out.under QB, YT.out, Nat.le_trans LT.out (by decide)⟩
        · subst h1 h2
          exact ⟨KV.out.under HBB, KI.out, Nat.le_of_lt (Nat.lt_of_lt_of_le KN.out (by decide))⟩
        · subst h1 h2
          refine ⟨arr_bytes (t := 5) (l := [q]) (Blk.alloc (blk_new wr _ _) _) rfl, fun j x hx => ?_, (by show 1 ≤ maxLen; decide)⟩
          rcases j with _ | j <;> simp at hx
          omega)⟩
      have C1 : Kept (Calls Tryd.prog 28 #[.agg KK, .slice (some ⟨wr.heap.size + 1, 0, none⟩) 3 3] ((wr.alloc (.cells #[.int .u8 (q : Int)] 5)).alloc (.cells #[.slice p9 n9 c9, .slice pi ni ci, .slice (some ⟨wr.heap.size, 0, none⟩) 1 1] 23)) fun e w' => e = .returned (.agg (ints .u8 T1)) ∧ Below (((wr.alloc (.cells #[.int .u8 (q : Int)] 5)).alloc (.cells #[.slice p9 n9 c9, .slice pi ni ci, .slice (some ⟨wr.heap.size, 0, none⟩) 1 1] 23))).heap.size ((wr.alloc (.cells #[.int .u8 (q : Int)] 5)).alloc (.cells #[.slice p9 n9 c9, .slice pi ni ci, .slice (some ⟨wr.heap.size, 0, none⟩) 1 1] 23)) w') := ⟨by
        have hc := ksum_any (xorL 92 (padL key)) (xorL 54 (padL key)) [T, info, [q]] _ _ _ (xorL_bytes (padL_bytes KY.out) (by decide)) (xorL_bytes (padL_bytes KY.out) (by decide)) (KR.out.below KR.out.1 HBB) RV.out ⟨by rw [xorL_len, padL_len]; decide, by rw [xorL_len, padL_len]; simp; have := LT.out; have := KN.out; omega⟩ (by simp)
        rw [EK.out, ET1.out, tL_succ, ← ET.out, ← EQ.out]
        have e : [T, info, [q]].flatten = T ++ (info ++ [q]) := by simp
        rw [e] at hc
        exact hc⟩
      clear hr hm hT1 RV h8 LX hn8
      go_wp2_with (first | ((with_reducible refine wv_rowS (d := 22) ?hd ?hw 60 (.tmp 7) ?ho (g7) ?hx (t' := 60) (KK) _ Tryd.underlying60 ?hs ?hg ?_); (case hd => rfl); (case hw => kernel_rfl); (case ho => rfl); (case hx => kernel_rfl); (case hs => exact SKK.out); (case hg => exact A7); simp only [Act.put, List.setIfInBounds_toArray, List.set_cons_succ, List.set_cons_zero]))
      refine C1.out.mono ?_
      rintro e w4 ⟨rfl, hb4⟩
      have QB4 := QB.trans (hb4.mono QB.size)
      clear C1 hb4 QB HBB
      go_wp2_with (first | (refine wl_store rfl 22 (.tmp 11) (.tmp 28) rfl w4.heap.size (ints .u8 T1) rfl rfl _ (blk_new w4 _ _) (by rw [ints_size, LT1.out]; exact t32_info) (by rw [ints_size, LT1.out]; rfl) (ints_one _ _) ?_))
      intro w5 A5 P5
      have QB5 : Below wr.heap.size wr w5 := (QB4.alloc QB4.size _).trans (P5.below QB4.size)
      have A75 := A7.under QB5
      have RX5 := KX.out.under QB5
      have V5 : IntsV .u8 (.slice (some ⟨w4.heap.size, 0, none⟩) 32 32) w5 T1 := arr_bytes A5 LT1.out
      have KV5 : Kept (IntsV .u8 (.slice (some ⟨w4.heap.size, 0, none⟩) m 32) w5 (T1.take m)) := ⟨V5.take (by rw [LT1.out]; exact m32)⟩
      have bX : Kept (∀ b, blkOf (.slice p8 n8 c8) = some b → w.heap.size ≤ b ∧ b < wr.heap.size) := ⟨KX.out.range⟩
      have szr := QB4.size
      have sz5 := RX5.range
      have hbase : w.heap.size ≤ w5.heap.size := Nat.le_trans HB.size QB5.size
      have LXT : Kept (X.length + (T1.take m).length ≤ 8796093022208) := ⟨by rw [List.length_take, EX.out, List.length_take]; omega⟩
      have HB5 := HB.trans (QB5.mono HB.size)
      clear A7 A5 P5 QB4 QB5 HB sz5
      go_wp2_with (first | ((with_reducible refine wv_val (d := 37) ?hd ?hw (.int .i64 (r : Int)) ?hr ?_); (case hd => rfl); (case hw => kernel_rfl); (case hr => intro w; exact run_subV rfl (by kernel_rfl) (by kernel_rfl) (Nat.le_of_lt lt8) n62 Er.out w); simp only [Act.put, List.setIfInBounds_toArray, List.set_cons_succ, List.set_cons_zero]) | ((with_reducible refine wv_val (d := 38) ?hd ?hw (.int .i64 (m : Int)) ?hr ?_); (case hd => rfl); (case hw => kernel_rfl); (case hr => intro w; exact run_min2 rfl (by kernel_rfl) (by kernel_rfl) Em.out w); simp only [Act.put, List.setIfInBounds_toArray, List.set_cons_succ, List.set_cons_zero]) | ((with_reducible refine wv_val (d := 39) ?hd ?hw (.slice (some ⟨w4.heap.size, 0, none⟩) m 32) ?hr ?_); (case hd => rfl); (case hw => kernel_rfl); (case hr => intro w; exact cutTo_run rfl (by kernel_rfl) (by kernel_rfl) Tryd.underlying23 sz_u8 m32 w); simp only [Act.put, List.setIfInBounds_toArray, List.set_cons_succ, List.set_cons_zero]) | (refine wl_app (by kernel_rfl) (.tmp 30) (.tmp 39) 23 5 .u8 1 rfl Tryd.underlying23 inf_u8 (by decide) w.heap.size X (T1.take m) _ _ rfl rfl RX5 KV5.out LXT.out hbase ?_))
      intro v8 w6 R6 G6 B6
      rw [NX.out] at R6
      have hne4 : blkOf (.slice p8 n8 c8) ≠ some w4.heap.size := fun e => by have := (bX.out _ e).2; omega
      have A76 : Blk w6 g7 60 KK := (G6.block g7 A75.lt (fun e => K7.out e.symm)).trans A75
      have V6 : IntsV .u8 (.slice (some ⟨w4.heap.size, 0, none⟩) 32 32) w6 T1 := V5.keeps G6 (.inr fun e => hne4 e.symm)
      have HB6 : Below w.heap.size w w6 := HB5.trans (grown_below0 G6 hbase (fun b hb => (bX.out b hb).1))
      have K76 : blkOf v8 ≠ some g7 := by
        rcases B6 with h | h
        · rw [h]; exact K7.out
        · rw [h]; intro e; cases e; exact Nat.lt_irrefl _ A75.lt
      have KR6 : Kept (Row w.heap.size 5 .u8 ((tsL key info (i + 1)).take n) v8 w6 ∧ blkOf v8 ≠ some g7 ∧ BytesV (.slice (some ⟨w4.heap.size, 0, none⟩) 32 32) w6 (tL key info (i + 1)) ∧ Below w.heap.size w w6 ∧ Blk w6 g7 60 KK) := ⟨R6, K76, by rw [← ET1.out]; exact V6, HB6, A76⟩
      obtain ⟨z, hz⟩ : ∃ z, z = (q + 1) % 256 := ⟨_, rfl⟩
      have Ez : Kept _ := ⟨hz⟩
      clear R6 G6 B6 hne4 A76 V6 HB6 K76 A75 RX5 V5 KV5 bX HB5 hbase LXT hz szr
      go_wp2_with (first | ((with_reducible refine wv_val (d := 21) ?hd ?hw (.int .u8 (z : Int)) ?hr ?_); (case hd => rfl); (case hw => kernel_rfl); (case hr => intro w; exact run_inc8 rfl (by kernel_rfl) Ez.out w); simp only [Act.put, List.setIfInBounds_toArray, List.set_cons_succ, List.set_cons_zero]))
      go_roundg (gk - 1)
      case measure => omega
      case rel => exact ⟨i + 1, z, by omega, by rfl, ⟨by omega, by have := Ez.out; have := EQ.out; omega, KR6.out⟩⟩
    case neg =>
      have h8 : n8 = n := by omega
      have hlt' : ¬ (n8 : Int) < (n : Int) := by omega
      have RXn : Kept (Row w.heap.size 5 .u8 (expL key info n) (.slice p8 n8 c8) wr) := ⟨by rw [← expL_of key info i n KI255.out (by omega), ← EX.out]; exact KX.out⟩
      clear LX hn8 h8
      go_wp2_with fail
      go_ret
      exact ⟨_, rfl, RXn.out, HB⟩
end Go.Proofs.YtkibojjbghopkaaDoor.sh
/-
  mac.Expand; mac.Keys where it is refused.
-/
namespace Go.Proofs.YtkibojjbghopkaaDoor.sh
open Go Go.RowKit
set_option linter.unusedVariables false
set_option linter.unusedSimpArgs false

end Go.Proofs.YtkibojjbghopkaaDoor.sh
/-
  The answers that the document fixes for layer 4 are as they must be.
-/
namespace Go.Proofs.YtkibojjbghopkaaDoor.sh
open Go Go.RowKit
set_option linter.unusedVariables false
set_option linter.unusedSimpArgs false

theorem Const.new {w : World} {e : TypeId} {k : IntKind} {l : List Nat} {n : Nat} (hn : l.length = n) : Const e k l (.slice (some ⟨w.heap.size, 0, none⟩) n n) (w.alloc (.cells (sh.ints k l) e)) := by subst hn; exact ⟨w.heap.size, (0, 0), rfl, heap_new w _⟩
theorem Const.alloc {w : World} {e : TypeId} {k : IntKind} {l : List Nat} {v : Value} (h : Const e k l v w) (o : Obj) : Const e k l v (w.alloc o) := by
  obtain ⟨g, fr, rfl, h2⟩ := h
  exact ⟨g, fr, rfl, (Below.heap_alloc w o g (Array.getElem?_eq_some_iff.1 h2).1).trans h2⟩
end Go.Proofs.YtkibojjbghopkaaDoor.sh
/-
  Strings made of bytes, and compared; small sums.
-/
namespace Go.Proofs.YtkibojjbghopkaaDoor.sh
open Go Go.RowKit
set_option linter.unusedVariables false
set_option linter.unusedSimpArgs false

/-- The string of bytes. -/
def strOf (l : List Nat) : ByteArray := (l.map fun n : Nat => (n : Int)).foldl (fun r n => r.push (UInt8.ofNat n.toNat)) ByteArray.empty
theorem ints_map (l : List Nat) : ((l.map fun n : Nat => (n : Int)).map (Value.int .u8)).toArray = ints .u8 l := by simp [ints]
theorem str_u : Tryd.prog.underlying 9 = some .string := by kernel_rfl
theorem conv_str {v : Value} {w : World} {l : List Nat} (h : IntsV .u8 v w l) : (convert 23 9 v).run Tryd.prog w = .ok (.string (strOf l)) w := by
  obtain ⟨p, c, rfl, h2, h3⟩ := h
  rw [run_convert_bytes_string (P := Tryd.prog) w 23 9 5 p l.length c Tryd.underlying23 Tryd.underlying5 str_u]
  cases p with
  | none =>
    have : l = [] := by
      cases l with
      | nil => rfl
      | cons x r => obtain ⟨A, h, _⟩ := h3 (by simp); cases h
    subst this
    rfl
  | some A =>
    refine run_bytesToString w A l.length c (l.map fun n : Nat => (n : Int)) ?_
    rw [ints_map]
    have hf := run_loadCells_list (P := Tryd.prog) w A (ints .u8 l).toList (by
      intro j y hj
      rw [Array.getElem?_toList] at hj
      have hjl : j < l.length := by have := (Array.getElem?_eq_some_iff.1 hj).1; rwa [ints_size] at this
      obtain ⟨A', e1, _, e3⟩ := h3 (by intro e; rw [e] at hjl; simp at hjl)
      cases e1
      rw [e3 j l[j] (List.getElem?_eq_getElem hjl), ← hj, ints_get (List.getElem?_eq_getElem hjl)])
    rw [ints_toList, Array.toArray_toList] at hf
    exact hf
theorem run_str {o : Oper} {a : Act} {x : Operand} {v : Value} {w : World} {l : List Nat} (ho : o.op = .convert 23 9 x) (hx : a.eval x = v) (h : IntsV .u8 v w l) : (execOp a.eval o).run Tryd.prog w = .ok (.value (.string (strOf l))) w := by
  unfold execOp
  simp only [ho, hx]
  simp [conv_str h]
theorem run_eql_str {o : Oper} {a : Act} {x y : Operand} {u : TypeId} {s : ByteArray} (ho : o.op = .binOp .eql 9 x y u) (hx : a.eval x = .string s) (hy : a.eval y = .string s) (w : World) : (execOp a.eval o).run Tryd.prog w = .ok (.value (.bool true)) w := by
  unfold execOp
  simp only [ho, hx, hy]
  simp [go_sem]
section
variable {h : List Oper} {A0 A : Act} {W0 : World} {S : Nat → Option (Value → World → Prop)} {sp O : List Nat} {E : List (Nat × Nat)} {i : Nat} {o : Oper}
end
/-- Bytes made into a string, in a plain region. -/
theorem wv_str {ops : Array Oper} {rest : List Oper} {o : Oper} {a : Act} {w : World} {Q : Exit → Act → World → Prop} {d : Nat} (hd : o.dst = some d) (hw : Region.wanted o (yielded ops a.tmps) = true) (x : Operand) (ho : o.op = .convert 23 9 x) (u : Value) (hx : a.eval x = u) (l : List Nat) (hl : IntsV .u8 u w l) (h : wpList Tryd.prog ops Q rest (a.put o.dst (.string (strOf l))) w) : wpList Tryd.prog ops Q (o :: rest) a w :=
  BigFrame.wpList_want hw fun K hK => by
    unfold Oper.wp
    rw [run_str ho hx hl]
    exact hK _ _ h
/-- So many times a number. -/
theorem run_mulC {o : Oper} {a : Act} {x : Operand} {i z : Nat} (c : Nat) (ho : o.op = .binOp .mul 3 (.const (.int .i64 (c : Int))) x 3) (hx : a.eval x = .int .i64 (i : Int)) (hz : z = c * i) (h62 : z < 4611686018427387904) (w : World) : (execOp a.eval o).run Tryd.prog w = .ok (.value (.int .i64 (z : Int))) w := by
  have e3 : a.eval (.const (.int .i64 (c : Int))) = .int .i64 (c : Int) := rfl
  have e4 : ((c : Int) * (i : Int)) = (z : Int) := by rw [hz]; simp
  unfold execOp
  simp only [ho, hx, e3]
  simp [go_sem, e4, IntKind.wrap_i64, wrap64]
  omega
theorem run_mulV {o : Oper} {a : Act} {x : Operand} {i z : Nat} (c : Nat) (ho : o.op = .binOp .mul 3 x (.const (.int .i64 (c : Int))) 3) (hx : a.eval x = .int .i64 (i : Int)) (hz : z = i * c) (h62 : z < 4611686018427387904) (w : World) : (execOp a.eval o).run Tryd.prog w = .ok (.value (.int .i64 (z : Int))) w := by
  have e3 : a.eval (.const (.int .i64 (c : Int))) = .int .i64 (c : Int) := rfl
  have e4 : ((i : Int) * (c : Int)) = (z : Int) := by rw [hz]; simp
  unfold execOp
  simp only [ho, hx, e3]
  simp [go_sem, e4, IntKind.wrap_i64, wrap64]
  omega
end Go.Proofs.YtkibojjbghopkaaDoor.sh
/-
  Pieces of what is expanded; a byte in a slice of its own.
-/
namespace Go.Proofs.YtkibojjbghopkaaDoor.sh
open Go Go.RowKit
set_option linter.unusedVariables false
set_option linter.unusedSimpArgs false

theorem tsL_cut (key info : List Nat) (k i : Nat) (hi : i < k) : ((tsL key info k).drop (32 * i)).take 32 = tL key info (i + 1) := by
  obtain ⟨r, hr⟩ := tsL_pre key info (i + 1) (k - (i + 1))
  rw [show k = i + 1 + (k - (i + 1)) from by omega, hr, tsL_succ, List.append_assoc, List.drop_append, tsL_len, Nat.sub_self, List.drop_of_length_le (by rw [tsL_len]; exact Nat.le_refl _), List.nil_append, List.drop_zero, List.take_append_of_le_length (by rw [tL_len]; exact Nat.le_refl _), List.take_of_length_le (by rw [tL_len]; exact Nat.le_refl _)]
/-- A piece of a slice of bytes. -/
theorem BytesV.piece {p : Option Addr} {n c k m : Nat} {w : World} {bs : List Nat} (h : BytesV (.slice p n c) w bs) (hm : k + m ≤ bs.length) : BytesV (.slice (if c = k then p else p.map (·.add k)) m (c - k)) w ((bs.drop k).take m) := by
  have hn : n = bs.length := by obtain ⟨_, _, h1, _⟩ := h; cases h1; rfl
  subst hn
  have h2 := BytesV.cut h (k := k) (by omega)
  exact IntsV.take h2 (by rw [List.length_drop]; omega)
section
variable {h : List Oper} {A0 A : Act} {W0 : World} {S : Nat → Option (Value → World → Prop)} {sp O : List Nat} {E : List (Nat × Nat)} {i : Nat} {o : Oper}
end
end Go.Proofs.YtkibojjbghopkaaDoor.sh
/-
  Keys cut of bytes, one by one: what package mac's iterator hands on.
-/
namespace Go.Proofs.YtkibojjbghopkaaDoor.sh
open Go Go.RowKit Go.Shelf
set_option linter.unusedVariables false
set_option linter.unusedSimpArgs false

/-- 32 numbers. -/
abbrev K32 := { l : List Nat // l.length = 32 }
def chunkK (X : List Nat) (i : Nat) : K32 := if h : ((X.drop (32 * i)).take 32).length = 32 then ⟨_, h⟩ else ⟨List.replicate 32 0, by simp⟩
theorem chunkK_val {X : List Nat} {i N : Nat} (hX : X.length = 32 * N) (hi : i < N) : (chunkK X i).1 = (X.drop (32 * i)).take 32 := by
  have h : ((X.drop (32 * i)).take 32).length = 32 := by rw [List.length_take, List.length_drop, hX]; omega
  unfold chunkK
  rw [dif_pos h]
def chunks (X : List Nat) (N : Nat) : List K32 := (List.range N).map (chunkK X)
theorem chunks_succ (X : List Nat) (i : Nat) : chunks X (i + 1) = chunks X i ++ [chunkK X i] := by simp [chunks, List.range_succ]
theorem chunks_len (X : List Nat) (i : Nat) : (chunks X i).length = i := by simp [chunks]

def noDefer (o : Oper) : Bool := match o.op with | .defer _ => false | _ => true
theorem noDefer_spec {o : Oper} (h : noDefer o = true) : ∀ c, o.op ≠ .defer c := fun c e => by simp [noDefer, e] at h
theorem rowsIn_wide' {n : Nat} {P : Program} {row : String} {args : Array Value} {w : World} {R : Value → World → Prop} (h : Rows P row args w R) : RowsIn Fence.wide n P row args w R :=
  fun c cs _ => let ⟨v, w', r, s⟩ := h c cs; ⟨v, w', r, stepsIn_wide.2 s⟩
/-- What is walked as everywhere holds in a round of a range over a function. -/
theorem list_round {P : Program} {ops : Array Oper} {Q : Exit → Act → World → Prop} {n l : Nat} (hQ : LetsOut Q → False) : ∀ (r : List Oper) (a : Act) (w : World), (r.all noDefer) = true → wpList P ops Q r a w → wpListIn (Fence.wide.inRound l) n P ops Q r a w
  | [], a, w, _, h => h
  | o :: r, a, w, hn, h => by
    simp only [List.all_cons, Bool.and_eq_true] at hn
    unfold wpList at h
    unfold wpListIn
    by_cases hw : Region.wanted o (yielded ops a.tmps) = true
    · rw [if_pos hw] at h ⊢
      rcases h with h | ⟨_, h⟩
      case inr => exact (hQ h).elim
      unfold Oper.wp at h
      refine ⟨fun f _ => trivial, ?_⟩
      rw [show (Fence.wide.inRound l).round = some l from rfl, Oper.semAt_some l _ _ (noDefer_spec hn.1)]
      generalize (execOp a.eval o).run P w = res at *
      cases res with
      | ok x w' =>
        cases x with
        | value v => exact list_round hQ r _ _ hn.2 h
        | skip => exact list_round hQ r _ _ hn.2 h
        | defer d => exact list_round hQ r _ _ hn.2 h
        | enter f args =>
          refine ⟨fun hd => (by cases hd), CallsIn.inRound l (callsIn_wide.2 (Calls.mono h ?_))⟩
          intro e w'' hr
          cases e with
          | returned v => exact list_round hQ r _ _ hn.2 hr
          | panicked c => exact hr
          | outgrown => exact hr
        | row nm args =>
          exact ⟨fun hd => (by cases hd), (rowsIn_wide' h).mono fun v w'' hr => list_round hQ r _ _ hn.2 hr⟩
        | _ => exact h.elim
      | halt x w' =>
        cases x <;> first | exact h | exact h.elim
    · rw [if_neg hw] at h ⊢
      exact ⟨fun f _ => trivial, list_round hQ r _ _ hn.2 h⟩
theorem region_round {P : Program} {Q : Exit → Act → World → Prop} {n l id : Nat} {r : List Oper} {a : Act} {w : World} (hQ : LetsOut Q → False) (hn : (r.all noDefer) = true) (h : wpList P r.toArray Q r a w) : (Code.region id r.toArray false).wpIn (Fence.wide.inRound l) n P Q a w :=
  wpIn_region_lit (list_round hQ r a w hn h)
theorem wi_val {F : Fence} (hF : ∀ f, F.fn f) {n d : Nat} {P : Program} {ops : Array Oper} {Q : Exit → Act → World → Prop} {rest : List Oper} {o : Oper} {a : Act} {w : World} (hd : o.dst = some d) (hg : o.guard = none) (hn : noDefer o = true) (v : Value) (hr : (execOp a.eval o).run P w = .ok (.value v) w) (h : wpListIn F n P ops Q rest (a.put o.dst v) w) : wpListIn F n P ops Q (o :: rest) a w := by
  refine wpListIn_plain hg fun K hK => ⟨fun f _ => hF f, ?_⟩
  rw [Oper.semAt_plain F _ _ (noDefer_spec hn), hr]
  exact hK _ _ h
theorem run_arrAt {o : Oper} {a : Act} {x : Operand} {p : Option Addr} {l c n : Nat} {t e : TypeId} (ho : o.op = .sliceToArrayPointer t x) (hx : a.eval x = .slice p l c) (ht : Tryd.prog.underlying t = some (.array n e)) (hl : n ≤ l) (w : World) : (execOp a.eval o).run Tryd.prog w = .ok (.value (.pointer p)) w := by
  have h : ¬ (l < n) := by omega
  unfold execOp
  simp only [ho, hx]
  simp [Instr.arrayAt, run_underlying ht, h]
  try omega
theorem run_partA {o : Oper} {a : Act} {x : Operand} {g off n : Nat} {t t' e : TypeId} {w : World} {cs es : Array Value} (ho : o.op = .load t x) (hx : a.eval x = .pointer (some ⟨g, off, none⟩)) (ht : Tryd.prog.underlying t = some (.array n e)) (hi : (Tryd.prog.info? t).map (·.size) = some es.size) (hb : Blk w g t' cs) (hp : ∀ j v, es[j]? = some v → cs[off + j]? = some v) : (execOp a.eval o).run Tryd.prog w = .ok (.value (.agg es)) w := by
  unfold execOp
  simp only [ho, hx, Instr.loadAt, Instr.sureAddr, Sem.run_bind, Sem.run_pure, Result.andThen_ok, run_loadVar_at w g off t' t cs es (0, 0) _ hb hp ht rfl hi]

set_option maxHeartbeats 1000000 in
theorem cut_any (p : Option Addr) (m c : Nat) (w : World) :
    Calls Tryd.prog 12 #[.slice p m c] w fun e w' => e = .returned (.func (.func 26) #[] #[.pointer (some ⟨w.heap.size, 0, none⟩)]) ∧ w' = w.alloc (.cells #[.slice p m c] 23) := by
  go_enter Tryd.func12, Tryd.ntmps12
  go_wp2_with fail
  go_ret
  exact ⟨rfl, rfl⟩

/-- Two blocks stay as they are. -/
def Keep2 (g b : Nat) (W W' : World) : Prop := W'.heap[g]? = W.heap[g]? ∧ W'.heap[b]? = W.heap[b]?
theorem Keep2.refl (g b : Nat) (W : World) : Keep2 g b W W := ⟨rfl, rfl⟩
theorem Keep2.trans {g b : Nat} {A B C : World} (h : Keep2 g b A B) (h' : Keep2 g b B C) : Keep2 g b A C := ⟨h'.1.trans h.1, h'.2.trans h.2⟩
theorem Keep2.below {g b n : Nat} {A B : World} (h : Below n A B) (hg : g < n) (hb : b < n) : Keep2 g b A B := ⟨h.block g hg, h.block b hb⟩
theorem Keep2.grown {g b : Nat} {A B : World} {row : Option Nat} (h : A.grownBy B row) (hg : g < A.heap.size) (hb : b < A.heap.size) (h1 : row ≠ some g) (h2 : row ≠ some b) : Keep2 g b A B := ⟨h.block g hg (fun e => h1 e.symm), h.block b hb (fun e => h2 e.symm)⟩
theorem keep2_b {g b n : Nat} (hg : g < n) (hb : b < n) : ∀ (W : World) (l : Nat) (o o' : Obj), n ≤ l → W.heap[l]? = some o → o.isCells = false → o.isWalk = false → Keep2 g b W (W.putObj l o') := fun W l o o' hl _ _ _ => ⟨World.putObj_heap_other (by omega), World.putObj_heap_other (by omega)⟩
def leftOf (m : Nat) : Value → World → Nat := fun v _ => match v with | .int _ k => m - k.toNat | _ => 0
set_option maxRecDepth 100000 in
set_option maxHeartbeats 4000000 in
/-- The iterator hands on all keys, one by one, to a loop that keeps what lay below n₀. -/
theorem cut1_in (n : Nat) (hn : 1 ≤ n) (l Bn N gx c : Nat) (hN : N ≤ 1000) (X : List Nat) (cur : Array Value) (J Jx : List K32 → World → Prop)
    (hY : ∀ pre x W1, J pre W1 → pre.length < N → YieldAt Fence.wide (n - 1) Tryd.prog l #[.agg (ints .u8 x.1)] W1 fun e W' => (e = .returned (.bool true) ∧ J (pre ++ [x]) W' ∧ Keep2 gx Bn W1 W') ∨ (e = .returned (.bool false) ∧ Jx (pre ++ [x]) W'))
    (W : World) (hc : Blk W Bn 23 #[.slice (some ⟨gx, 0, none⟩) (32 * N) c]) (hcap : 32 * N ≤ c) (hX : X.length = 32 * N) (hb : Blk W gx 5 cur) (hcur : ∀ (i x : Nat), X[i]? = some x → cur[i]? = some (.int .u8 (x : Int))) (h0 : J [] W) :
    CallsIn Fence.wide n Tryd.prog 26 #[.func (.yield l) #[] #[], .pointer (some ⟨Bn, 0, none⟩)] W fun e W' => (∃ v, e = .returned v) ∧ ((∃ ys, ys = chunks X N ∧ J ys W') ∨ (∃ pre, True ∧ Jx pre W')) := by
  have KY : Kept _ := ⟨hY⟩
  have KCU : Kept _ := ⟨hcur⟩
  have KX : Kept _ := ⟨hX⟩
  obtain ⟨M, hM⟩ : ∃ M, M = 32 * N := ⟨_, rfl⟩
  have EM : Kept _ := ⟨hM⟩
  rw [← hM] at hc hcap
  have h00 : Kept (J (chunks X 0) W) := ⟨h0⟩
  clear hY hcur hX hM h0
  refine callsIn_of_wp Tryd.func26 rfl trivial ?_ rfl
  simp only [Tryd.ntmps26, List.size_toArray, List.length_cons, List.length_nil, Nat.reduceAdd, Nat.reduceSub, Array.replicate_succ, Array.replicate_zero, List.push_toArray, List.append_toArray, List.nil_append, List.cons_append]
  gi_wp2
  gi_loopw [3] (fun s3 wr => ∃ i a : Nat, i ≤ N ∧ s3 = .int .i64 (a : Int) ∧ Kept (a = 32 * i ∧ Keep2 gx Bn W wr ∧ J (chunks X i) wr)) (leftOf M)
  case atStart => exact ⟨0, 0, Nat.zero_le _, rfl, ⟨rfl, Keep2.refl _ _ _, h00.out⟩⟩
  case round =>
    clear h00
    obtain ⟨i, a, hiN, rfl, KQ⟩ := hrel
    obtain ⟨ha, HB, HJ⟩ := KQ.out
    have Ea : Kept _ := ⟨ha⟩
    have aS : a ≤ 32000 := by omega
    clear KQ
    have hcr : wr.cell? ⟨Bn, 0, none⟩ = some (.slice (some ⟨gx, 0, none⟩) M c) := Blk.cell (t := 23) (HB.2.trans hc) rfl
    obtain ⟨a2, ha2⟩ : ∃ z, z = a + 32 := ⟨_, rfl⟩
    have E2 : Kept _ := ⟨ha2⟩
    have a62 : a + 32 < 4611686018427387904 := by omega
    by_cases hi : i < N
    case pos =>
      have hle : (a2 : Int) ≤ (M : Int) := by have := EM.out; omega
      have aM : a ≤ M := by omega
      have a2M : Kept (a2 = 32 * (i + 1)) := ⟨by omega⟩
      have acM : Kept (¬ c = a) := ⟨by have := EM.out; omega⟩
      obtain ⟨C, hC⟩ : ∃ C, C = chunkK X i := ⟨_, rfl⟩
      have LC : Kept ((Tryd.prog.info? 22).map (·.size) = some (ints .u8 C.1).size) := ⟨by rw [ints_size, C.2]; exact t32_info⟩
      have HC : Kept (∀ (j : Nat) (v : Value), (ints .u8 C.1)[j]? = some v → cur[a + j]? = some v) := ⟨fun j v hv => by
        have hj : j < C.1.length := by have := (Array.getElem?_eq_some_iff.1 hv).1; rwa [ints_size] at this
        have e1 : C.1[j]? = X[a + j]? := by
          rw [hC, chunkK_val KX.out hi, List.getElem?_take_of_lt (by have := C.2; omega), List.getElem?_drop, ha]
        obtain ⟨x, hx⟩ : ∃ x, C.1[j]? = some x := ⟨_, List.getElem?_eq_getElem hj⟩
        rw [ints_get hx] at hv
        cases hv
        exact KCU.out (a + j) x (by rw [← e1]; exact hx)⟩
      have hbr : Blk wr gx 5 cur := HB.1.trans hb
      have L32 : 32 ≤ M - a := by have := EM.out; omega
      have CUT : Kept (∀ {o : Oper} {a' : Act}, o.op = .slice 23 (.tmp 12) (some (.tmp 13)) none none → a'.eval (.tmp 12) = .slice (some ⟨gx, 0, none⟩) M c → a'.eval (.tmp 13) = .int .i64 (a : Int) → ∀ w, (execOp a'.eval o).run Tryd.prog w = .ok (.value (.slice (some ⟨gx, a, none⟩) (M - a) (c - a))) w) := ⟨fun ho hx hy w => by
        have := cut_run ho hx hy Tryd.underlying23 sz_u8 aM w
        rw [this, if_neg acM.out]
        simp [addr_add]⟩
      obtain ⟨fn, tmps, assign, body, hy, hR⟩ := KY.out (chunks X i) C wr HJ (by rw [chunks_len]; exact hi)
      have NX : Kept (chunks X i ++ [C] = chunks X (i + 1)) := ⟨by rw [chunks_succ, hC]⟩
      have aL : Kept (leftOf M (.int .i64 (a2 : Int)) wr < leftOf M (.int .i64 (a : Int)) wr) := ⟨by simp [leftOf]; have := EM.out; omega⟩
      clear hC HJ ha ha2
      gi_wp2_with (first | ((with_reducible refine wi_val (fun _ => trivial) (d := 5) ?hd ?hg ?hn (.int .i64 (a2 : Int)) ?hr ?_); (case hd => rfl); (case hg => rfl); (case hn => rfl); (case hr => rw [E2.out]; exact run_addI 32 rfl (by kernel_rfl) a62 _); simp only [Act.put, List.setIfInBounds_toArray, List.set_cons_succ, List.set_cons_zero]) | ((with_reducible refine wi_val (fun _ => trivial) (d := 14) ?hd ?hg ?hn (.slice (some ⟨gx, a, none⟩) (M - a) (c - a)) ?hr ?_); (case hd => rfl); (case hg => rfl); (case hn => rfl); (case hr => exact CUT.out rfl (by kernel_rfl) (by kernel_rfl) _); simp only [Act.put, List.setIfInBounds_toArray, List.set_cons_succ, List.set_cons_zero]) | ((with_reducible refine wi_val (fun _ => trivial) (d := 15) ?hd ?hg ?hn (.pointer (some ⟨gx, a, none⟩)) ?hr ?_); (case hd => rfl); (case hg => rfl); (case hn => rfl); (case hr => exact run_arrAt (c := c - a) rfl (by kernel_rfl) Tryd.underlying22 L32 _); simp only [Act.put, List.setIfInBounds_toArray, List.set_cons_succ, List.set_cons_zero]) | ((with_reducible refine wi_val (fun _ => trivial) (d := 16) ?hd ?hg ?hn (.agg (ints .u8 C.1)) ?hr ?_); (case hd => rfl); (case hg => rfl); (case hn => rfl); (case hr => exact run_partA rfl (by kernel_rfl) Tryd.underlying22 LC.out hbr HC.out); simp only [Act.put, List.setIfInBounds_toArray, List.set_cons_succ, List.set_cons_zero]))
      refine hR.mono ?_
      rintro e W3 (⟨rfl, hJ3, hk3⟩ | ⟨rfl, hJx3⟩)
      · have HB3 := HB.trans hk3
        rw [NX.out] at hJ3
        gi_wp2_with (first | ((with_reducible refine wi_val (fun _ => trivial) (d := 10) ?hd ?hg ?hn (.int .i64 (a2 : Int)) ?hr ?_); (case hd => rfl); (case hg => rfl); (case hn => rfl); (case hr => rw [E2.out]; exact run_addI 32 rfl (by kernel_rfl) a62 _); simp only [Act.put, List.setIfInBounds_toArray, List.set_cons_succ, List.set_cons_zero]))
        go_roundw
        case rel => exact ⟨i + 1, a2, by omega, rfl, ⟨a2M.out, HB3, hJ3⟩⟩
        case measure => exact aL.out
      · gi_wp2
        refine bodyPost_ret (results_none rfl _ _ _) rfl ?_
        first | exact ⟨⟨_, rfl⟩, .inr ⟨_, trivial, hJx3⟩⟩ | exact ⟨⟨_, rfl⟩, .inr ⟨_, hJx3⟩⟩
    case neg =>
      have hle : ¬ (a2 : Int) ≤ (M : Int) := by have := EM.out; omega
      obtain rfl : i = N := by omega
      clear ha ha2
      gi_wp2_with (first | ((with_reducible refine wi_val (fun _ => trivial) (d := 5) ?hd ?hg ?hn (.int .i64 (a2 : Int)) ?hr ?_); (case hd => rfl); (case hg => rfl); (case hn => rfl); (case hr => rw [E2.out]; exact run_addI 32 rfl (by kernel_rfl) a62 _); simp only [Act.put, List.setIfInBounds_toArray, List.set_cons_succ, List.set_cons_zero]))
      go_end0
      first | exact ⟨⟨_, rfl⟩, .inl ⟨_, rfl, HJ⟩⟩ | exact ⟨⟨_, rfl⟩, .inl HJ⟩
theorem cut1_stops (n : Nat) (hn : 1 ≤ n) (Bn N gx c : Nat) (hN : N ≤ 1000) (X : List Nat) (cur : Array Value) (w : World)
    (hc : Blk w Bn 23 #[.slice (some ⟨gx, 0, none⟩) (32 * N) c]) (hcap : 32 * N ≤ c) (hX : X.length = 32 * N) (hb : Blk w gx 5 cur) (hcur : ∀ (i x : Nat), X[i]? = some x → cur[i]? = some (.int .u8 (x : Int))) :
    SeqStopsK Fence.wide n Tryd.prog 26 #[.pointer (some ⟨Bn, 0, none⟩)] (fun x : K32 => #[Value.agg (ints .u8 x.1)]) (Keep2 gx Bn) (fun ys => ys = chunks X N) (fun _ => True) N w := fun l J Jx W hW _ _ hY h0 =>
  cut1_in n hn l Bn N gx c hN X cur J Jx hY W (hc.under hW) hcap hX (hb.under hW) hcur h0
end Go.Proofs.YtkibojjbghopkaaDoor.sh
