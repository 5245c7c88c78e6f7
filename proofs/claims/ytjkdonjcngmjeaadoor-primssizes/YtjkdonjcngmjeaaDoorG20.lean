/-
  General pieces, joined: UH UI UJ US UT UN UO XA XB.
-/
import Derived.Test.YtjkdonjcngmjeaaDoorG19
import Derived.Test.YtjkdonjcngmjeaaDoorG17
import Derived.Laws.BytesString
import Derived.Lib.AppendZeros
import Derived.Test.YtjkdonjcngmjeaaDoorG16
import Derived.Test.YtjkdonjcngmjeaaDoorG18
/-
  HKDF's other half: mac.expanded, mac.Expand.
-/
namespace Go.Proofs.YtjkdonjcngmjeaaDoor.sh
open Go Go.RowKit
set_option linter.unusedVariables false
set_option linter.unusedSimpArgs false

theorem alloc_kd {o : Oper} {a : Act} (ho : o.op = .alloc 129) (w : World) : (execOp a.eval o).run Tryd.prog w = .ok (.value (.pointer (some ⟨w.heap.size, 0, none⟩))) (w.alloc (.cells (dgs [] ++ dgs []) 129)) := by
  have h1 : ∀ w, (Instr.alloc 129 true (.tuple #[])).run Tryd.prog w = .ok (.pointer (some ⟨w.heap.size, 0, none⟩)) (w.alloc (.cells (dgs [] ++ dgs []) 129)) := fun w => by kernel_rfl
  unfold execOp
  simp only [ho]
  simp [h1]
set_option maxRecDepth 100000 in
set_option maxHeartbeats 4000000 in
theorem expanded_any (key info : List Nat) (n : Nat) (vi : Value) (w : World) (hk : key.length = 32) (hy : Bytes key) (hi : Bytes info) (hin : info.length < 800000000) (hn : n ≤ 8160) (hr : RootsAt w) (hvi : BytesV vi w info) :
    Calls Tryd.prog 70 #[.agg (ints .u8 key), vi, .int .i64 (n : Int)] w fun e w' => ∃ v, e = .returned v ∧ Row w.heap.size 5 .u8 (expL key info n) v w' ∧ Below w.heap.size w w' := by
  have KR : Kept _ := ⟨hr⟩
  have KK' : Kept _ := ⟨hk⟩
  have KY : Kept _ := ⟨hy⟩
  have KI : Kept _ := ⟨hi⟩
  have KN : Kept _ := ⟨hin⟩
  have KV : Kept _ := ⟨hvi⟩
  obtain ⟨pi, ci, ei, _, _⟩ := hvi
  obtain ⟨ni, hni⟩ : ∃ n, n = info.length := ⟨_, rfl⟩
  rw [← hni] at ei
  have ENI : Kept _ := ⟨hni⟩
  subst ei
  obtain ⟨KK, hKK⟩ : ∃ K, K = keyD key := ⟨_, rfl⟩
  have EK : Kept _ := ⟨hKK⟩
  obtain ⟨ZK, hZK⟩ : ∃ Z, Z = dgs [] ++ dgs [] := ⟨_, rfl⟩
  have AK : Kept (∀ {o : Oper} {a : Act} (ho : o.op = .alloc 129) (w : World), (execOp a.eval o).run Tryd.prog w = .ok (.value (.pointer (some ⟨w.heap.size, 0, none⟩))) (w.alloc (.cells ZK 129))) := ⟨fun ho w => by rw [hZK]; exact alloc_kd ho w⟩
  have YX : ∀ b, b < 256 → Bytes (xorL b (padL key)) := fun b hb => xorL_bytes (padL_bytes hy) hb
  have LKK : Kept (KK.size = 146) := ⟨by rw [hKK]; unfold keyD; rw [Array.size_append, dgs_size (YX 92 (by decide)), dgs_size (YX 54 (by decide))]⟩
  have SKK : Kept ((Tryd.prog.info? 129).map (·.size) = some KK.size) := ⟨by rw [LKK.out]; exact kd_info⟩
  have OKK : Kept (KK.all (·.oneCell') = true) := ⟨by rw [hKK]; unfold keyD; rw [Array.all_append, dgs_one, dgs_one]; rfl⟩
  have LZK : Kept (ZK.size = 146) := ⟨by rw [hZK, Array.size_append, dgs_size nil_bytes]⟩
  have hn0 : n < 1000000 := by omega
  have A0 : Blk (w.alloc (.cells (ints .u8 key) 22)) w.heap.size 22 (ints .u8 key) := blk_new w _ _
  have Q0 : Below w.heap.size w (w.alloc (.cells (ints .u8 key) 22)) := (Below.refl _ _).alloc (Nat.le_refl _) _
  clear hr hk hy hi hin hKK hZK YX hni
  go_enter Tryd.func70, Tryd.ntmps70
  go_wp2_with fail
  generalize hW : w.alloc (.cells (ints .u8 key) 22) = wa at *
  clear hW
  have C0 : Kept (∀ w', Below wa.heap.size wa w' → Calls Tryd.prog 74 [.slice (some ⟨w.heap.size, 0, none⟩) 32 32].toArray w' fun e w2 => e = .returned (.agg KK) ∧ Below w'.heap.size w' w2) := ⟨fun w' hb => by
    rw [EK.out]
    exact keyedBy_any key _ w' KY.out (by rw [KK'.out]; decide) ((KR.out.below KR.out.1 Q0).under hb) ((arr_bytes A0 KK'.out).under hb)⟩
  refine region_ownSL wa 6 [(12, .slice (some ⟨w.heap.size, 0, none⟩) 32 32), (13, .agg KK), (14, .int .i64 (n : Int))] [(15, Row wa.heap.size 5 .u8 []), (7, PtrSz 129 146)] [15, 7] [] [(5, 7, PtrAt 129 KK)] rfl (by kernel_rfl) (by kernel_rfl) (by kernel_rfl) (by kernel_rfl) (by kernel_rfl) (by kernel_rfl) (by kernel_rfl) (by kernel_rfl) (by kernel_rfl) (by kernel_rfl) (by kernel_rfl) (by kernel_rfl) (by kernel_rfl) (by kernel_rfl) ?hst1 ?hst2 ?hst3 (Below.refl _ _) (fun hA => ⟨.inl (ow_val hA (wants_none rfl) 12 (.slice (some ⟨w.heap.size, 0, none⟩) 32 32) (by kernel_rfl) rfl rfl rfl rfl (by kernel_rfl) (fun w => by kernel_rfl)), .inl (ow_calld hA (wants_none rfl) 13 (.agg KK) (by kernel_rfl) rfl rfl rfl rfl (by kernel_rfl) 74 Tryd.f74 _ [.tmp 12] _ [.slice (some ⟨w.heap.size, 0, none⟩) 32 32] rfl (by kernel_rfl) Tryd.func74 (by kernel_rfl) rfl (fun w1 hb => C0.out w1 hb)), .inl (ow_val hA (wants_none rfl) 14 (.int .i64 (n : Int)) (by kernel_rfl) rfl rfl rfl rfl (by kernel_rfl) (fun w => by kernel_rfl)), .inl (ow_make hA (wants_none rfl) 15 14 n rfl rfl (by kernel_rfl) (by kernel_rfl) rfl rfl hn0 rfl), .inl (ow_new (wants_none rfl) 7 rfl (PtrSz 129 146) rfl (fun a w _ => ⟨_, _, AK.out rfl w, ⟨w.heap.size, _, rfl, LZK.out, heap_new w _⟩, (Below.refl _ _).alloc (Nat.le_refl _) _, fun b hb => by cases hb; exact ⟨Nat.le_refl _, by simp⟩⟩)), .inr (ow_storeP hA (wants_none rfl) 129 129 7 13 146 (KK) rfl rfl (by simp) (by kernel_rfl) rfl rfl (by kernel_rfl) rfl rfl (by kernel_rfl) (LKK.out) (SKK.out) (OKK.out)), trivial⟩) ?_
  case hst1 =>
    intro q hq hO
    simp only [List.mem_cons, List.not_mem_nil, or_false] at hq
    rcases hq with rfl | rfl <;> cases hO
  case hst2 =>
    intro q hq hO v w3 w4 row h1 h2 h3 h4
    simp only [List.mem_cons, List.not_mem_nil, or_false] at hq
    rcases hq with rfl | rfl
    · exact Row.keeps h1 h2 h3
    · exact PtrSz.keeps h1 h2 h3
  case hst3 =>
    intro q hq v w3 w4 row h1 h2 h3 h4
    simp only [List.mem_cons, List.not_mem_nil, or_false] at hq
    subst hq
    exact PtrAt.keeps h1 h2 h3
  intro fv w1 hf hD hSt hb1
  have h15 := (hf 15 _ rfl rfl).1
  have h7 := hSt _ List.mem_cons_self
  have hne := hD 15 7 rfl rfl rfl rfl (by decide)
  obtain ⟨g7, e7, A7⟩ := h7
  have h7r := ((hf 7 _ rfl rfl).2 rfl g7 (by rw [e7]; rfl))
  obtain ⟨v15, e15⟩ : ∃ v, v = fv 15 := ⟨_, rfl⟩
  rw [← e15] at h15 hne
  rw [show fv 7 = _ from e7] at hne
  simp only [putR, List.foldl_cons, List.foldl_nil, List.map_cons, List.map_nil, Act.put, List.setIfInBounds_toArray, List.set_cons_succ, List.set_cons_zero]
  rw [show fv 7 = _ from e7, ← e15]
  have Q1 := Q0.trans (hb1.mono Q0.size)
  have hneq : Kept (blkOf v15 ≠ some g7) := ⟨fun e => hne g7 e rfl⟩
  have KRow : Kept (Row w.heap.size 5 .u8 [] v15 w1) := ⟨Row.mono h15 Q0.size⟩
  have g7w : w.heap.size ≤ g7 := Nat.le_trans Q0.size h7r.1
  clear hf hD hne h15 e7 e15 C0 A0 Q0 hb1 h7r AK hSt
  go_wp2_with fail
  go_loopg [8, 9, 10] 256 (fun m s8 s9 s10 wr => ∃ i q : Nat, i + m = 256 ∧ s10 = .int .u8 (q : Int) ∧ Kept (i ≤ 255 ∧ q = (i + 1) % 256 ∧ Row w.heap.size 5 .u8 ((tsL key info i).take n) s8 wr ∧ blkOf s8 ≠ some g7 ∧ BytesV s9 wr (tL key info i) ∧ Below w.heap.size w wr ∧ Blk wr g7 129 KK))
  case atStart => exact ⟨0, 1, by omega, rfl, ⟨by omega, rfl, by simpa [tsL] using KRow.out, hneq.out, ⟨none, 0, rfl, Nat.le_refl _, fun h => absurd rfl h⟩, Q1, A7⟩⟩
  case round =>
    clear A7 KRow hneq Q1
    obtain ⟨i, q, hik, rfl, KQ⟩ := hrel
    obtain ⟨hi255, hq, RX, hn7, VT, HB, A7⟩ := KQ.out
    have EQ : Kept _ := ⟨hq⟩
    have KI255 : Kept _ := ⟨hi255⟩
    clear KQ hq
    obtain ⟨X, hX⟩ : ∃ X, X = (tsL key info i).take n := ⟨_, rfl⟩
    have EX : Kept _ := ⟨hX⟩
    rw [← hX] at RX
    have LX : X.length = min n (32 * i) := by rw [hX, List.length_take, tsL_len]
    obtain ⟨p8, c8, e8, _, _⟩ := row_cells RX
    obtain ⟨n8, hn8⟩ : ∃ m, m = X.length := ⟨_, rfl⟩
    rw [← hn8] at e8
    subst e8
    obtain ⟨T, hT⟩ : ∃ T, T = tL key info i := ⟨_, rfl⟩
    have ET : Kept _ := ⟨hT⟩
    rw [← hT] at VT
    have KT : Kept _ := ⟨VT⟩
    obtain ⟨p9, c9, e9, _, _⟩ := VT
    obtain ⟨n9, hn9⟩ : ∃ m, m = T.length := ⟨_, rfl⟩
    rw [← hn9] at e9
    subst e9
    have LT : Kept (T.length ≤ 32) := ⟨by rw [hT]; exact tL_le key info i⟩
    have YT : Kept (Bytes T) := ⟨by rw [hT]; exact tL_bytes key info i⟩
    have KX : Kept _ := ⟨RX⟩
    have K7 : Kept _ := ⟨hn7⟩
    clear hX hT hn9 RX hn7
    by_cases hlt : 32 * i < n
    case pos =>
      have h8 : n8 = 32 * i := by omega
      have E8 : Kept _ := ⟨h8⟩
      have lt8 : n8 < n := by omega
      have hlt' : (n8 : Int) < (n : Int) := by omega
      have n62 : n < 4611686018427387904 := by omega
      have q256 : q < 256 := by have := EQ.out; omega
      obtain ⟨T1, hT1⟩ : ∃ T, T = tL key info (i + 1) := ⟨_, rfl⟩
      have ET1 : Kept _ := ⟨hT1⟩
      have LT1 : Kept (T1.length = 32) := ⟨by rw [hT1]; exact tL_len key info i⟩
      obtain ⟨r, hr⟩ : ∃ r, r = n - n8 := ⟨_, rfl⟩
      obtain ⟨m, hm⟩ : ∃ m, m = min 32 r := ⟨_, rfl⟩
      have Er : Kept _ := ⟨hr⟩
      have Em : Kept _ := ⟨hm⟩
      have m32 : m ≤ 32 := by omega
      have n8m : n8 + m ≤ 8160 := by omega
      have NX : Kept (X ++ T1.take m = (tsL key info (i + 1)).take n) := ⟨by
        rw [tsL_succ, List.take_append, EX.out, tsL_len, ← ET1.out, List.take_of_length_le (show (tsL key info i).length ≤ n by rw [tsL_len]; omega)]
        congr 1
        rw [hm, hr, h8]
        by_cases h32 : n - 32 * i ≤ 32
        · rw [Nat.min_eq_right h32]
        · rw [Nat.min_eq_left (by omega), List.take_of_length_le (by rw [LT1.out]; exact Nat.le_refl _), List.take_of_length_le (by rw [LT1.out]; omega)]⟩
      have QB : Below wr.heap.size wr ((wr.alloc (.cells #[.int .u8 (q : Int)] 5)).alloc (.cells #[.slice p9 n9 c9, .slice pi ni ci, .slice (some ⟨wr.heap.size, 0, none⟩) 1 1] 32)) := ((Below.refl _ _).alloc (Nat.le_refl _) _).alloc (by simp) _
      have HBB := HB.trans (QB.mono HB.size)
      have RV : Kept (RowsV (.slice (some ⟨wr.heap.size + 1, 0, none⟩) 3 3) ((wr.alloc (.cells #[.int .u8 (q : Int)] 5)).alloc (.cells #[.slice p9 n9 c9, .slice pi ni ci, .slice (some ⟨wr.heap.size, 0, none⟩) 1 1] 32)) (fun j => [.slice p9 n9 c9, .slice pi ni ci, .slice (some ⟨wr.heap.size, 0, none⟩) 1 1].getD j undef) [T, info, [q]]) := ⟨rowsV_of (t := 32) [.slice p9 n9 c9, .slice pi ni ci, .slice (some ⟨wr.heap.size, 0, none⟩) 1 1] [T, info, [q]] rfl rfl (blk_top _ _ _ _ (by simp)) (fun j v bs h1 h2 => by
        rcases j with _ | _ | _ | j <;> simp at h1 h2
        · subst h1 h2
          exact ⟨KT.out.under QB, YT.out, Nat.le_trans LT.out (by decide)⟩
        · subst h1 h2
          exact ⟨KV.out.under HBB, KI.out, Nat.le_of_lt (Nat.lt_of_lt_of_le KN.out (by decide))⟩
        · subst h1 h2
          refine ⟨arr_bytes (t := 5) (l := [q]) (Blk.alloc (blk_new wr _ _) _) rfl, fun j x hx => ?_, (by show 1 ≤ maxLen; decide)⟩
          rcases j with _ | j <;> simp at hx
          omega)⟩
      have C1 : Kept (Calls Tryd.prog 75 #[.agg KK, .slice (some ⟨wr.heap.size + 1, 0, none⟩) 3 3] ((wr.alloc (.cells #[.int .u8 (q : Int)] 5)).alloc (.cells #[.slice p9 n9 c9, .slice pi ni ci, .slice (some ⟨wr.heap.size, 0, none⟩) 1 1] 32)) fun e w' => e = .returned (.agg (ints .u8 T1)) ∧ Below (((wr.alloc (.cells #[.int .u8 (q : Int)] 5)).alloc (.cells #[.slice p9 n9 c9, .slice pi ni ci, .slice (some ⟨wr.heap.size, 0, none⟩) 1 1] 32))).heap.size ((wr.alloc (.cells #[.int .u8 (q : Int)] 5)).alloc (.cells #[.slice p9 n9 c9, .slice pi ni ci, .slice (some ⟨wr.heap.size, 0, none⟩) 1 1] 32)) w') := ⟨by
        have hc := ksum_any (xorL 92 (padL key)) (xorL 54 (padL key)) [T, info, [q]] _ _ _ (xorL_bytes (padL_bytes KY.out) (by decide)) (xorL_bytes (padL_bytes KY.out) (by decide)) (KR.out.below KR.out.1 HBB) RV.out ⟨by rw [xorL_len, padL_len]; decide, by rw [xorL_len, padL_len]; simp; have := LT.out; have := KN.out; omega⟩ (by simp)
        rw [EK.out, ET1.out, tL_succ, ← ET.out, ← EQ.out]
        have e : [T, info, [q]].flatten = T ++ (info ++ [q]) := by simp
        rw [e] at hc
        exact hc⟩
      clear hr hm hT1 RV h8 LX hn8
      go_wp2_with (first | ((with_reducible refine wv_rowS (d := 22) ?hd ?hw 129 (.tmp 7) ?ho (g7) ?hx (t' := 129) (KK) _ Tryd.underlying129 ?hs ?hg ?_); (case hd => rfl); (case hw => kernel_rfl); (case ho => rfl); (case hx => kernel_rfl); (case hs => exact SKK.out); (case hg => exact A7); simp only [Act.put, List.setIfInBounds_toArray, List.set_cons_succ, List.set_cons_zero]))
      refine C1.out.mono ?_
      rintro e w4 ⟨rfl, hb4⟩
      have QB4 := QB.trans (hb4.mono QB.size)
      clear C1 hb4 QB HBB
      go_wp2_with (first | (refine wl_store rfl 22 (.tmp 11) (.tmp 28) rfl w4.heap.size (ints .u8 T1) rfl rfl _ (blk_new w4 _ _) (by rw [ints_size, LT1.out]; exact t32_info) (by rw [ints_size, LT1.out]; rfl) (ints_one _ _) ?_))
      intro w5 A5 P5
      have QB5 : Below wr.heap.size wr w5 := (QB4.alloc QB4.size _).trans (P5.below QB4.size)
      have A75 := A7.under QB5
      have RX5 := KX.out.under QB5
      have V5 : IntsV .u8 (.slice (some ⟨w4.heap.size, 0, none⟩) 32 32) w5 T1 := arr_bytes A5 LT1.out
      have KV5 : Kept (IntsV .u8 (.slice (some ⟨w4.heap.size, 0, none⟩) m 32) w5 (T1.take m)) := ⟨V5.take (by rw [LT1.out]; exact m32)⟩
      have bX : Kept (∀ b, blkOf (.slice p8 n8 c8) = some b → w.heap.size ≤ b ∧ b < wr.heap.size) := ⟨KX.out.range⟩
      have szr := QB4.size
      have sz5 := RX5.range
      have hbase : w.heap.size ≤ w5.heap.size := Nat.le_trans HB.size QB5.size
      have LXT : Kept (X.length + (T1.take m).length ≤ 8796093022208) := ⟨by rw [List.length_take, EX.out, List.length_take]; omega⟩
      have HB5 := HB.trans (QB5.mono HB.size)
      clear A7 A5 P5 QB4 QB5 HB sz5
      go_wp2_with (first | ((with_reducible refine wv_val (d := 37) ?hd ?hw (.int .i64 (r : Int)) ?hr ?_); (case hd => rfl); (case hw => kernel_rfl); (case hr => intro w; exact run_subV rfl (by kernel_rfl) (by kernel_rfl) (Nat.le_of_lt lt8) n62 Er.out w); simp only [Act.put, List.setIfInBounds_toArray, List.set_cons_succ, List.set_cons_zero]) | ((with_reducible refine wv_val (d := 38) ?hd ?hw (.int .i64 (m : Int)) ?hr ?_); (case hd => rfl); (case hw => kernel_rfl); (case hr => intro w; exact run_min2 rfl (by kernel_rfl) (by kernel_rfl) Em.out w); simp only [Act.put, List.setIfInBounds_toArray, List.set_cons_succ, List.set_cons_zero]) | ((with_reducible refine wv_val (d := 39) ?hd ?hw (.slice (some ⟨w4.heap.size, 0, none⟩) m 32) ?hr ?_); (case hd => rfl); (case hw => kernel_rfl); (case hr => intro w; exact cutTo_run rfl (by kernel_rfl) (by kernel_rfl) Tryd.underlying32 sz_u8 m32 w); simp only [Act.put, List.setIfInBounds_toArray, List.set_cons_succ, List.set_cons_zero]) | (refine wl_app (by kernel_rfl) (.tmp 30) (.tmp 39) 32 5 .u8 1 rfl Tryd.underlying32 inf_u8 (by decide) w.heap.size X (T1.take m) _ _ rfl rfl RX5 KV5.out LXT.out hbase ?_))
      intro v8 w6 R6 G6 B6
      rw [NX.out] at R6
      have hne4 : blkOf (.slice p8 n8 c8) ≠ some w4.heap.size := fun e => by have := (bX.out _ e).2; omega
      have A76 : Blk w6 g7 129 KK := (G6.block g7 A75.lt (fun e => K7.out e.symm)).trans A75
      have V6 : IntsV .u8 (.slice (some ⟨w4.heap.size, 0, none⟩) 32 32) w6 T1 := V5.keeps G6 (.inr fun e => hne4 e.symm)
      have HB6 : Below w.heap.size w w6 := HB5.trans (grown_below0 G6 hbase (fun b hb => (bX.out b hb).1))
      have K76 : blkOf v8 ≠ some g7 := by
        rcases B6 with h | h
        · rw [h]; exact K7.out
        · rw [h]; intro e; cases e; exact Nat.lt_irrefl _ A75.lt
      have KR6 : Kept (Row w.heap.size 5 .u8 ((tsL key info (i + 1)).take n) v8 w6 ∧ blkOf v8 ≠ some g7 ∧ BytesV (.slice (some ⟨w4.heap.size, 0, none⟩) 32 32) w6 (tL key info (i + 1)) ∧ Below w.heap.size w w6 ∧ Blk w6 g7 129 KK) := ⟨R6, K76, by rw [← ET1.out]; exact V6, HB6, A76⟩
      obtain ⟨z, hz⟩ : ∃ z, z = (q + 1) % 256 := ⟨_, rfl⟩
      have Ez : Kept _ := ⟨hz⟩
      clear R6 G6 B6 hne4 A76 V6 HB6 K76 A75 RX5 V5 KV5 bX HB5 hbase LXT hz szr
      go_wp2_with (first | ((with_reducible refine wv_val (d := 21) ?hd ?hw (.int .u8 (z : Int)) ?hr ?_); (case hd => rfl); (case hw => kernel_rfl); (case hr => intro w; exact run_inc8 rfl (by kernel_rfl) Ez.out w); simp only [Act.put, List.setIfInBounds_toArray, List.set_cons_succ, List.set_cons_zero]))
      go_roundg (gk - 1)
      case measure => omega
      case rel => exact ⟨i + 1, z, by omega, by rfl, ⟨by omega, by have := Ez.out; have := EQ.out; omega, KR6.out⟩⟩
    case neg =>
      have h8 : n8 = n := by omega
      have hlt' : ¬ (n8 : Int) < (n : Int) := by omega
      have RXn : Kept (Row w.heap.size 5 .u8 (expL key info n) (.slice p8 n8 c8) wr) := ⟨by rw [← expL_of key info i n KI255.out (by omega), ← EX.out]; exact KX.out⟩
      clear LX hn8 h8
      go_wp2_with fail
      go_ret
      exact ⟨_, rfl, RXn.out, HB⟩
end Go.Proofs.YtjkdonjcngmjeaaDoor.sh
/-
  mac.Expand; mac.Keys where it is refused.
-/
namespace Go.Proofs.YtjkdonjcngmjeaaDoor.sh
open Go Go.RowKit
set_option linter.unusedVariables false
set_option linter.unusedSimpArgs false

set_option maxRecDepth 100000 in
set_option maxHeartbeats 1000000 in
theorem Keys_bad (C : Array Value) (z : Int) (vi : Value) (w : World) (hz : z < 1 ∨ 3 < z) :
    Calls Tryd.prog 67 #[.agg C, vi, .int .i64 z] w fun e w' => e = .returned (.tuple #[.slice none 0 0, .int .i64 2]) ∧ Below w.heap.size w w' := by
  have Q0 : Below w.heap.size w (w.alloc (.cells C 22)) := (Below.refl _ _).alloc (Nat.le_refl _) _
  rcases hz with h | h
  · go_enter Tryd.func67, Tryd.ntmps67
    go_wp2_with fail
    go_ret2
    exact ⟨rfl, Q0⟩
  · have h0 : ¬ z < 1 := by omega
    go_enter Tryd.func67, Tryd.ntmps67
    go_wp2_with fail
    go_ret2
    exact ⟨rfl, Q0⟩
end Go.Proofs.YtjkdonjcngmjeaaDoor.sh
/-
  The answers that the document fixes for layer 4 are as they must be.
-/
namespace Go.Proofs.YtjkdonjcngmjeaaDoor.sh
open Go Go.RowKit
set_option linter.unusedVariables false
set_option linter.unusedSimpArgs false

/-- A constant's bytes, marked, in a plain region. -/
theorem wl_conv {ops : Array Oper} {rest : List Oper} {o : Oper} {a : Act} {w : World} {Q : Exit → Act → World → Prop} {d : Nat} (hd : o.dst = some d) (hw : Region.wanted o (yielded ops a.tmps) = true) (t e : TypeId) (x : Operand) (ho : o.op = .convert t t x) (v : Value) (hx : a.eval x = v) (ht : Tryd.prog.underlying t = some (.slice e)) (he : Tryd.prog.underlying e = some (.int .u8)) (l : List Nat) (h : Const e .u8 l v w)
    (hk : ∀ w', Const e .u8 l v w' → w.grownBy w' (blkOf v) → wpList Tryd.prog ops Q rest (a.put o.dst v) w') : wpList Tryd.prog ops Q (o :: rest) a w :=
  BigFrame.wpList_want hw fun K hK => by
    obtain ⟨w', h4, h5, h6⟩ := conv_const ht he h
    unfold Oper.wp
    rw [run_conv ho hx h4]
    exact hK _ _ (hk w' h5 h6)
theorem Const.new {w : World} {e : TypeId} {k : IntKind} {l : List Nat} {n : Nat} (hn : l.length = n) : Const e k l (.slice (some ⟨w.heap.size, 0, none⟩) n n) (w.alloc (.cells (sh.ints k l) e)) := by subst hn; exact ⟨w.heap.size, (0, 0), rfl, heap_new w _⟩
theorem Const.alloc {w : World} {e : TypeId} {k : IntKind} {l : List Nat} {v : Value} (h : Const e k l v w) (o : Obj) : Const e k l v (w.alloc o) := by
  obtain ⟨g, fr, rfl, h2⟩ := h
  exact ⟨g, fr, rfl, (Below.heap_alloc w o g (Array.getElem?_eq_some_iff.1 h2).1).trans h2⟩
end Go.Proofs.YtjkdonjcngmjeaaDoor.sh
/-
  Strings made of bytes, and compared; small sums.
-/
namespace Go.Proofs.YtjkdonjcngmjeaaDoor.sh
open Go Go.RowKit
set_option linter.unusedVariables false
set_option linter.unusedSimpArgs false

/-- The string of bytes. -/
def strOf (l : List Nat) : ByteArray := (l.map fun n : Nat => (n : Int)).foldl (fun r n => r.push (UInt8.ofNat n.toNat)) ByteArray.empty
theorem ints_map (l : List Nat) : ((l.map fun n : Nat => (n : Int)).map (Value.int .u8)).toArray = ints .u8 l := by simp [ints]
theorem str_u : Tryd.prog.underlying 9 = some .string := by kernel_rfl
theorem conv_str {v : Value} {w : World} {l : List Nat} (h : IntsV .u8 v w l) : (convert 32 9 v).run Tryd.prog w = .ok (.string (strOf l)) w := by
  obtain ⟨p, c, rfl, h2, h3⟩ := h
  rw [run_convert_bytes_string (P := Tryd.prog) w 32 9 5 p l.length c Tryd.underlying32 Tryd.underlying5 str_u]
  cases p with
  | none =>
    have : l = [] := by
      cases l with
      | nil => rfl
      | cons x r => obtain ⟨A, h, _⟩ := h3 (by simp); cases h
    subst this
    rfl
  | some A =>
    refine run_bytesToString w A l.length c (l.map fun n : Nat => (n : Int)) ?_
    rw [ints_map]
    have hf := run_loadCells_list (P := Tryd.prog) w A (ints .u8 l).toList (by
      intro j y hj
      rw [Array.getElem?_toList] at hj
      have hjl : j < l.length := by have := (Array.getElem?_eq_some_iff.1 hj).1; rwa [ints_size] at this
      obtain ⟨A', e1, _, e3⟩ := h3 (by intro e; rw [e] at hjl; simp at hjl)
      cases e1
      rw [e3 j l[j] (List.getElem?_eq_getElem hjl), ← hj, ints_get (List.getElem?_eq_getElem hjl)])
    rw [ints_toList, Array.toArray_toList] at hf
    exact hf
theorem run_str {o : Oper} {a : Act} {x : Operand} {v : Value} {w : World} {l : List Nat} (ho : o.op = .convert 32 9 x) (hx : a.eval x = v) (h : IntsV .u8 v w l) : (execOp a.eval o).run Tryd.prog w = .ok (.value (.string (strOf l))) w := by
  unfold execOp
  simp only [ho, hx]
  simp [conv_str h]
section
variable {h : List Oper} {A0 A : Act} {W0 : World} {S : Nat → Option (Value → World → Prop)} {sp O : List Nat} {E : List (Nat × Nat)} {i : Nat} {o : Oper}
/-- Bytes made into a string, in a region that draws its order. -/
theorem ow_str (hA : Full h A0 A S sp) (hw : Wants h A0 A S O E W0.heap.size i o) (d : Nat) (v : Value) (hdet : detE h sp E i o = true) (hsel : notSel o = true) (hd : o.dst = some d) (hds : sp.contains d = false) (hO : O.contains d = false) (hv : A.tmps[d]? = some v) (x : Operand) (ho : o.op = .convert 32 9 x) (u : Value) (hx : A.eval x = u) (l : List Nat) (hl : ∀ w, Below W0.heap.size W0 w → IntsV .u8 u w l) (hvS : v = .string (strOf l)) : OwnOk Tryd.prog h A0 W0 (relR A S) O E i o :=
  ow_q hA hdet hsel hw d v hd hds hO hv fun w hb => by
    unfold Oper.quietAt
    rw [run_str ho hx (hl w hb)]
    exact ⟨rfl, hvS.symm⟩
end
/-- Bytes made into a string, in a plain region. -/
theorem wv_str {ops : Array Oper} {rest : List Oper} {o : Oper} {a : Act} {w : World} {Q : Exit → Act → World → Prop} {d : Nat} (hd : o.dst = some d) (hw : Region.wanted o (yielded ops a.tmps) = true) (x : Operand) (ho : o.op = .convert 32 9 x) (u : Value) (hx : a.eval x = u) (l : List Nat) (hl : IntsV .u8 u w l) (h : wpList Tryd.prog ops Q rest (a.put o.dst (.string (strOf l))) w) : wpList Tryd.prog ops Q (o :: rest) a w :=
  BigFrame.wpList_want hw fun K hK => by
    unfold Oper.wp
    rw [run_str ho hx hl]
    exact hK _ _ h
theorem run_mulV {o : Oper} {a : Act} {x : Operand} {i z : Nat} (c : Nat) (ho : o.op = .binOp .mul 3 x (.const (.int .i64 (c : Int))) 3) (hx : a.eval x = .int .i64 (i : Int)) (hz : z = i * c) (h62 : z < 4611686018427387904) (w : World) : (execOp a.eval o).run Tryd.prog w = .ok (.value (.int .i64 (z : Int))) w := by
  have e3 : a.eval (.const (.int .i64 (c : Int))) = .int .i64 (c : Int) := rfl
  have e4 : ((i : Int) * (c : Int)) = (z : Int) := by rw [hz]; simp
  unfold execOp
  simp only [ho, hx, e3]
  simp [go_sem, e4, IntKind.wrap_i64, wrap64]
  omega
theorem run_addC {o : Oper} {a : Act} {x : Operand} {i z : Nat} (c : Nat) (ho : o.op = .binOp .add 3 (.const (.int .i64 (c : Int))) x 3) (hx : a.eval x = .int .i64 (i : Int)) (hz : z = c + i) (h62 : z < 4611686018427387904) (w : World) : (execOp a.eval o).run Tryd.prog w = .ok (.value (.int .i64 (z : Int))) w := by
  have e3 : a.eval (.const (.int .i64 (c : Int))) = .int .i64 (c : Int) := rfl
  unfold execOp
  simp only [ho, hx, e3]
  simp [go_sem, IntKind.wrap_i64, wrap64]
  omega
theorem run_subC {o : Oper} {a : Act} {x : Operand} {i z : Nat} (c : Nat) (ho : o.op = .binOp .sub 3 (.const (.int .i64 (c : Int))) x 3) (hx : a.eval x = .int .i64 (i : Int)) (hz : z = c - i) (hle : i ≤ c) (h62 : c < 4611686018427387904) (w : World) : (execOp a.eval o).run Tryd.prog w = .ok (.value (.int .i64 (z : Int))) w := by
  have e3 : a.eval (.const (.int .i64 (c : Int))) = .int .i64 (c : Int) := rfl
  unfold execOp
  simp only [ho, hx, e3]
  simp [go_sem, IntKind.wrap_i64, wrap64]
  omega
theorem run_conv38 {o : Oper} {a : Act} {x : Operand} {m z : Nat} (ho : o.op = .convert 3 5 x) (hx : a.eval x = .int .i64 (m : Int)) (hz : z = m % 256) (w : World) : (execOp a.eval o).run Tryd.prog w = .ok (.value (.int .u8 (z : Int))) w := by
  unfold execOp
  simp only [ho, hx]
  simp [go_sem, IntKind.wrap_u8', hz]
end Go.Proofs.YtjkdonjcngmjeaaDoor.sh
/-
  Pieces of what is expanded; a byte in a slice of its own.
-/
namespace Go.Proofs.YtjkdonjcngmjeaaDoor.sh
open Go Go.RowKit
set_option linter.unusedVariables false
set_option linter.unusedSimpArgs false

theorem tsL_cut (key info : List Nat) (k i : Nat) (hi : i < k) : ((tsL key info k).drop (32 * i)).take 32 = tL key info (i + 1) := by
  obtain ⟨r, hr⟩ := tsL_pre key info (i + 1) (k - (i + 1))
  rw [show k = i + 1 + (k - (i + 1)) from by omega, hr, tsL_succ, List.append_assoc, List.drop_append, tsL_len, Nat.sub_self, List.drop_of_length_le (by rw [tsL_len]; exact Nat.le_refl _), List.nil_append, List.drop_zero, List.take_append_of_le_length (by rw [tL_len]; exact Nat.le_refl _), List.take_of_length_le (by rw [tL_len]; exact Nat.le_refl _)]
section
variable {h : List Oper} {A0 A : Act} {W0 : World} {S : Nat → Option (Value → World → Prop)} {sp O : List Nat} {E : List (Nat × Nat)} {i : Nat} {o : Oper}
end
end Go.Proofs.YtjkdonjcngmjeaaDoor.sh
/-
  What MacFilled answers.
-/
namespace Go.Proofs.YtjkdonjcngmjeaaDoor.sh
open Go Go.RowKit
set_option linter.unusedVariables false
set_option linter.unusedSimpArgs false

section
variable {h : List Oper} {A0 A : Act} {W0 : World} {S : Nat → Option (Value → World → Prop)} {sp O : List Nat} {E : List (Nat × Nat)} {i : Nat} {o : Oper}
end
end Go.Proofs.YtjkdonjcngmjeaaDoor.sh
/-
  Arguments that are arrays of ints.
-/
namespace Go.Proofs.YtjkdonjcngmjeaaDoor.sh
open Go Go.ChangeShapes Go.WideShapes Go.ChangeAt Go.RowKit
set_option linter.unusedVariables false
set_option linter.unusedSimpArgs false

set_option maxRecDepth 100000 in
theorem open_arr {H : Type} {enc : TypeId × Value → H} {W : World} {r : Reach} {b0 base : Nat} {sp : Nat → Bool} {held : Bool} {v : Value} {d : DataW H} {p : List MemPlace} {t e : TypeId} {n B : Nat} {kd : IntKind} (ht : Tryd.prog.underlying t = some (.array n e)) (he : Tryd.prog.underlying e = some (.int kd)) (ct : Tryd.prog.cellsOf t = n) (ce : Tryd.prog.cellsOf e = 1) (hB : ∀ k : Int, (Lit.int kd k).wf = true → 0 ≤ k ∧ k < B)
    (hv : Value.okWide Tryd.prog W r b0 t v) (h : DataW.Trod enc Tryd.prog W base sp held t v d p) : ∃ l : List Nat, v = .agg (ints kd l) ∧ l.length = n ∧ ∀ (i x : Nat), l[i]? = some x → x < B := by
  unfold Value.okWide at hv
  rw [ht] at hv
  obtain ⟨cs, rfl, hsz, _⟩ := hv
  rw [ct] at hsz
  obtain ⟨fuel, hf⟩ := h
  obtain ⟨xs, m, rfl, hx, hlen, hn, hel⟩ := DataW.trod_array ht hf
  have hb : ∀ i, ∃ k : Nat, i < n → cs[i]? = some (.int kd (k : Int)) ∧ k < B := by
    intro i
    by_cases hi : i < n
    · have h1 := hel i hi
      rw [ce, Nat.mul_one] at h1
      have hxi : xs[i]? = some (xs[i]'(by omega)) := List.getElem?_eq_getElem _
      rw [hxi] at h1
      obtain ⟨k, e1, e2, hwf⟩ := DataW.trod_int he h1
      have hi' : i < cs.size := by omega
      have e3 : ((Value.agg cs).cells.toList.drop i).take 1 = [cs[i]] := by
        simp only [Value.cells]
        rw [List.drop_eq_getElem_cons (by simpa using hi')]
        simp
      rw [e3] at e1
      obtain ⟨h2, h3⟩ := hB k hwf
      refine ⟨k.toNat, fun _ => ⟨?_, by omega⟩⟩
      rw [Int.toNat_of_nonneg h2, Array.getElem?_eq_getElem hi']
      simpa using e1
    · exact ⟨0, fun h' => absurd h' hi⟩
  let b : Nat → Nat := fun i => Classical.choose (hb i)
  have b1 : ∀ i, i < n → cs[i]? = some (.int kd (b i : Int)) ∧ b i < B := fun i => Classical.choose_spec (hb i)
  refine ⟨(List.range n).map b, ?_, by simp, fun i x hx => ?_⟩
  · congr 1
    apply Array.ext_getElem?
    intro j
    by_cases hj : j < n
    · rw [(b1 j hj).1]
      exact (ints_get (by simp [hj])).symm
    · rw [Array.getElem?_eq_none (by omega), Array.getElem?_eq_none (by rw [ints_size]; simp; omega)]
  · rw [List.getElem?_map] at hx
    obtain ⟨y, hy, rfl⟩ := Option.map_eq_some_iff.1 hx
    obtain ⟨h1, h2⟩ := List.getElem?_eq_some_iff.1 hy
    simp at h1 h2
    rw [← h2]
    exact (b1 _ h1).2
theorem c_32 : Tryd.prog.cellsOf 22 = 32 := by kernel_rfl
set_option maxRecDepth 100000 in
theorem open_arr32 {H : Type} {enc : TypeId × Value → H} {W : World} {r : Reach} {b0 base : Nat} {sp : Nat → Bool} {held : Bool} {v : Value} {d : DataW H} {p : List MemPlace}
    (hv : Value.okWide Tryd.prog W r b0 22 v) (h : DataW.Trod enc Tryd.prog W base sp held 22 v d p) : ∃ l : List Nat, v = .agg (ints .u8 l) ∧ l.length = 32 ∧ Bytes l :=
  open_arr (B := 256) Tryd.underlying22 Tryd.underlying5 c_32 cu8 (fun k hk => by have := bounds_u8 hk; omega) hv h
end Go.Proofs.YtjkdonjcngmjeaaDoor.sh
/-
  ChaCha20 as lists of numbers: quarters, rounds, blocks, and bytes that are turned by blocks.
-/
namespace Go.Proofs.YtjkdonjcngmjeaaDoor.sh
open Go Go.RowKit
set_option linter.unusedVariables false
set_option linter.unusedSimpArgs false

/-- A word turned to the left. -/
def rotl (x n : Nat) : Nat := x * 2 ^ n % 4294967296 ||| x / 2 ^ (32 - n)
theorem rotl_lt (x n : Nat) (h : x < 4294967296) : rotl x n < 4294967296 := by
  unfold rotl
  exact Nat.or_lt_two_pow (n := 32) (Nat.mod_lt _ (by decide)) (Nat.lt_of_le_of_lt (Nat.div_le_self _ _) h)
/-- The four words of a quarter. -/
def qa (a b c d : Nat) : Nat := (a + b) % 4294967296
def qd (a b c d : Nat) : Nat := rotl (d ^^^ qa a b c d) 16
def qc (a b c d : Nat) : Nat := (c + qd a b c d) % 4294967296
def qb (a b c d : Nat) : Nat := rotl (b ^^^ qc a b c d) 12
def qa2 (a b c d : Nat) : Nat := (qa a b c d + qb a b c d) % 4294967296
def qd2 (a b c d : Nat) : Nat := rotl (qd a b c d ^^^ qa2 a b c d) 8
def qc2 (a b c d : Nat) : Nat := (qc a b c d + qd2 a b c d) % 4294967296
def qb2 (a b c d : Nat) : Nat := rotl (qb a b c d ^^^ qc2 a b c d) 7
theorem xor_lt32 {m n : Nat} (h : m < 4294967296) (h' : n < 4294967296) : m ^^^ n < 4294967296 := Nat.xor_lt_two_pow (n := 32) h h'
structure Four (a b c d : Nat) : Prop where
  a : a < 4294967296
  b : b < 4294967296
  c : c < 4294967296
  d : d < 4294967296
theorem four_q {a b c d : Nat} (h : Four a b c d) : Four (qa a b c d) (qb a b c d) (qc a b c d) (qd a b c d) := by
  have ha : qa a b c d < 4294967296 := Nat.mod_lt _ (by decide)
  have hd : qd a b c d < 4294967296 := rotl_lt _ _ (xor_lt32 h.d ha)
  have hc : qc a b c d < 4294967296 := Nat.mod_lt _ (by decide)
  exact ⟨ha, rotl_lt _ _ (xor_lt32 h.b hc), hc, hd⟩
theorem four_q2 {a b c d : Nat} (h : Four a b c d) : Four (qa2 a b c d) (qb2 a b c d) (qc2 a b c d) (qd2 a b c d) := by
  have h1 := four_q h
  have ha : qa2 a b c d < 4294967296 := Nat.mod_lt _ (by decide)
  have hd : qd2 a b c d < 4294967296 := rotl_lt _ _ (xor_lt32 h1.d ha)
  have hc : qc2 a b c d < 4294967296 := Nat.mod_lt _ (by decide)
  exact ⟨ha, rotl_lt _ _ (xor_lt32 h1.b hc), hc, hd⟩
/-- Sixteen words. -/
structure Ws (w : List Nat) : Prop where
  len : w.length = 16
  lt : ∀ (i x : Nat), w[i]? = some x → x < 4294967296
theorem Ws.small {w : List Nat} (h : Ws w) (i : Nat) : w.getD i 0 < 4294967296 := by
  rw [List.getD_eq_getElem?_getD]
  cases e : w[i]? with
  | none => decide
  | some x => exact h.lt i x e
theorem Ws.set {w : List Nat} (h : Ws w) (i x : Nat) (hx : x < 4294967296) : Ws (w.set i x) := by
  refine ⟨by rw [List.length_set]; exact h.len, fun j y hy => ?_⟩
  rw [List.getElem?_set] at hy
  split at hy
  · split at hy
    · cases hy; exact hx
    · cases hy
  · exact h.lt j y hy
/-- A quarter of four words of some. -/
def qL (w : List Nat) (i j k l : Nat) : List Nat :=
  (((w.set i (qa2 (w.getD i 0) (w.getD j 0) (w.getD k 0) (w.getD l 0))).set j (qb2 (w.getD i 0) (w.getD j 0) (w.getD k 0) (w.getD l 0))).set k (qc2 (w.getD i 0) (w.getD j 0) (w.getD k 0) (w.getD l 0))).set l (qd2 (w.getD i 0) (w.getD j 0) (w.getD k 0) (w.getD l 0))
theorem Ws.four {w : List Nat} (h : Ws w) (i j k l : Nat) : Four (w.getD i 0) (w.getD j 0) (w.getD k 0) (w.getD l 0) := ⟨h.small i, h.small j, h.small k, h.small l⟩
theorem Ws.q {w : List Nat} (h : Ws w) (i j k l : Nat) : Ws (qL w i j k l) := by
  have f := four_q2 (h.four i j k l)
  unfold qL
  exact (((h.set i _ f.a).set j _ f.b).set k _ f.c).set l _ f.d
/-- The first four quarters, one by one, and the other ones. -/
def colL (w : List Nat) : Nat → List Nat
  | 0 => w
  | i + 1 => qL (colL w i) i (i + 4) (i + 8) (i + 12)
def diaL (w : List Nat) : Nat → List Nat
  | 0 => w
  | i + 1 => qL (diaL w i) i ((i + 1) % 4 + 4) ((i + 2) % 4 + 8) ((i + 3) % 4 + 12)
def dblL (w : List Nat) : List Nat := diaL (colL w 4) 4
def mixT (w : List Nat) : Nat → List Nat
  | 0 => w
  | n + 1 => dblL (mixT w n)
theorem Ws.col {w : List Nat} (h : Ws w) : ∀ i, Ws (colL w i)
  | 0 => h
  | i + 1 => (h.col i).q _ _ _ _
theorem Ws.dia {w : List Nat} (h : Ws w) : ∀ i, Ws (diaL w i)
  | 0 => h
  | i + 1 => (h.dia i).q _ _ _ _
theorem Ws.dbl {w : List Nat} (h : Ws w) : Ws (dblL w) := (h.col 4).dia 4
theorem Ws.mix {w : List Nat} (h : Ws w) : ∀ n, Ws (mixT w n)
  | 0 => h
  | n + 1 => (h.mix n).dbl
/-- A word of four bytes, the lowest first: of the first m of them. -/
def part (b : List Nat) (j : Nat) : Nat → Nat
  | 0 => 0
  | m + 1 => part b j m + b.getD (4 * j + m) 0 * 256 ^ m
end Go.Proofs.YtjkdonjcngmjeaaDoor.sh
/-
  A word turned, and a quarter, by the program.
-/
namespace Go.Proofs.YtjkdonjcngmjeaaDoor.sh
open Go Go.RowKit
set_option linter.unusedVariables false
set_option linter.unusedSimpArgs false

end Go.Proofs.YtjkdonjcngmjeaaDoor.sh
