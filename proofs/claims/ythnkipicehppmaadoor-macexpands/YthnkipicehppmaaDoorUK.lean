/-
  The reference of layer 4: a key filled up and changed.
-/
import Derived.Test.YthnkipicehppmaaDoorUJ
import Derived.Test.YthnkipicehppmaaDoorTN
namespace Go.Proofs.YthnkipicehppmaaDoor.sh
open Go Go.RowKit
set_option linter.unusedVariables false
set_option linter.unusedSimpArgs false

theorem run_idxS0 {o : Oper} {a : Act} {x y : Operand} {i l c g : Nat} {t e : TypeId} (ho : o.op = .indexAddr t x y) (hx : a.eval x = .slice (some ⟨g, 0, none⟩) l c) (hy : a.eval y = .int .i64 (i : Int)) (ht : Tryd.prog.underlying t = some (.slice e)) (hi : i < l) (sz : ∀ w, (sizeOf e).run Tryd.prog w = .ok 1 w) (w : World) : (execOp a.eval o).run Tryd.prog w = .ok (.value (.pointer (some ⟨g, i, none⟩))) w := by
  have h := run_idxS ho hx hy ht hi sz w
  rw [addr_add, Nat.zero_add] at h
  exact h
theorem one_zero (w : World) (x : Nat) : IntsV .u8 (.slice (some ⟨w.heap.size, 0, none⟩) 1 1) (w.alloc (.cells #[.int .u8 (x : Int)] 5)) [x] := arr_bytes (t := 5) (l := [x]) (blk_new w _ _) rfl
theorem rep_snoc (K : List Nat) (j : Nat) : K ++ List.replicate j 0 ++ [0] = K ++ List.replicate (j + 1) 0 := by
  rw [List.append_assoc, ← List.replicate_succ']
set_option maxRecDepth 100000 in
set_option maxHeartbeats 4000000 in
/-- What is done with the bytes, once they are copied. -/
theorem rfilled_any (key : List Nat) (b : Nat) (v : Value) (w : World) (hy : Bytes key) (hn : key.length ≤ 1000) (hb : b < 256) (hv : BytesV v w key) :
    Calls Tryd.prog 21 #[v, .int .u8 (b : Int)] w fun e w' => ∃ v', e = .returned v' ∧ Row w.heap.size 5 .u8 (xorL b (padL key)) v' w' ∧ Below w.heap.size w w' := by
  have KV : Kept _ := ⟨hv⟩
  have KY : Kept _ := ⟨hy⟩
  have KN : Kept _ := ⟨hn⟩
  have KB : Kept _ := ⟨hb⟩
  obtain ⟨p, c, rfl, _, _⟩ := hv
  obtain ⟨n, hn0⟩ : ∃ n, n = key.length := ⟨_, rfl⟩
  have EN : Kept _ := ⟨hn0⟩
  rw [← hn0] at KV hn ⊢
  obtain ⟨P, hP⟩ : ∃ P, P = padL key := ⟨_, rfl⟩
  rw [← hP]
  have LP : Kept (P.length = 64) := ⟨by rw [hP]; exact padL_len key⟩
  have EP : Kept _ := ⟨hP⟩
  have YP : Kept (Bytes P) := ⟨by rw [hP]; exact padL_bytes hy⟩
  have Q0 : Below w.heap.size w (w.alloc (.cells #[] 5)) := (Below.refl _ _).alloc (Nat.le_refl _) _
  have R0 : Row w.heap.size 5 .u8 [] (.slice (some ⟨w.heap.size, 0, none⟩) 0 0) (w.alloc (.cells #[] 5)) := row_empty w (Nat.le_refl _)
  have V0 : Kept (IntsV .u8 (.slice p n c) (w.alloc (.cells #[] 5)) key) := ⟨bytesV_ints (KV.out.under Q0)⟩
  have L0 : Kept (([] : List Nat).length + key.length ≤ 8796093022208) := ⟨by simp; have := KN.out; omega⟩
  have hb0 : w.heap.size ≤ (w.alloc (.cells #[] 5)).heap.size := by simp
  clear hP hy hn0
  go_enter Tryd.func21, Tryd.ntmps21
  go_wp2_with (first | (refine wl_app (by kernel_rfl) (.tmp 8) (.tmp 9) 22 5 .u8 1 (show _ = _ from rfl) Tryd.underlying22 inf_u8 (by decide) w.heap.size [] key _ _ rfl rfl R0 V0.out L0.out hb0 ?_))
  intro v1 w1 R1 G1 B1
  have Q1 : Below w.heap.size w w1 := Q0.trans (grown_below0 G1 hb0 (fun b hb => by cases hb; exact Nat.le_refl _))
  clear G1 B1 R0 V0 L0 hb0 Q0
  by_cases h64 : 64 < n
  case pos =>
    have h64' : (64 : Int) < (n : Int) := by omega
    have C1 : Kept (Calls Tryd.prog 20 #[.slice p n c] w1 fun e w' => e = .returned (.agg (ints .u8 (sumL key))) ∧ Below w1.heap.size w1 w') := ⟨rSum_any key _ w1 (KV.out.under Q1) KY.out KN.out⟩
    clear R1
    go_wp2_with fail
    refine C1.out.mono ?_
    rintro e w2 ⟨rfl, hb2⟩
    obtain ⟨S, hS⟩ : ∃ S, S = sumL key := ⟨_, rfl⟩
    rw [← hS]
    have LS : Kept (S.length = 32) := ⟨by rw [hS]; exact sumL_len key⟩
    have ES : Kept _ := ⟨hS⟩
    have Q2 := Q1.trans (hb2.mono Q1.size)
    clear hS hb2 Q1 C1
    go_wp2_with (first | (refine wl_store rfl 24 (.tmp 6) (.tmp 15) rfl w2.heap.size (ints .u8 S) rfl rfl _ (blk_new w2 _ _) (by rw [ints_size, LS.out]; exact t32_info) (by rw [ints_size, LS.out]; rfl) (ints_one _ _) ?_))
    intro w3 A3 P3
    have Q3 := (Q2.alloc Q2.size _).trans (P3.below Q2.size)
    have Q4 : Below w.heap.size w (w3.alloc (.cells #[] 5)) := Q3.alloc Q3.size _
    have R0 : Row w.heap.size 5 .u8 [] (.slice (some ⟨w3.heap.size, 0, none⟩) 0 0) (w3.alloc (.cells #[] 5)) := row_empty w3 Q3.size
    have V0 : Kept (IntsV .u8 (.slice (some ⟨w2.heap.size, 0, none⟩) 32 32) (w3.alloc (.cells #[] 5)) S) := ⟨arr_bytes (A3.alloc _) LS.out⟩
    have L0 : Kept (([] : List Nat).length + S.length ≤ 8796093022208) := ⟨by rw [LS.out]; decide⟩
    have hb0 := Q4.size
    have hb3 := Q3.size
    clear P3 Q2 A3
    go_wp2_with (first | (refine wl_app (by kernel_rfl) (.tmp 16) (.tmp 17) 22 5 .u8 1 (show _ = _ from rfl) Tryd.underlying22 inf_u8 (by decide) w.heap.size [] S _ _ rfl rfl R0 V0.out L0.out hb0 ?_))
    intro vK wK RK GK BK
    have QK : Below w.heap.size w wK := Q4.trans (grown_below0 GK hb0 (fun b hb => by cases hb; exact hb3))
    have LK : S.length ≤ 64 := by rw [LS.out]; decide
    have EK : Kept (S ++ List.replicate (64 - S.length) 0 = P) := ⟨by rw [EP.out, LS.out]; unfold padL; rw [if_pos (by rw [← EN.out]; exact h64), ES.out]⟩
    clear GK BK R0 V0 L0 hb0 Q3 Q4 hb3
    go_wp2_with fail
    go_loopg [5] (64 - S.length) (fun m s5 wr => ∃ j : Nat, j + S.length + m = 64 ∧ Kept (Row w.heap.size 5 .u8 (S ++ List.replicate j 0) s5 wr ∧ Below w.heap.size w wr))
    case atStart => exact ⟨0, by omega, ⟨by simpa using RK, QK⟩⟩
    case round =>
      clear RK QK
      obtain ⟨j, hj, KQ⟩ := hrel
      obtain ⟨RX, HB⟩ := KQ.out
      clear KQ
      obtain ⟨X, hX⟩ : ∃ X, X = S ++ List.replicate j 0 := ⟨_, rfl⟩
      have LX : X.length = S.length + j := by rw [hX, List.length_append, List.length_replicate]
      have EX : Kept _ := ⟨hX⟩
      rw [← hX] at RX
      have KX : Kept _ := ⟨RX⟩
      obtain ⟨p5, c5, e5, _, _⟩ := row_cells RX
      obtain ⟨n5, hn5⟩ : ∃ m, m = X.length := ⟨_, rfl⟩
      rw [← hn5] at e5
      subst e5
      clear hX RX
      by_cases hlt : n5 < 64
      case pos =>
        have hlt' : (n5 : Int) < 64 := by omega
        have RA : Row w.heap.size 5 .u8 X (.slice p5 n5 c5) (wr.alloc (.cells #[.int .u8 0] 5)) := KX.out.alloc _
        have VA : Kept (IntsV .u8 (.slice (some ⟨wr.heap.size, 0, none⟩) 1 1) (wr.alloc (.cells #[.int .u8 0] 5)) [0]) := ⟨one_zero wr 0⟩
        have LA : Kept (X.length + [0].length ≤ 8796093022208) := ⟨by rw [← hn5]; simp; omega⟩
        have QA : Below w.heap.size w (wr.alloc (.cells #[.int .u8 0] 5)) := HB.alloc HB.size _
        have hba := QA.size
        have bX : Kept (∀ b, blkOf (.slice p5 n5 c5) = some b → w.heap.size ≤ b) := ⟨fun b hb => (KX.out.range b hb).1⟩
        have j64 : Kept (j + 1 + S.length + (gk - 1) = 64) := ⟨by omega⟩
        clear LX hn5
        go_wp2_with (first | (refine wl_app (by kernel_rfl) (.tmp 22) (.tmp 23) 22 5 .u8 1 (show _ = _ from rfl) Tryd.underlying22 inf_u8 (by decide) w.heap.size X [0] _ _ rfl rfl RA VA.out LA.out hba ?_))
        intro v6 w6 R6 G6 B6
        have R6 : Row w.heap.size 5 .u8 (S ++ List.replicate (j + 1) 0) v6 w6 := by rw [← rep_snoc, ← EX.out]; exact R6
        have Q6 : Below w.heap.size w w6 := QA.trans (grown_below0 G6 hba bX.out)
        clear G6 B6 RA VA LA QA hba bX HB
        go_wp2_with fail
        go_roundg (gk - 1)
        case measure => have := j64.out; omega
        case rel => exact ⟨j + 1, by have := j64.out; omega, ⟨R6, Q6⟩⟩
      case neg =>
        have hlt' : ¬ (n5 : Int) < 64 := by omega
        obtain rfl : n5 = 64 := by omega
        have XP : X = P := by rw [EX.out, ← EK.out]; congr 2; omega
        subst XP
        obtain ⟨g5, cap, cur, e5, hg5, _, _, _⟩ := Row.form KX.out (by omega)
        rw [← hn5] at e5
        cases e5
        rename World => wz
        have KX0 : Kept (Row w.heap.size 5 .u8 (xTo b X 0) (.slice (some ⟨g5, 0, none⟩) 64 c5) wz) := ⟨by rw [xTo_zero]; exact KX.out⟩
        clear LX hj KX hn5 LK
        go_wp2_with fail
        go_loopg [7] 64 (fun m s7 wr => ∃ i : Nat, i + m = 64 ∧ s7 = .int .i64 (i : Int) ∧ Kept (Row w.heap.size 5 .u8 (xTo b X i) (.slice (some ⟨g5, 0, none⟩) 64 c5) wr ∧ Below w.heap.size w wr))
        case atStart => exact ⟨0, by omega, rfl, ⟨KX0.out, HB⟩⟩
        case round =>
          clear KX0 HB
          obtain ⟨i, hik, rfl, KQ⟩ := hrel
          obtain ⟨RX, HB⟩ := KQ.out
          clear KQ
          have KX : Kept _ := ⟨RX⟩
          by_cases hi : i < 64
          case pos =>
            have hi' : (i : Int) < 64 := by omega
            obtain ⟨Y, hY⟩ : ∃ Y, Y = xTo b X i := ⟨_, rfl⟩
            have LY : Y.length = 64 := by rw [hY, xTo_len, LP.out]
            rw [← hY] at RX KX
            obtain ⟨g, cap, cur, e5, _, hB, hsz, hcs⟩ := Row.form RX (by omega)
            rw [LY] at e5
            cases e5
            obtain ⟨x, hx⟩ : ∃ x, X[i]? = some x := ⟨_, List.getElem?_eq_getElem (by have := LP.out; omega)⟩
            have hx8 : x < 256 := YP.out i x hx
            obtain ⟨z, hz⟩ : ∃ z, z = x ^^^ b := ⟨_, rfl⟩
            have Kx : Kept (cur[i]? = some (.int .u8 (x : Int))) := ⟨hcs i x (by rw [hY, xTo_get]; exact hx)⟩
            have KS : Kept (Y.set i z = xTo b X (i + 1)) := ⟨by rw [hY, hz]; exact xTo_succ b X i x hx⟩
            have ic : i < cur.size := by omega
            have Ez : Kept _ := ⟨hz⟩
            clear hY hx hz hcs RX hsz LY
            go_wp2_with (first | ((with_reducible refine wv_val (d := 33) ?hd ?hw (.pointer (some ⟨g5, i, none⟩)) ?hr ?_); (case hd => rfl); (case hw => kernel_rfl); (case hr => intro w; exact run_idxS0 rfl (by kernel_rfl) (by kernel_rfl) Tryd.underlying22 hi sz_u8 w); simp only [Act.put, List.setIfInBounds_toArray, List.set_cons_succ, List.set_cons_zero]) | (refine wl_elem rfl 5 ag_u8 (.tmp 33) rfl g5 i rfl cur (.int .u8 (x : Int)) hB Kx.out ?_) | ((with_reducible refine wv_val (d := 36) ?hd ?hw (.int .u8 (z : Int)) ?hr ?_); (case hd => rfl); (case hw => kernel_rfl); (case hr => intro w; exact run_xorV rfl (by kernel_rfl) (by kernel_rfl) hx8 KB.out Ez.out w); simp only [Act.put, List.setIfInBounds_toArray, List.set_cons_succ, List.set_cons_zero]) | ((with_reducible refine wv_val (d := 37) ?hd ?hw (.pointer (some ⟨g5, i, none⟩)) ?hr ?_); (case hd => rfl); (case hw => kernel_rfl); (case hr => intro w; exact run_idxS0 rfl (by kernel_rfl) (by kernel_rfl) Tryd.underlying22 hi sz_u8 w); simp only [Act.put, List.setIfInBounds_toArray, List.set_cons_succ, List.set_cons_zero]) | (refine wl_setElem rfl 5 sz_u8 (.tmp 37) (.tmp 36) rfl g5 i .u8 (z : Int) rfl rfl cur hB ic ?_))
            intro w7 A7 P7
            have R7 : Row w.heap.size 5 .u8 (xTo b X (i + 1)) (.slice (some ⟨g5, 0, none⟩) 64 c5) w7 := by rw [← KS.out]; exact row_set KX.out hB i z A7
            have Q7 := HB.trans (P7.below hg5)
            clear A7 P7 hB HB KS KX Kx ic
            go_wp2_with fail
            go_roundg (gk - 1)
            case measure => omega
            case rel => exact ⟨i + 1, by omega, by simp, ⟨R7, Q7⟩⟩
          case neg =>
            have hi' : ¬ (i : Int) < 64 := by omega
            have KR7 : Kept (Row w.heap.size 5 .u8 (xorL b X) (.slice (some ⟨g5, 0, none⟩) 64 c5) wr) := ⟨by rw [← xTo_all b X i (by rw [LP.out]; omega)]; exact RX⟩
            clear RX KX
            go_wp2_with fail
            go_ret
            exact ⟨_, rfl, KR7.out, HB⟩
  case neg =>
    have h64' : ¬ (64 : Int) < (n : Int) := by omega
    have RK : Row w.heap.size 5 .u8 key v1 w1 := R1
    have QK := Q1
    have LK : key.length ≤ 64 := by have := EN.out; omega
    have EK : Kept (key ++ List.replicate (64 - key.length) 0 = P) := ⟨by rw [EP.out]; unfold padL; rw [if_neg (by omega)]⟩
    clear R1 Q1
    go_wp2_with fail
    go_loopg [5] (64 - key.length) (fun m s5 wr => ∃ j : Nat, j + key.length + m = 64 ∧ Kept (Row w.heap.size 5 .u8 (key ++ List.replicate j 0) s5 wr ∧ Below w.heap.size w wr))
    case atStart => exact ⟨0, by omega, ⟨by simpa using RK, QK⟩⟩
    case round =>
      clear RK QK
      obtain ⟨j, hj, KQ⟩ := hrel
      obtain ⟨RX, HB⟩ := KQ.out
      clear KQ
      obtain ⟨X, hX⟩ : ∃ X, X = key ++ List.replicate j 0 := ⟨_, rfl⟩
      have LX : X.length = key.length + j := by rw [hX, List.length_append, List.length_replicate]
      have EX : Kept _ := ⟨hX⟩
      rw [← hX] at RX
      have KX : Kept _ := ⟨RX⟩
      obtain ⟨p5, c5, e5, _, _⟩ := row_cells RX
      obtain ⟨n5, hn5⟩ : ∃ m, m = X.length := ⟨_, rfl⟩
      rw [← hn5] at e5
      subst e5
      clear hX RX
      by_cases hlt : n5 < 64
      case pos =>
        have hlt' : (n5 : Int) < 64 := by omega
        have RA : Row w.heap.size 5 .u8 X (.slice p5 n5 c5) (wr.alloc (.cells #[.int .u8 0] 5)) := KX.out.alloc _
        have VA : Kept (IntsV .u8 (.slice (some ⟨wr.heap.size, 0, none⟩) 1 1) (wr.alloc (.cells #[.int .u8 0] 5)) [0]) := ⟨one_zero wr 0⟩
        have LA : Kept (X.length + [0].length ≤ 8796093022208) := ⟨by rw [← hn5]; simp; omega⟩
        have QA : Below w.heap.size w (wr.alloc (.cells #[.int .u8 0] 5)) := HB.alloc HB.size _
        have hba := QA.size
        have bX : Kept (∀ b, blkOf (.slice p5 n5 c5) = some b → w.heap.size ≤ b) := ⟨fun b hb => (KX.out.range b hb).1⟩
        have j64 : Kept (j + 1 + key.length + (gk - 1) = 64) := ⟨by omega⟩
        clear LX hn5
        go_wp2_with (first | (refine wl_app (by kernel_rfl) (.tmp 22) (.tmp 23) 22 5 .u8 1 (show _ = _ from rfl) Tryd.underlying22 inf_u8 (by decide) w.heap.size X [0] _ _ rfl rfl RA VA.out LA.out hba ?_))
        intro v6 w6 R6 G6 B6
        have R6 : Row w.heap.size 5 .u8 (key ++ List.replicate (j + 1) 0) v6 w6 := by rw [← rep_snoc, ← EX.out]; exact R6
        have Q6 : Below w.heap.size w w6 := QA.trans (grown_below0 G6 hba bX.out)
        clear G6 B6 RA VA LA QA hba bX HB
        go_wp2_with fail
        go_roundg (gk - 1)
        case measure => have := j64.out; omega
        case rel => exact ⟨j + 1, by have := j64.out; omega, ⟨R6, Q6⟩⟩
      case neg =>
        have hlt' : ¬ (n5 : Int) < 64 := by omega
        obtain rfl : n5 = 64 := by omega
        have XP : X = P := by rw [EX.out, ← EK.out]; congr 2; omega
        subst XP
        obtain ⟨g5, cap, cur, e5, hg5, _, _, _⟩ := Row.form KX.out (by omega)
        rw [← hn5] at e5
        cases e5
        rename World => wz
        have KX0 : Kept (Row w.heap.size 5 .u8 (xTo b X 0) (.slice (some ⟨g5, 0, none⟩) 64 c5) wz) := ⟨by rw [xTo_zero]; exact KX.out⟩
        clear LX hj KX hn5 LK
        go_wp2_with fail
        go_loopg [7] 64 (fun m s7 wr => ∃ i : Nat, i + m = 64 ∧ s7 = .int .i64 (i : Int) ∧ Kept (Row w.heap.size 5 .u8 (xTo b X i) (.slice (some ⟨g5, 0, none⟩) 64 c5) wr ∧ Below w.heap.size w wr))
        case atStart => exact ⟨0, by omega, rfl, ⟨KX0.out, HB⟩⟩
        case round =>
          clear KX0 HB
          obtain ⟨i, hik, rfl, KQ⟩ := hrel
          obtain ⟨RX, HB⟩ := KQ.out
          clear KQ
          have KX : Kept _ := ⟨RX⟩
          by_cases hi : i < 64
          case pos =>
            have hi' : (i : Int) < 64 := by omega
            obtain ⟨Y, hY⟩ : ∃ Y, Y = xTo b X i := ⟨_, rfl⟩
            have LY : Y.length = 64 := by rw [hY, xTo_len, LP.out]
            rw [← hY] at RX KX
            obtain ⟨g, cap, cur, e5, _, hB, hsz, hcs⟩ := Row.form RX (by omega)
            rw [LY] at e5
            cases e5
            obtain ⟨x, hx⟩ : ∃ x, X[i]? = some x := ⟨_, List.getElem?_eq_getElem (by have := LP.out; omega)⟩
            have hx8 : x < 256 := YP.out i x hx
            obtain ⟨z, hz⟩ : ∃ z, z = x ^^^ b := ⟨_, rfl⟩
            have Kx : Kept (cur[i]? = some (.int .u8 (x : Int))) := ⟨hcs i x (by rw [hY, xTo_get]; exact hx)⟩
            have KS : Kept (Y.set i z = xTo b X (i + 1)) := ⟨by rw [hY, hz]; exact xTo_succ b X i x hx⟩
            have ic : i < cur.size := by omega
            have Ez : Kept _ := ⟨hz⟩
            clear hY hx hz hcs RX hsz LY
            go_wp2_with (first | ((with_reducible refine wv_val (d := 33) ?hd ?hw (.pointer (some ⟨g5, i, none⟩)) ?hr ?_); (case hd => rfl); (case hw => kernel_rfl); (case hr => intro w; exact run_idxS0 rfl (by kernel_rfl) (by kernel_rfl) Tryd.underlying22 hi sz_u8 w); simp only [Act.put, List.setIfInBounds_toArray, List.set_cons_succ, List.set_cons_zero]) | (refine wl_elem rfl 5 ag_u8 (.tmp 33) rfl g5 i rfl cur (.int .u8 (x : Int)) hB Kx.out ?_) | ((with_reducible refine wv_val (d := 36) ?hd ?hw (.int .u8 (z : Int)) ?hr ?_); (case hd => rfl); (case hw => kernel_rfl); (case hr => intro w; exact run_xorV rfl (by kernel_rfl) (by kernel_rfl) hx8 KB.out Ez.out w); simp only [Act.put, List.setIfInBounds_toArray, List.set_cons_succ, List.set_cons_zero]) | ((with_reducible refine wv_val (d := 37) ?hd ?hw (.pointer (some ⟨g5, i, none⟩)) ?hr ?_); (case hd => rfl); (case hw => kernel_rfl); (case hr => intro w; exact run_idxS0 rfl (by kernel_rfl) (by kernel_rfl) Tryd.underlying22 hi sz_u8 w); simp only [Act.put, List.setIfInBounds_toArray, List.set_cons_succ, List.set_cons_zero]) | (refine wl_setElem rfl 5 sz_u8 (.tmp 37) (.tmp 36) rfl g5 i .u8 (z : Int) rfl rfl cur hB ic ?_))
            intro w7 A7 P7
            have R7 : Row w.heap.size 5 .u8 (xTo b X (i + 1)) (.slice (some ⟨g5, 0, none⟩) 64 c5) w7 := by rw [← KS.out]; exact row_set KX.out hB i z A7
            have Q7 := HB.trans (P7.below hg5)
            clear A7 P7 hB HB KS KX Kx ic
            go_wp2_with fail
            go_roundg (gk - 1)
            case measure => omega
            case rel => exact ⟨i + 1, by omega, by simp, ⟨R7, Q7⟩⟩
          case neg =>
            have hi' : ¬ (i : Int) < 64 := by omega
            have KR7 : Kept (Row w.heap.size 5 .u8 (xorL b X) (.slice (some ⟨g5, 0, none⟩) 64 c5) wr) := ⟨by rw [← xTo_all b X i (by rw [LP.out]; omega)]; exact RX⟩
            clear RX KX
            go_wp2_with fail
            go_ret
            exact ⟨_, rfl, KR7.out, HB⟩
end Go.Proofs.YthnkipicehppmaaDoor.sh
