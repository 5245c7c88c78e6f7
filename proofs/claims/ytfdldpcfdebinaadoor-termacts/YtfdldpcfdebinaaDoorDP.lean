/-
  TermBoth.
-/
import Derived.Test.YtfdldpcfdebinaaDoorDO
namespace Go.Proofs.YtfdldpcfdebinaaDoor.sh
open Go Go.RowKit
set_option linter.unusedVariables false
set_option linter.unusedSimpArgs false

theorem dhL_name (ts : List TermL) (a b : List Nat) : Bytes (dhL ts a b).2.1 ∧ (dhL ts a b).2.1.length ≤ maxLen := by
  rw [dhL_part]
  split
  · exact ⟨putL_bytes _ _, Nat.le_trans (putL_len32 _ _) (by decide)⟩
  · exact ⟨nil_bytes, Nat.zero_le _⟩
theorem run_eqBB {o : Oper} {a : Act} {x y : Operand} {u : TypeId} {b : Bool} (ho : o.op = .binOp .eql 4 x y u) (hx : a.eval x = .bool b) (hy : a.eval y = .bool b) (w : World) : (execOp a.eval o).run Tryd.prog w = .ok (.value (.bool true)) w := by
  unfold execOp
  simp only [ho, hx, hy]
  cases b <;> kernel_rfl
theorem fits_one {a : List Nat} (h : a.length ≤ 1000) : Fits [a] := ⟨by simp, fun l hl => by simp at hl; subst hl; omega, by simp [itemsL, itemL]; omega⟩
theorem fits_two {a b : List Nat} (h : a.length ≤ 1000) (h2 : b.length ≤ 1000) : Fits [a, b] := ⟨by simp, fun l hl => by simp at hl; rcases hl with rfl | rfl <;> omega, by simp [itemsL, itemL]; omega⟩
theorem fits_sort {a b : List Nat} (h : a.length ≤ 1000) (h2 : b.length ≤ 1000) : Fits (sort2 a b) := by
  unfold sort2
  split
  · exact fits_two h2 h
  · exact fits_two h h2
set_option maxRecDepth 100000 in
set_option maxHeartbeats 4000000 in
theorem both9 (v : Value) (l : List ActL) (a b : List Nat) (w : World) (hv : ActsV v w l) (hok : ∀ x ∈ l, ActOk x) (hN : l.length ≤ maxLen) (ha : Bytes a) (hal : a.length ≤ maxLen) (hb : Bytes b) (hbl : b.length ≤ maxLen) :
    Calls Tryd.prog 5 #[v, .string (strOf a), .string (strOf b)] w fun e w' => e = .returned (.bool true) ∧ Below w.heap.size w w' := by
  have KAl : Kept _ := ⟨alive9 w⟩
  have CH := fun w1 (q : Below w.heap.size w w1) => heavyD (hv.under q) hN
  obtain ⟨p, c, rfl, hc⟩ := acts_form hv rfl
  obtain ⟨n, hn⟩ : ∃ n, n = l.length := ⟨_, rfl⟩
  rw [← hn] at hv hc hN CH ⊢
  have KH : Kept _ := ⟨CH⟩
  have HN : Kept _ := ⟨hn⟩
  have HV : Kept _ := ⟨hv⟩
  have HO : Kept _ := ⟨hok⟩
  obtain ⟨z, hz⟩ : ∃ z, z = a.length := ⟨_, rfl⟩
  obtain ⟨y, hy⟩ : ∃ z, z = b.length := ⟨_, rfl⟩
  have KZ : Kept _ := ⟨hz⟩
  have KY : Kept _ := ⟨hy⟩
  have KA : Kept _ := ⟨ha⟩
  have KB : Kept _ := ⟨hb⟩
  have LA : Kept _ := ⟨hal⟩
  have LB : Kept _ := ⟨hbl⟩
  unfold maxLen at hN
  clear CH hn hv hok hz hy ha hb hal hbl
  go_enter Tryd.func5, Tryd.ntmps5
  go_wp2_with fail
  refine KAl.out.mono ?_
  rintro e w1 ⟨rfl, q1⟩
  clear KAl
  go_wp2_with fail
  refine NewD.mono ?_
  rintro e w2 ⟨⟨tb, M0, rfl, hT0⟩, q2⟩
  have hBw : w.heap.size ≤ w1.heap.size := q1.size
  have hQ0 := q1.trans (q2.mono q1.size)
  generalize hB : w1.heap.size = B at *
  clear q1 q2 hB
  go_wp2_with fail
  refine (KH.out _ hQ0).mono ?_
  rintro e w3 ⟨⟨hv, rfl, hb60⟩, q3⟩
  have hT3 := hT0.under q3
  have hQ3 := hQ0.trans (q3.mono hQ0.size)
  clear hT0 hQ0 q3 KH
  cases hv with
  | true =>
    go_wp2_with fail
    go_ret
    exact ⟨rfl, hQ3⟩
  | false =>
    have hlen0 := hb60 rfl
    clear hb60
    by_cases h1 : 1000 < z
    · have h' : (1000 : Int) < (z : Int) := by omega
      go_wp2_with (first | ((with_reducible refine wv_val (d := 29) ?hd ?hw (.int .i64 (z : Int)) ?hr ?_); (case hd => rfl); (case hw => kernel_rfl); (case hr => intro w; exact run_slen rfl (by kernel_rfl) KZ.out w); simp only [Act.put, List.setIfInBounds_toArray, List.set_cons_succ, List.set_cons_zero]))
      go_ret
      exact ⟨rfl, hQ3⟩
    · have h' : ¬ (1000 : Int) < (z : Int) := by omega
      have G30 : Kept (false = decide ((1000 : Int) < (z : Int))) := ⟨(decide_eq_false h').symm⟩
      by_cases h2 : 1000 < y
      · have h2' : (1000 : Int) < (y : Int) := by omega
        go_wp2_with (first | ((with_reducible refine wv_val (d := 29) ?hd ?hw (.int .i64 (z : Int)) ?hr ?_); (case hd => rfl); (case hw => kernel_rfl); (case hr => intro w; exact run_slen rfl (by kernel_rfl) KZ.out w); simp only [Act.put, List.setIfInBounds_toArray, List.set_cons_succ, List.set_cons_zero]) | ((with_reducible refine wv_val (d := 30) ?hd ?hw (.bool false) ?hr ?_); (case hd => rfl); (case hw => kernel_rfl); (case hr => intro w; exact run_gtrK 1000 rfl (by kernel_rfl) G30.out w); simp only [Act.put, List.setIfInBounds_toArray, List.set_cons_succ, List.set_cons_zero]) | ((with_reducible refine wv_val (d := 34) ?hd ?hw (.int .i64 (y : Int)) ?hr ?_); (case hd => rfl); (case hw => kernel_rfl); (case hr => intro w; exact run_slen rfl (by kernel_rfl) KY.out w); simp only [Act.put, List.setIfInBounds_toArray, List.set_cons_succ, List.set_cons_zero]))
        go_ret
        exact ⟨rfl, hQ3⟩
      · have h2' : ¬ (1000 : Int) < (y : Int) := by omega
        go_wp2_with (first | ((with_reducible refine wv_val (d := 29) ?hd ?hw (.int .i64 (z : Int)) ?hr ?_); (case hd => rfl); (case hw => kernel_rfl); (case hr => intro w; exact run_slen rfl (by kernel_rfl) KZ.out w); simp only [Act.put, List.setIfInBounds_toArray, List.set_cons_succ, List.set_cons_zero]) | ((with_reducible refine wv_val (d := 30) ?hd ?hw (.bool false) ?hr ?_); (case hd => rfl); (case hw => kernel_rfl); (case hr => intro w; exact run_gtrK 1000 rfl (by kernel_rfl) G30.out w); simp only [Act.put, List.setIfInBounds_toArray, List.set_cons_succ, List.set_cons_zero]) | ((with_reducible refine wv_val (d := 34) ?hd ?hw (.int .i64 (y : Int)) ?hr ?_); (case hd => rfl); (case hw => kernel_rfl); (case hr => intro w; exact run_slen rfl (by kernel_rfl) KY.out w); simp only [Act.put, List.setIfInBounds_toArray, List.set_cons_succ, List.set_cons_zero]))
        go_loopg [39] n (fun g s39 wr => ∃ (i : Nat) (M : Nat → Prop), i + g = n ∧ s39 = .int .i64 (i : Int) ∧ Tab tb B (actsL ([] : List TermL) (l.take i)) M wr ∧ Below w.heap.size w wr)
        case atStart => exact ⟨0, M0, by omega, rfl, hT3, hQ3⟩
        case round =>
          rename World => wz
          obtain ⟨i, M, hik, rfl, hT, hq⟩ := hrel
          by_cases hk0 : gk = 0
          case neg =>
            have hin : i < n := by omega
            have hin' : (i : Int) < (n : Int) := by omega
            have hi1 : (i : Int) + 1 ≤ 9223372036854775807 := by omega
            obtain ⟨x, hx⟩ : ∃ x, l[i]? = some x := ⟨_, List.getElem?_eq_getElem (by rw [← HN.out]; exact hin)⟩
            obtain ⟨A, rfl, hA, hcell⟩ := acts_at (HV.out.under hq) hx
            have KC : Kept _ := ⟨hcell⟩
            have hts : (actsL ([] : List TermL) (l.take i)).length < 1000000 := by
              have := (actsL_grows (l.take i) ([] : List TermL)).2
              rw [List.length_take] at this
              have := hlen0
              have h0 : ([] : List TermL).length = 0 := rfl
              omega
            have hxo := HO.out x (List.mem_of_getElem? hx)
            have CA := fun w1 (q : Below wz.heap.size wz w1) => actD (hT.under q) hxo hts
            obtain ⟨us, hus⟩ : ∃ us, us = (actL (actsL ([] : List TermL) (l.take i)) x).1 := ⟨_, rfl⟩
            have Kus : Kept (actsL ([] : List TermL) (l.take (i + 1)) = us) := ⟨by rw [List.take_add_one, hx, Option.toList_some, actsL_snoc, hus]⟩
            rw [← hus] at CA
            obtain ⟨AA, hAA⟩ : ∃ AA, AA = actA x := ⟨_, rfl⟩
            rw [← hAA] at CA
            have KA1 : Kept (AA.all (·.oneCell') = true) := ⟨by rw [hAA]; exact actA_one x⟩
            have KA6 : Kept (AA.size = 6) := ⟨by rw [hAA]; rfl⟩
            have KAA : Kept _ := ⟨hAA⟩
            have KCA : Kept _ := ⟨CA⟩
            clear hx hcell hus hAA CA hxo
            go_wp2_with (first | ((with_reducible refine wv_val (d := 41) ?hd ?hw (.pointer (some (A.add (i * 6)))) ?hr ?_); (case hd => rfl); (case hw => kernel_rfl); (case hr => intro w; exact run_idx6 rfl (by kernel_rfl) (by kernel_rfl) hin w); simp only [Act.put, List.setIfInBounds_toArray, List.set_cons_succ, List.set_cons_zero]) | (((with_reducible refine wv_act (d := 42) ?hd ?hw (.tmp 41) ?ho (A.add (i * 6)) ?hx (x) ?hc ?_); (case hd => rfl); (case hw => kernel_rfl); (case ho => rfl); (case hx => kernel_rfl); (case hc => exact KC.out); simp only [Act.put, List.setIfInBounds_toArray, List.set_cons_succ, List.set_cons_zero]); rw [← KAA.out]) | ((refine wl_store rfl 30 (.tmp 9) (.tmp 42) rfl wz.heap.size AA (by kernel_rfl) (by kernel_rfl) _ (blk_new wz 30 _) (by rw [KA6.out]; exact info_act) (by rw [KA6.out]; rfl) KA1.out ?_); intro w2 hb2 hp2; have q2 : Below wz.heap.size wz w2 := ((Below.refl _ _).alloc (Nat.le_refl _) _).trans (hp2.below (Nat.le_refl _)); simp only [Act.put, List.setIfInBounds_toArray, List.set_cons_succ, List.set_cons_zero]) | ((with_reducible refine wv_rowS (d := 44) ?hd ?hw 30 (.tmp 9) ?ho (wz.heap.size) ?hx (t' := 30) (AA) _ Tryd.underlying30 ?hs ?hg ?_); (case hd => rfl); (case hw => kernel_rfl); (case ho => rfl); (case hx => kernel_rfl); (case hs => rw [KA6.out]; exact info_act); (case hg => exact hb2); simp only [Act.put, List.setIfInBounds_toArray, List.set_cons_succ, List.set_cons_zero]))
            refine (KCA.out _ q2).mono ?_
            rintro e w4 ⟨rfl, hPu⟩
            obtain ⟨M2, hT2, tu⟩ := hPu.from q2
            have q4 := hq.trans ((hT.below tu).mono hBw)
            go_wp2_with fail
            go_roundg (gk - 1)
            case measure => omega
            case rel => exact ⟨i + 1, M2, by omega, by simp, by rw [Kus.out]; exact hT2, q4⟩
          case pos =>
            obtain rfl : n = i := by omega
            have et : l.take n = l := List.take_of_length_le (by rw [← HN.out]; exact Nat.le_refl _)
            rw [et] at hT
            have htsl : (actsL [] l).length ≤ 60 := by
              have := (actsL_grows l []).2
              rw [← HN.out] at this
              have h0 : ([] : List TermL).length = 0 := rfl
              omega
            generalize actsL ([] : List TermL) l = ts at hT htsl
            have hza : a.length ≤ 1000 := by have := KZ.out; omega
            have hyb : b.length ≤ 1000 := by have := KY.out; omega
            have F1 := both_names (ts := ts) (a := a) (b := b) (by omega) (fits_one hza) (fits_one hyb) (fits_sort hza hyb) (fits_sort hza hza)
            have G1 := putL_len ts (2, [a])
            have B1 := putL_bytes ts (2, [a])
            have L1 := putL_len32 ts (2, [a])
            obtain ⟨t1, N1, E1⟩ : ∃ t1 N1, putL ts (2, [a]) = (t1, N1) := ⟨_, _, rfl⟩
            rw [E1] at F1 G1 B1 L1
            have G2 := putL_len t1 (2, [b])
            have B2 := putL_bytes t1 (2, [b])
            have L2 := putL_len32 t1 (2, [b])
            obtain ⟨t2, N2, E2⟩ : ∃ t' N', putL t1 (2, [b]) = (t', N') := ⟨_, _, rfl⟩
            simp only [E2] at F1 G2 B2 L2
            have G3 := (dhL_grows t2 a N2).2
            have B3 := dhL_name t2 a N2
            obtain ⟨t3, N3, f3, E3⟩ : ∃ t' N' f', dhL t2 a N2 = (t', N', f') := ⟨_, _, _, rfl⟩
            simp only [E3] at F1 G3 B3
            have G4 := (dhL_grows t3 b N1).2
            have B4 := dhL_name t3 b N1
            obtain ⟨t4, N4, f4, E4⟩ : ∃ t' N' f', dhL t3 b N1 = (t', N', f') := ⟨_, _, _, rfl⟩
            simp only [E4] at F1 G4 B4
            have G5 := (dhL_grows t4 a N1).2
            have B5 := dhL_name t4 a N1
            obtain ⟨t5, N5, f5, E5⟩ : ∃ t' N' f', dhL t4 a N1 = (t', N', f') := ⟨_, _, _, rfl⟩
            simp only [E5] at F1 G5 B5
            obtain ⟨t6, N6, f6, E6⟩ : ∃ t' N' f', dhL t5 a N3 = (t', N', f') := ⟨_, _, _, rfl⟩
            simp only [E6] at F1
            obtain ⟨a1, a2, rfl, rfl, rfl, rfl, a7, rfl⟩ := F1
            obtain ⟨E, hE⟩ : ∃ E, E = decide (a = b) := ⟨_, rfl⟩
            have D1 : Kept (E = decide (N1 = N2)) := ⟨by rw [hE]; exact decide_eq_decide.2 a1.symm⟩
            have D2 : Kept (E = decide (N5 = N3)) := ⟨by rw [hE]; exact decide_eq_decide.2 a7.symm⟩
            have D3 : Kept (E = decide (a = b)) := ⟨hE⟩
            have D4 : Kept (true = decide (N3 = N3)) := ⟨(decide_eq_true rfl).symm⟩
            have M32 : (32 : Nat) ≤ maxLen := by decide
            have C1 : Kept _ := ⟨E1⟩; have C2 : Kept _ := ⟨E2⟩; have C3 : Kept _ := ⟨E3⟩; have C4 : Kept _ := ⟨E4⟩; have C5 : Kept _ := ⟨E5⟩; have C6 : Kept _ := ⟨E6⟩
            have Y1 : Kept _ := ⟨B1⟩; have Y2 : Kept _ := ⟨B2⟩; have Y3 : Kept _ := ⟨B3⟩; have Y5 : Kept _ := ⟨B5⟩
            have X1 : Kept (N1.length ≤ maxLen) := ⟨Nat.le_trans L1 M32⟩
            have X2 : Kept (N2.length ≤ maxLen) := ⟨Nat.le_trans L2 M32⟩
            have T0 : Kept (ts.length < 1000000) := ⟨by omega⟩
            have T1 : Kept (t1.length < 1000000) := ⟨by dsimp only at G1; omega⟩
            have T2 : Kept (t2.length < 1000000) := ⟨by dsimp only at G1 G2; omega⟩
            have T3 : Kept (t3.length < 1000000) := ⟨by dsimp only at G1 G2 G3; omega⟩
            have T4 : Kept (t4.length < 1000000) := ⟨by dsimp only at G1 G2 G3 G4; omega⟩
            have T5 : Kept (t5.length < 1000000) := ⟨by dsimp only at G1 G2 G3 G4 G5; omega⟩
            clear E1 E2 E3 E4 E5 E6 B1 B2 B3 B4 B5 L1 L2 G1 G2 G3 G4 G5 a1 a2 a7 hE M32 hza hyb htsl et
            go_wp2_with fail
            refine (PubE hT KA.out LA.out T0.out C1.out rfl).mono ?_
            rintro e w4 ⟨rfl, M4, hT4, tu⟩
            have q4 := hq.trans ((hT.below tu).mono hBw)
            clear hT hq tu
            go_wp2_with fail
            refine (PubE hT4 KB.out LB.out T1.out C2.out rfl).mono ?_
            rintro e w5 ⟨rfl, M5, hT5, tu⟩
            have q5 := q4.trans ((hT4.below tu).mono hBw)
            clear hT4 q4 tu
            go_wp2_with fail
            refine (DhE hT5 KA.out Y2.out LA.out X2.out T2.out C3.out).mono ?_
            rintro e w6 ⟨rfl, M6, hT6, tu⟩
            have q6 := q5.trans ((hT5.below tu).mono hBw)
            clear hT5 q5 tu
            go_wp2_with fail
            refine (DhE hT6 KB.out Y1.out LB.out X1.out T3.out C4.out).mono ?_
            rintro e w7 ⟨rfl, M7, hT7, tu⟩
            have q7 := q6.trans ((hT6.below tu).mono hBw)
            clear hT6 q6 tu
            go_wp2_with fail
            refine (DhE hT7 KA.out Y1.out LA.out X1.out T4.out C5.out).mono ?_
            rintro e w8 ⟨rfl, M8, hT8, tu⟩
            have q8 := q7.trans ((hT7.below tu).mono hBw)
            clear hT7 q7 tu
            go_wp2_with fail
            refine (DhE hT8 KA.out Y3.out.1 LA.out Y3.out.2 T5.out C6.out).mono ?_
            rintro e w9 ⟨rfl, M9, hT9, tu⟩
            have q9 := q8.trans ((hT8.below tu).mono hBw)
            clear hT8 q8 tu hT9
            go_wp2_with (first | ((with_reducible refine wv_val (d := 88) ?hd ?hw (.bool true) ?hr ?_); (case hd => rfl); (case hw => kernel_rfl); (case hr => intro w; exact run_seq rfl (by kernel_rfl) (by kernel_rfl) Y3.out.1 Y3.out.1 D4.out w); simp only [Act.put, List.setIfInBounds_toArray, List.set_cons_succ, List.set_cons_zero]) | ((with_reducible refine wv_val (d := 96) ?hd ?hw (.bool E) ?hr ?_); (case hd => rfl); (case hw => kernel_rfl); (case hr => intro w; exact run_seq rfl (by kernel_rfl) (by kernel_rfl) Y5.out.1 Y3.out.1 D2.out w); simp only [Act.put, List.setIfInBounds_toArray, List.set_cons_succ, List.set_cons_zero]) | ((with_reducible refine wv_val (d := 99) ?hd ?hw (.bool E) ?hr ?_); (case hd => rfl); (case hw => kernel_rfl); (case hr => intro w; exact run_seq rfl (by kernel_rfl) (by kernel_rfl) KA.out KB.out D3.out w); simp only [Act.put, List.setIfInBounds_toArray, List.set_cons_succ, List.set_cons_zero]) | ((with_reducible refine wv_val (d := 100) ?hd ?hw (.bool true) ?hr ?_); (case hd => rfl); (case hw => kernel_rfl); (case hr => intro w; exact run_eqBB (b := E) rfl (by kernel_rfl) (by kernel_rfl) w); simp only [Act.put, List.setIfInBounds_toArray, List.set_cons_succ, List.set_cons_zero]) | ((with_reducible refine wv_val (d := 109) ?hd ?hw (.bool E) ?hr ?_); (case hd => rfl); (case hw => kernel_rfl); (case hr => intro w; exact run_seq rfl (by kernel_rfl) (by kernel_rfl) Y1.out Y2.out D1.out w); simp only [Act.put, List.setIfInBounds_toArray, List.set_cons_succ, List.set_cons_zero]) | ((with_reducible refine wv_val (d := 112) ?hd ?hw (.bool E) ?hr ?_); (case hd => rfl); (case hw => kernel_rfl); (case hr => intro w; exact run_seq rfl (by kernel_rfl) (by kernel_rfl) KA.out KB.out D3.out w); simp only [Act.put, List.setIfInBounds_toArray, List.set_cons_succ, List.set_cons_zero]) | ((with_reducible refine wv_val (d := 113) ?hd ?hw (.bool true) ?hr ?_); (case hd => rfl); (case hw => kernel_rfl); (case hr => intro w; exact run_eqBB (b := E) rfl (by kernel_rfl) (by kernel_rfl) w); simp only [Act.put, List.setIfInBounds_toArray, List.set_cons_succ, List.set_cons_zero]))
            go_ret
            exact ⟨rfl, q9⟩
end Go.Proofs.YtfdldpcfdebinaaDoor.sh
