/-
  The reference of layer 10: count, public.
-/
import Derived.Test.YtniogaimhkcedaaDoorLB
namespace Go.Proofs.YtniogaimhkcedaaDoor.sh
open Go Go.RowKit
set_option linter.unusedVariables false
set_option linter.unusedSimpArgs false

theorem cnt_take {b : List Bool} {i : Nat} {x : Bool} (h : b[i]? = some x) : cntB (b.take (i + 1)) = cntB (b.take i) + (if x = true then 1 else 0) := by rw [List.take_add_one, h, Option.toList_some, cnt_snoc]
set_option maxRecDepth 100000 in
set_option maxHeartbeats 2000000 in
theorem countD {b : List Bool} {vb : Value} {w : World} (hb : ValsV vb w (b.map Value.bool)) (hN : b.length ≤ 1000000) :
    Calls Tryd.prog 34 #[vb] w fun e w' => e = .returned (.int .i64 (cntB b : Int)) ∧ Below w.heap.size w w' := by
  obtain ⟨N, hNb⟩ : ∃ N, N = b.length := ⟨_, rfl⟩
  obtain ⟨ph, ch, rfl, _⟩ := vals_form hb (show (b.map Value.bool).length = N by rw [List.length_map, hNb])
  have KN : Kept _ := ⟨hNb⟩
  have KV : Kept _ := ⟨hb⟩
  obtain ⟨C, hC⟩ : ∃ C, C = cntB b := ⟨_, rfl⟩
  rw [← hC]
  have KC0 : Kept _ := ⟨hC⟩
  have hN6 : N ≤ 1000000 := by omega
  clear hb hN hNb hC
  go_enter Tryd.func34, Tryd.ntmps34
  go_wp2_with fail
  go_loopg [3, 4] N (fun g s3 s4 wr => ∃ i n : Nat, i + g = N ∧ s4 = .int .i64 (i : Int) ∧ s3 = .int .i64 (n : Int) ∧ Below w.heap.size w wr ∧ Kept (n = cntB (b.take i)) ∧ n ≤ i)
  case atStart => exact ⟨0, 0, by omega, rfl, rfl, Below.refl _ _, ⟨rfl⟩, Nat.le_refl _⟩
  case round =>
    rename World => wz
    obtain ⟨i, n, hik, rfl, rfl, hb, KJ, hni⟩ := hrel
    by_cases hk0 : gk = 0
    · obtain rfl : N = i := by omega
      have KE : Kept (n = C) := ⟨by
        rw [KJ.out, List.take_of_length_le (by rw [← KN.out]; exact Nat.le_refl _), KC0.out]⟩
      go_wp2_with fail
      go_ret
      exact ⟨by rw [KE.out]; rfl, hb⟩
    · have hin : i < N := by omega
      have hin' : (i : Int) < (N : Int) := by omega
      have hi1 : (i : Int) + 1 ≤ 9223372036854775807 := by omega
      have hn1 : (n : Int) + 1 ≤ 9223372036854775807 := by omega
      obtain ⟨bx, hbx⟩ : ∃ bx, b[i]? = some bx := ⟨_, List.getElem?_eq_getElem (by rw [← KN.out]; exact hin)⟩
      obtain ⟨A, rfl, hA, hc⟩ := vals_at (KV.out.under hb) (show (b.map Value.bool)[i]? = some (.bool bx) by rw [List.getElem?_map, hbx]; rfl)
      have Kct := cnt_take hbx
      have KC : Kept _ := ⟨hc⟩
      obtain ⟨n1, hn⟩ : ∃ n1, n1 = n + 1 := ⟨_, rfl⟩
      have Kn1 : Kept _ := ⟨hn⟩
      have hn62 : n1 < 4611686018427387904 := by omega
      clear hbx hc
      cases bx with
      | false =>
        have Kc2 : Kept (cntB (b.take (i + 1)) = n) := ⟨by rw [Kct, KJ.out]; simp⟩
        clear Kct hn
        go_wp2_with (first | ((with_reducible refine wv_val (d := 13) ?hd ?hw (.pointer (some (A.add i))) ?hr ?_); (case hd => rfl); (case hw => kernel_rfl); (case hr => intro w; exact run_idxS (c := ch) rfl (by kernel_rfl) (by kernel_rfl) Tryd.underlying33 hin Tryd.sizeOf4 w); simp only [Act.put, List.setIfInBounds_toArray, List.set_cons_succ, List.set_cons_zero]) | ((with_reducible refine wv_elem (d := 14) ?hd ?hw 4 Tryd.isAgg4 (.tmp 13) ?ho (A.add i) ?hx (.bool false) ?hc ?_); (case hd => rfl); (case hw => kernel_rfl); (case ho => rfl); (case hx => kernel_rfl); (case hc => exact KC.out); simp only [Act.put, List.setIfInBounds_toArray, List.set_cons_succ, List.set_cons_zero]))
        go_roundg (gk - 1)
        case measure => omega
        case rel => exact ⟨i + 1, n, by omega, by simp, rfl, hb, ⟨Kc2.out.symm⟩, by omega⟩
      | true =>
        have Kc2 : Kept (cntB (b.take (i + 1)) = n1) := ⟨by rw [Kct, ← KJ.out, hn]; simp⟩
        clear Kct
        clear hn
        go_wp2_with (first | ((with_reducible refine wv_val (d := 13) ?hd ?hw (.pointer (some (A.add i))) ?hr ?_); (case hd => rfl); (case hw => kernel_rfl); (case hr => intro w; exact run_idxS (c := ch) rfl (by kernel_rfl) (by kernel_rfl) Tryd.underlying33 hin Tryd.sizeOf4 w); simp only [Act.put, List.setIfInBounds_toArray, List.set_cons_succ, List.set_cons_zero]) | ((with_reducible refine wv_elem (d := 14) ?hd ?hw 4 Tryd.isAgg4 (.tmp 13) ?ho (A.add i) ?hx (.bool true) ?hc ?_); (case hd => rfl); (case hw => kernel_rfl); (case ho => rfl); (case hx => kernel_rfl); (case hc => exact KC.out); simp only [Act.put, List.setIfInBounds_toArray, List.set_cons_succ, List.set_cons_zero]) | ((with_reducible refine wv_val (d := 16) ?hd ?hw (.int .i64 (n1 : Int)) ?hr ?_); (case hd => rfl); (case hw => kernel_rfl); (case hr => intro w; exact run_addZ 1 rfl (by kernel_rfl) Kn1.out hn62 w); simp only [Act.put, List.setIfInBounds_toArray, List.set_cons_succ, List.set_cons_zero]))
        go_roundg (gk - 1)
        case measure => omega
        case rel => exact ⟨i + 1, n1, by omega, by simp, rfl, hb, ⟨Kc2.out.symm⟩, by have := Kn1.out; omega⟩
set_option maxRecDepth 100000 in
set_option maxHeartbeats 4000000 in
theorem publicD {D : Nat → Prop} {ts : List TermL} {b : List Bool} {y : List Nat} {f : Bool} {v vb : Value} {w : World} (hv : TsV D v w ts) (hT : Terms ts) (hts : ts.length < 1000000) (hb : ValsV vb w (b.map Value.bool)) (hbl : b.length = ts.length) (hs : Bytes y) (hl : y.length ≤ 40000) (hf : f = true ↔ PubK ts (hadP b) y) :
    Calls Tryd.prog 55 #[v, vb, .string (strOf y)] w fun e w' => e = .returned (.bool f) ∧ Below w.heap.size w w' := by
  obtain ⟨N, hN⟩ : ∃ N, N = ts.length := ⟨_, rfl⟩
  obtain ⟨p, c, rfl, _⟩ := ts_form hv hN.symm
  obtain ⟨ph, ch, rfl, _⟩ := vals_form hb (show (b.map Value.bool).length = N by rw [List.length_map, hbl, hN])
  have CK := fun (g : Bool) (hg : g = true ↔ KnownS ts (hadP b) y) (wz : World) (q : Below w.heap.size w wz) => KnownD (hv.under q) hts (hb.under q) hbl hs hl hg
  have KCK : Kept _ := ⟨CK⟩
  have KTs : Kept _ := ⟨hv⟩
  have KT : Kept _ := ⟨hT⟩
  have Kv : Kept _ := ⟨hb⟩
  have KbN : Kept (b.length = N) := ⟨by rw [hbl, hN]⟩
  have KN : Kept _ := ⟨hN⟩
  have Ky : Kept _ := ⟨hs⟩
  have Kf : Kept (f = true ↔ PubK ts (hadP b) y) := ⟨hf⟩
  have hN6 : N < 1000000 := by omega
  have hlt : 0 < 1 := by decide
  clear hv hT hts hb hbl hs hl hf hN CK
  go_enter Tryd.func55, Tryd.ntmps55
  go_wp2_with fail
  go_loopg [7] N (fun g s7 wr => ∃ i : Nat, i + g = N ∧ s7 = .int .i64 (i : Int) ∧ Below w.heap.size w wr ∧ Kept (∀ j, j < i → ts[j]? = some (2, [y]) → ¬ hadP b j))
  case atStart => exact ⟨0, by omega, rfl, Below.refl _ _, ⟨fun j h => by omega⟩⟩
  case round =>
    rename World => wz
    obtain ⟨i, hik, rfl, hb, KJ⟩ := hrel
    by_cases hk0 : gk = 0
    case pos =>
      obtain rfl : N = i := by omega
      have hfk : f = true ↔ KnownS ts (hadP b) y := by
        rw [Kf.out]
        constructor
        · rintro (⟨j, h1, h2⟩ | h)
          · exact absurd h2 (KJ.out j (by rw [KN.out]; exact (List.getElem?_eq_some_iff.1 h1).1) h1)
          · exact h
        · exact .inr
      have KCk : Kept _ := ⟨KCK.out f hfk wz hb⟩
      clear hfk
      go_wp2_with fail
      refine KCk.out.mono ?_
      rintro e w2 ⟨rfl, q2⟩
      go_wp2_with fail
      go_ret
      exact ⟨rfl, hb.trans (q2.mono hb.size)⟩
    case neg =>
      have hin : i < N := by omega
      have hin' : (i : Int) < (N : Int) := by omega
      have hi1 : (i : Int) + 1 ≤ 9223372036854775807 := by omega
      obtain ⟨t, ht⟩ : ∃ t, ts[i]? = some t := ⟨_, List.getElem?_eq_getElem (by rw [← KN.out]; exact hin)⟩
      have hF := KT.out.2 t (List.mem_of_getElem? ht)
      obtain ⟨k, ll⟩ := t
      obtain ⟨A, U2, rfl, hA, hc0, hc1, hV2⟩ := ts_at (KTs.out.under hb) ht
      have K0 : Kept _ := ⟨hc0⟩
      have Kht : Kept _ := ⟨ht⟩
      by_cases hk2 : k = 2
      case neg =>
        have B2 : Kept (false = decide (k = 2)) := ⟨(decide_eq_false hk2).symm⟩
        have Kst : Kept (∀ j, j < i + 1 → ts[j]? = some (2, [y]) → ¬ hadP b j) := ⟨fun j h hj => by
          by_cases e : j = i
          · subst e
            rw [Kht.out] at hj
            cases hj
            exact absurd rfl hk2
          · exact KJ.out j (by omega) hj⟩
        clear hF hc0 hc1 hV2 ht hk2
        go_wp2_with (first | ((with_reducible refine wv_val (d := 16) ?hd ?hw (.pointer (some (A.add (i * 2)))) ?hr ?_); (case hd => rfl); (case hw => kernel_rfl); (case hr => intro w; exact run_idxT (c := c) rfl (by kernel_rfl) (by kernel_rfl) hin w); simp only [Act.put, List.setIfInBounds_toArray, List.set_cons_succ, List.set_cons_zero]) | ((with_reducible refine wv_val (d := 17) ?hd ?hw (.pointer (some (A.add (i * 2)))) ?hr ?_); (case hd => rfl); (case hw => kernel_rfl); (case hr => intro w; exact run_fldT0 rfl (by kernel_rfl) w); simp only [Act.put, List.setIfInBounds_toArray, List.set_cons_succ, List.set_cons_zero]) | ((with_reducible refine wv_elem (d := 18) ?hd ?hw 5 Tryd.isAgg5 (.tmp 17) ?ho (A.add (i * 2)) ?hx (.int .u8 (k : Int)) ?hc ?_); (case hd => rfl); (case hw => kernel_rfl); (case ho => rfl); (case hx => kernel_rfl); (case hc => exact K0.out); simp only [Act.put, List.setIfInBounds_toArray, List.set_cons_succ, List.set_cons_zero]) | ((with_reducible refine wv_val (d := 19) ?hd ?hw (.bool false) ?hr ?_); (case hd => rfl); (case hw => kernel_rfl); (case hr => intro w; exact run_eqU8 2 rfl (by kernel_rfl) B2.out w); simp only [Act.put, List.setIfInBounds_toArray, List.set_cons_succ, List.set_cons_zero]))
        go_roundg (gk - 1)
        case measure => omega
        case rel => exact ⟨i + 1, by omega, by simp, hb, Kst⟩
      case pos =>
        obtain ⟨z, rfl⟩ : ∃ z, ll = [z] := by
          rcases hF.2 with ⟨e, _⟩ | ⟨_, h⟩ | ⟨e, _⟩ | e | e <;> first | exact h | (exfalso; have e : k = _ := e; omega)
        have Kz : Kept (Bytes z) := ⟨hF.1 z (by simp)⟩
        have B2 : Kept (true = decide (k = 2)) := ⟨(decide_eq_true hk2).symm⟩
        obtain ⟨pU, cU, rfl, _⟩ := vals_form hV2 (show (strs [z]).length = 1 from rfl)
        obtain ⟨A2, rfl, hA2, hc2⟩ := vals_at hV2 (show (strs [z])[0]? = some (.string (strOf z)) from rfl)
        have K1 : Kept _ := ⟨hc1⟩
        have KC2 : Kept _ := ⟨hc2⟩
        have Kk2 : Kept _ := ⟨hk2⟩
        by_cases hzy : z = y
        case neg =>
          have By : Kept (false = decide (z = y)) := ⟨(decide_eq_false hzy).symm⟩
          have Kst : Kept (∀ j, j < i + 1 → ts[j]? = some (2, [y]) → ¬ hadP b j) := ⟨fun j h hj => by
            by_cases e : j = i
            · subst e
              rw [Kht.out] at hj
              cases hj
              exact absurd rfl hzy
            · exact KJ.out j (by omega) hj⟩
          clear hF hc0 hc1 hV2 ht hk2 hc2 hzy
          go_wp2_with (first | ((with_reducible refine wv_val (d := 16) ?hd ?hw (.pointer (some (A.add (i * 2)))) ?hr ?_); (case hd => rfl); (case hw => kernel_rfl); (case hr => intro w; exact run_idxT (c := c) rfl (by kernel_rfl) (by kernel_rfl) hin w); simp only [Act.put, List.setIfInBounds_toArray, List.set_cons_succ, List.set_cons_zero]) | ((with_reducible refine wv_val (d := 17) ?hd ?hw (.pointer (some (A.add (i * 2)))) ?hr ?_); (case hd => rfl); (case hw => kernel_rfl); (case hr => intro w; exact run_fldT0 rfl (by kernel_rfl) w); simp only [Act.put, List.setIfInBounds_toArray, List.set_cons_succ, List.set_cons_zero]) | ((with_reducible refine wv_elem (d := 18) ?hd ?hw 5 Tryd.isAgg5 (.tmp 17) ?ho (A.add (i * 2)) ?hx (.int .u8 (k : Int)) ?hc ?_); (case hd => rfl); (case hw => kernel_rfl); (case ho => rfl); (case hx => kernel_rfl); (case hc => exact K0.out); simp only [Act.put, List.setIfInBounds_toArray, List.set_cons_succ, List.set_cons_zero]) | ((with_reducible refine wv_val (d := 19) ?hd ?hw (.bool true) ?hr ?_); (case hd => rfl); (case hw => kernel_rfl); (case hr => intro w; exact run_eqU8 2 rfl (by kernel_rfl) B2.out w); simp only [Act.put, List.setIfInBounds_toArray, List.set_cons_succ, List.set_cons_zero]) | ((with_reducible refine wv_val (d := 23) ?hd ?hw (.pointer (some (A.add (i * 2)))) ?hr ?_); (case hd => rfl); (case hw => kernel_rfl); (case hr => intro w; exact run_idxT (c := c) rfl (by kernel_rfl) (by kernel_rfl) hin w); simp only [Act.put, List.setIfInBounds_toArray, List.set_cons_succ, List.set_cons_zero]) | ((with_reducible refine wv_val (d := 24) ?hd ?hw (.pointer (some ((A.add (i * 2)).add 1))) ?hr ?_); (case hd => rfl); (case hw => kernel_rfl); (case hr => intro w; exact run_fldT1 rfl (by kernel_rfl) w); simp only [Act.put, List.setIfInBounds_toArray, List.set_cons_succ, List.set_cons_zero]) | ((with_reducible refine wv_elem (d := 25) ?hd ?hw 29 ag_strs (.tmp 24) ?ho ((A.add (i * 2)).add 1) ?hx (.slice (some A2) 1 cU) ?hc ?_); (case hd => rfl); (case hw => kernel_rfl); (case ho => rfl); (case hx => kernel_rfl); (case hc => exact K1.out); simp only [Act.put, List.setIfInBounds_toArray, List.set_cons_succ, List.set_cons_zero]) | ((with_reducible refine wv_val (d := 26) ?hd ?hw (.pointer (some (A2.add 0))) ?hr ?_); (case hd => rfl); (case hw => kernel_rfl); (case hr => intro w; exact run_idxS (i := 0) (l := 1) (c := cU) rfl (by kernel_rfl) rfl Tryd.underlying29 hlt Tryd.sizeOf9 w); simp only [Act.put, List.setIfInBounds_toArray, List.set_cons_succ, List.set_cons_zero]) | ((with_reducible refine wv_elem (d := 27) ?hd ?hw 9 ag_str (.tmp 26) ?ho (A2.add 0) ?hx (.string (strOf z)) ?hc ?_); (case hd => rfl); (case hw => kernel_rfl); (case ho => rfl); (case hx => kernel_rfl); (case hc => exact KC2.out); simp only [Act.put, List.setIfInBounds_toArray, List.set_cons_succ, List.set_cons_zero]) | ((with_reducible refine wv_val (d := 29) ?hd ?hw (.bool false) ?hr ?_); (case hd => rfl); (case hw => kernel_rfl); (case hr => intro w; exact run_seq rfl (by kernel_rfl) (by kernel_rfl) Kz.out Ky.out By.out w); simp only [Act.put, List.setIfInBounds_toArray, List.set_cons_succ, List.set_cons_zero]))
          go_roundg (gk - 1)
          case measure => omega
          case rel => exact ⟨i + 1, by omega, by simp, hb, Kst⟩
        case pos =>
          have By : Kept (true = decide (z = y)) := ⟨(decide_eq_true hzy).symm⟩
          obtain ⟨bx, hbx⟩ : ∃ bx, b[i]? = some bx := ⟨_, List.getElem?_eq_getElem (by rw [KbN.out]; exact hin)⟩
          obtain ⟨A3, rfl, hA3, hc3⟩ := vals_at (Kv.out.under hb) (show (b.map Value.bool)[i]? = some (.bool bx) by rw [List.getElem?_map, hbx]; rfl)
          have KC3 : Kept _ := ⟨hc3⟩
          have Khx : Kept (hadP b i ↔ bx = true) := ⟨had_at hbx⟩
          have Kzy : Kept _ := ⟨hzy⟩
          cases bx with
          | false =>
            have Kst : Kept (∀ j, j < i + 1 → ts[j]? = some (2, [y]) → ¬ hadP b j) := ⟨fun j h hj => by
              by_cases e : j = i
              · subst e
                exact fun hh => by have := Khx.out.1 hh; cases this
              · exact KJ.out j (by omega) hj⟩
            clear hF hc0 hc1 hV2 ht hk2 hc2 hzy hbx hc3
            go_wp2_with (first | ((with_reducible refine wv_val (d := 16) ?hd ?hw (.pointer (some (A.add (i * 2)))) ?hr ?_); (case hd => rfl); (case hw => kernel_rfl); (case hr => intro w; exact run_idxT (c := c) rfl (by kernel_rfl) (by kernel_rfl) hin w); simp only [Act.put, List.setIfInBounds_toArray, List.set_cons_succ, List.set_cons_zero]) | ((with_reducible refine wv_val (d := 17) ?hd ?hw (.pointer (some (A.add (i * 2)))) ?hr ?_); (case hd => rfl); (case hw => kernel_rfl); (case hr => intro w; exact run_fldT0 rfl (by kernel_rfl) w); simp only [Act.put, List.setIfInBounds_toArray, List.set_cons_succ, List.set_cons_zero]) | ((with_reducible refine wv_elem (d := 18) ?hd ?hw 5 Tryd.isAgg5 (.tmp 17) ?ho (A.add (i * 2)) ?hx (.int .u8 (k : Int)) ?hc ?_); (case hd => rfl); (case hw => kernel_rfl); (case ho => rfl); (case hx => kernel_rfl); (case hc => exact K0.out); simp only [Act.put, List.setIfInBounds_toArray, List.set_cons_succ, List.set_cons_zero]) | ((with_reducible refine wv_val (d := 19) ?hd ?hw (.bool true) ?hr ?_); (case hd => rfl); (case hw => kernel_rfl); (case hr => intro w; exact run_eqU8 2 rfl (by kernel_rfl) B2.out w); simp only [Act.put, List.setIfInBounds_toArray, List.set_cons_succ, List.set_cons_zero]) | ((with_reducible refine wv_val (d := 23) ?hd ?hw (.pointer (some (A.add (i * 2)))) ?hr ?_); (case hd => rfl); (case hw => kernel_rfl); (case hr => intro w; exact run_idxT (c := c) rfl (by kernel_rfl) (by kernel_rfl) hin w); simp only [Act.put, List.setIfInBounds_toArray, List.set_cons_succ, List.set_cons_zero]) | ((with_reducible refine wv_val (d := 24) ?hd ?hw (.pointer (some ((A.add (i * 2)).add 1))) ?hr ?_); (case hd => rfl); (case hw => kernel_rfl); (case hr => intro w; exact run_fldT1 rfl (by kernel_rfl) w); simp only [Act.put, List.setIfInBounds_toArray, List.set_cons_succ, List.set_cons_zero]) | ((with_reducible refine wv_elem (d := 25) ?hd ?hw 29 ag_strs (.tmp 24) ?ho ((A.add (i * 2)).add 1) ?hx (.slice (some A2) 1 cU) ?hc ?_); (case hd => rfl); (case hw => kernel_rfl); (case ho => rfl); (case hx => kernel_rfl); (case hc => exact K1.out); simp only [Act.put, List.setIfInBounds_toArray, List.set_cons_succ, List.set_cons_zero]) | ((with_reducible refine wv_val (d := 26) ?hd ?hw (.pointer (some (A2.add 0))) ?hr ?_); (case hd => rfl); (case hw => kernel_rfl); (case hr => intro w; exact run_idxS (i := 0) (l := 1) (c := cU) rfl (by kernel_rfl) rfl Tryd.underlying29 hlt Tryd.sizeOf9 w); simp only [Act.put, List.setIfInBounds_toArray, List.set_cons_succ, List.set_cons_zero]) | ((with_reducible refine wv_elem (d := 27) ?hd ?hw 9 ag_str (.tmp 26) ?ho (A2.add 0) ?hx (.string (strOf z)) ?hc ?_); (case hd => rfl); (case hw => kernel_rfl); (case ho => rfl); (case hx => kernel_rfl); (case hc => exact KC2.out); simp only [Act.put, List.setIfInBounds_toArray, List.set_cons_succ, List.set_cons_zero]) | ((with_reducible refine wv_val (d := 29) ?hd ?hw (.bool true) ?hr ?_); (case hd => rfl); (case hw => kernel_rfl); (case hr => intro w; exact run_seq rfl (by kernel_rfl) (by kernel_rfl) Kz.out Ky.out By.out w); simp only [Act.put, List.setIfInBounds_toArray, List.set_cons_succ, List.set_cons_zero]) | ((with_reducible refine wv_val (d := 34) ?hd ?hw (.pointer (some (A3.add i))) ?hr ?_); (case hd => rfl); (case hw => kernel_rfl); (case hr => intro w; exact run_idxS (c := ch) rfl (by kernel_rfl) (by kernel_rfl) Tryd.underlying33 hin Tryd.sizeOf4 w); simp only [Act.put, List.setIfInBounds_toArray, List.set_cons_succ, List.set_cons_zero]) | ((with_reducible refine wv_elem (d := 35) ?hd ?hw 4 Tryd.isAgg4 (.tmp 34) ?ho (A3.add i) ?hx (.bool false) ?hc ?_); (case hd => rfl); (case hw => kernel_rfl); (case ho => rfl); (case hx => kernel_rfl); (case hc => exact KC3.out); simp only [Act.put, List.setIfInBounds_toArray, List.set_cons_succ, List.set_cons_zero]))
            go_roundg (gk - 1)
            case measure => omega
            case rel => exact ⟨i + 1, by omega, by simp, hb, Kst⟩
          | true =>
            have KE : Kept (f = true) := ⟨Kf.out.2 (.inl ⟨i, by rw [Kht.out, Kk2.out, Kzy.out], Khx.out.2 rfl⟩)⟩
            clear hF hc0 hc1 hV2 ht hk2 hc2 hzy hbx hc3
            go_wp2_with (first | ((with_reducible refine wv_val (d := 16) ?hd ?hw (.pointer (some (A.add (i * 2)))) ?hr ?_); (case hd => rfl); (case hw => kernel_rfl); (case hr => intro w; exact run_idxT (c := c) rfl (by kernel_rfl) (by kernel_rfl) hin w); simp only [Act.put, List.setIfInBounds_toArray, List.set_cons_succ, List.set_cons_zero]) | ((with_reducible refine wv_val (d := 17) ?hd ?hw (.pointer (some (A.add (i * 2)))) ?hr ?_); (case hd => rfl); (case hw => kernel_rfl); (case hr => intro w; exact run_fldT0 rfl (by kernel_rfl) w); simp only [Act.put, List.setIfInBounds_toArray, List.set_cons_succ, List.set_cons_zero]) | ((with_reducible refine wv_elem (d := 18) ?hd ?hw 5 Tryd.isAgg5 (.tmp 17) ?ho (A.add (i * 2)) ?hx (.int .u8 (k : Int)) ?hc ?_); (case hd => rfl); (case hw => kernel_rfl); (case ho => rfl); (case hx => kernel_rfl); (case hc => exact K0.out); simp only [Act.put, List.setIfInBounds_toArray, List.set_cons_succ, List.set_cons_zero]) | ((with_reducible refine wv_val (d := 19) ?hd ?hw (.bool true) ?hr ?_); (case hd => rfl); (case hw => kernel_rfl); (case hr => intro w; exact run_eqU8 2 rfl (by kernel_rfl) B2.out w); simp only [Act.put, List.setIfInBounds_toArray, List.set_cons_succ, List.set_cons_zero]) | ((with_reducible refine wv_val (d := 23) ?hd ?hw (.pointer (some (A.add (i * 2)))) ?hr ?_); (case hd => rfl); (case hw => kernel_rfl); (case hr => intro w; exact run_idxT (c := c) rfl (by kernel_rfl) (by kernel_rfl) hin w); simp only [Act.put, List.setIfInBounds_toArray, List.set_cons_succ, List.set_cons_zero]) | ((with_reducible refine wv_val (d := 24) ?hd ?hw (.pointer (some ((A.add (i * 2)).add 1))) ?hr ?_); (case hd => rfl); (case hw => kernel_rfl); (case hr => intro w; exact run_fldT1 rfl (by kernel_rfl) w); simp only [Act.put, List.setIfInBounds_toArray, List.set_cons_succ, List.set_cons_zero]) | ((with_reducible refine wv_elem (d := 25) ?hd ?hw 29 ag_strs (.tmp 24) ?ho ((A.add (i * 2)).add 1) ?hx (.slice (some A2) 1 cU) ?hc ?_); (case hd => rfl); (case hw => kernel_rfl); (case ho => rfl); (case hx => kernel_rfl); (case hc => exact K1.out); simp only [Act.put, List.setIfInBounds_toArray, List.set_cons_succ, List.set_cons_zero]) | ((with_reducible refine wv_val (d := 26) ?hd ?hw (.pointer (some (A2.add 0))) ?hr ?_); (case hd => rfl); (case hw => kernel_rfl); (case hr => intro w; exact run_idxS (i := 0) (l := 1) (c := cU) rfl (by kernel_rfl) rfl Tryd.underlying29 hlt Tryd.sizeOf9 w); simp only [Act.put, List.setIfInBounds_toArray, List.set_cons_succ, List.set_cons_zero]) | ((with_reducible refine wv_elem (d := 27) ?hd ?hw 9 ag_str (.tmp 26) ?ho (A2.add 0) ?hx (.string (strOf z)) ?hc ?_); (case hd => rfl); (case hw => kernel_rfl); (case ho => rfl); (case hx => kernel_rfl); (case hc => exact KC2.out); simp only [Act.put, List.setIfInBounds_toArray, List.set_cons_succ, List.set_cons_zero]) | ((with_reducible refine wv_val (d := 29) ?hd ?hw (.bool true) ?hr ?_); (case hd => rfl); (case hw => kernel_rfl); (case hr => intro w; exact run_seq rfl (by kernel_rfl) (by kernel_rfl) Kz.out Ky.out By.out w); simp only [Act.put, List.setIfInBounds_toArray, List.set_cons_succ, List.set_cons_zero]) | ((with_reducible refine wv_val (d := 34) ?hd ?hw (.pointer (some (A3.add i))) ?hr ?_); (case hd => rfl); (case hw => kernel_rfl); (case hr => intro w; exact run_idxS (c := ch) rfl (by kernel_rfl) (by kernel_rfl) Tryd.underlying33 hin Tryd.sizeOf4 w); simp only [Act.put, List.setIfInBounds_toArray, List.set_cons_succ, List.set_cons_zero]) | ((with_reducible refine wv_elem (d := 35) ?hd ?hw 4 Tryd.isAgg4 (.tmp 34) ?ho (A3.add i) ?hx (.bool true) ?hc ?_); (case hd => rfl); (case hw => kernel_rfl); (case ho => rfl); (case hx => kernel_rfl); (case hc => exact KC3.out); simp only [Act.put, List.setIfInBounds_toArray, List.set_cons_succ, List.set_cons_zero]))
            go_ret
            exact ⟨by rw [KE.out]; rfl, hb⟩
end Go.Proofs.YtniogaimhkcedaaDoor.sh
