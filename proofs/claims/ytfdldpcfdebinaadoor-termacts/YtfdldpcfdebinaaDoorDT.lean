/-
  The reference's Dh.
-/
import Derived.Test.YtfdldpcfdebinaaDoorDS
namespace Go.Proofs.YtfdldpcfdebinaaDoor.sh
open Go Go.RowKit
set_option linter.unusedVariables false
set_option linter.unusedSimpArgs false

def RDh (D : Nat → Prop) (w : World) (us : List TermL) (N : List Nat) (F : Bool) (e : Ending) (w' : World) : Prop := ∃ v', e = .returned (.tuple #[v', .string (strOf N), .bool F]) ∧ TsV (News D w w') v' w' us
theorem News.under {D : Nat → Prop} {w w1 w2 w3 : World} (h : w.heap.size ≤ w1.heap.size) (h2 : w2.heap.size ≤ w3.heap.size) {b : Nat} (hb : News D w1 w2 b) : News D w w3 b := by
  rcases hb with hb | ⟨h3, h4⟩
  · exact .inl hb
  · exact .inr ⟨Nat.le_trans h h3, Nat.lt_of_lt_of_le h4 h2⟩
theorem TsV.news {D : Nat → Prop} {v : Value} {w w1 w2 w3 : World} {ts : List TermL} (h : TsV (News D w1 w2) v w2 ts) (h1 : w.heap.size ≤ w1.heap.size) (h2 : Below w2.heap.size w2 w3) : TsV (News D w w3) v w3 ts := (h.under h2).mono fun b hb => hb.under h1 h2.size
theorem TsV.old {D : Nat → Prop} {v : Value} {w w1 : World} {ts : List TermL} (h : TsV D v w ts) (h2 : Below w.heap.size w w1) : TsV (News D w w1) v w1 ts := (h.under h2).mono fun b hb => .inl hb
theorem alloc_size (w : World) (o : Obj) : (w.alloc o).heap.size = w.heap.size + 1 := Array.size_push _
theorem new2s (a b : List Nat) (w : World) (o : Obj) : ValsV (.slice (some ⟨w.heap.size + 1, 0, none⟩) 2 2) ((w.alloc o).alloc (.cells #[.string (strOf a), .string (strOf b)] 9)) (strs [a, b]) := by
  have h := new2 a b (w.alloc o)
  rw [alloc_size] at h
  exact h
theorem sort2_lt {a y : List Nat} (h : lessL y a = true) : sort2 a y = [y, a] := if_pos h
theorem sort2_ge {a y : List Nat} (h : lessL y a = false) : sort2 a y = [a, y] := by unfold sort2; rw [h]; rfl

set_option maxRecDepth 100000 in
set_option maxHeartbeats 4000000 in
theorem rDh {D : Nat → Prop} {ts us : List TermL} {N a b : List Nat} {F : Bool} {v : Value} {w : World} (hv : TsV D v w ts) (hT : Terms ts) (ha : Bytes a) (hb : Bytes b) (hal : a.length ≤ maxLen) (hn : ts.length < 1000000) (hd : dhL ts a b = (us, N, F)) :
    Calls Tryd.prog 25 #[v, .string (strOf a), .string (strOf b)] w fun e w' => RDh D w us N F e w' ∧ Below w.heap.size w w' := by
  have hP : partX ts b = if findN ts.length b = 0 then none else ts[findN ts.length b - 1]? := rfl
  obtain ⟨n, hnn⟩ : ∃ n, n = ts.length := ⟨_, rfl⟩
  have CF := fun p c => rFindD (p := p) (n := n) (c := c) (s := b) (w := w) hb (by omega)
  obtain ⟨R, hR⟩ : ∃ R, R = findN n b := ⟨_, rfl⟩
  have hRn : R ≤ n := by rw [hR]; exact findN_le n b
  rw [← hnn, ← hR] at hP
  rw [← hR] at CF
  obtain ⟨p, c, rfl, hc⟩ := ts_form hv hnn.symm
  have stay : dhL ts a b = (ts, [], false) → ∀ w', Below w.heap.size w w' → RDh D w us N F (.returned (.tuple #[.slice p n c, .string .empty, .bool false])) w' ∧ Below w.heap.size w w' := fun e w' q => by
    rw [hd] at e
    cases e
    exact ⟨⟨.slice p n c, rfl, hv.old q⟩, q⟩
  have KS : Kept _ := ⟨stay⟩
  have KC : Kept _ := ⟨CF p c⟩
  have KTs : Kept _ := ⟨hv⟩
  have KT : Kept _ := ⟨hT⟩
  by_cases hR0 : R = 0
  case pos =>
    rw [if_pos hR0] at hP
    have KD : Kept _ := ⟨dhL_none (a := a) hP⟩
    subst hR0
    have B0 : Kept (true = decide ((0 : Int) = 0)) := ⟨rfl⟩
    clear hP CF hR hRn hv hT hn hd hnn stay ha hb hal
    go_enter Tryd.func25, Tryd.ntmps25
    go_wp2_with fail
    refine KC.out.mono ?_
    rintro e w1 ⟨rfl, q1⟩
    go_wp2_with (first | ((with_reducible refine wv_val (d := 18) ?hd ?hw (.bool true) ?hr ?_); (case hd => rfl); (case hw => kernel_rfl); (case hr => intro w; exact run_eqII (m := 0) (n := 0) rfl (by kernel_rfl) rfl B0.out w); simp only [Act.put, List.setIfInBounds_toArray, List.set_cons_succ, List.set_cons_zero]))
    refine bodyPost_ret (v := .tuple #[.slice p n c, .string ⟨#[]⟩, .bool false]) (by simp [results, Tryd.results25, go_sem]) rfl ?_
    exact KS.out KD.out w1 q1
  case neg =>
    rw [if_neg hR0] at hP
    obtain ⟨r, hr⟩ : ∃ r, R = r + 1 := ⟨R - 1, by omega⟩
    rw [hr, Nat.add_sub_cancel] at hP
    have hrn : r < n := by omega
    have hR62 : R < 4611686018427387904 := by omega
    have KR1 : Kept _ := ⟨hr⟩
    have B0 : Kept (false = decide ((R : Int) = 0)) := ⟨(decide_eq_false (by omega)).symm⟩
    obtain ⟨t, ht⟩ : ∃ t, ts[r]? = some t := ⟨_, List.getElem?_eq_getElem (by rw [← hnn]; exact hrn)⟩
    rw [ht] at hP
    have hmem := List.mem_of_getElem? ht
    by_cases hk : t.1 = 2
    case neg =>
      have KD : Kept _ := ⟨dhL_kind (a := a) hP hk⟩
      obtain ⟨k, ps⟩ := t
      have hk' : ¬ k = 2 := hk
      have B1 : Kept (true = !decide (k = 2)) := ⟨by rw [decide_eq_false hk']; rfl⟩
      have Kht : Kept _ := ⟨ht⟩
      clear hP CF hR hRn hv hT hn hd hnn stay ha hb hal hk hk' hmem ht hr hR0
      go_enter Tryd.func25, Tryd.ntmps25
      go_wp2_with fail
      refine KC.out.mono ?_
      rintro e w1 ⟨rfl, q1⟩
      obtain ⟨A, U2, rfl, hA, hc0, hc1, hV2⟩ := ts_at (KTs.out.under q1) Kht.out
      have K0 : Kept _ := ⟨hc0⟩
      clear hc0 hc1 hV2
      go_wp2_with (first | ((with_reducible refine wv_val (d := 18) ?hd ?hw (.bool false) ?hr ?_); (case hd => rfl); (case hw => kernel_rfl); (case hr => intro w; exact run_eqII (n := 0) rfl (by kernel_rfl) rfl B0.out w); simp only [Act.put, List.setIfInBounds_toArray, List.set_cons_succ, List.set_cons_zero]) | ((with_reducible refine wv_val (d := 22) ?hd ?hw (.int .i64 (r : Int)) ?hr ?_); (case hd => rfl); (case hw => kernel_rfl); (case hr => intro w; exact run_subZ 1 rfl (by kernel_rfl) KR1.out hR62 w); simp only [Act.put, List.setIfInBounds_toArray, List.set_cons_succ, List.set_cons_zero]) | ((with_reducible refine wv_val (d := 23) ?hd ?hw (.pointer (some (A.add (r * 2)))) ?hr ?_); (case hd => rfl); (case hw => kernel_rfl); (case hr => intro w; exact run_idxT (c := c) rfl (by kernel_rfl) (by kernel_rfl) hrn w); simp only [Act.put, List.setIfInBounds_toArray, List.set_cons_succ, List.set_cons_zero]) | ((with_reducible refine wv_val (d := 24) ?hd ?hw (.pointer (some (A.add (r * 2)))) ?hr ?_); (case hd => rfl); (case hw => kernel_rfl); (case hr => intro w; exact run_fldT0 rfl (by kernel_rfl) w); simp only [Act.put, List.setIfInBounds_toArray, List.set_cons_succ, List.set_cons_zero]) | ((with_reducible refine wv_elem (d := 25) ?hd ?hw 5 Tryd.isAgg5 (.tmp 24) ?ho (A.add (r * 2)) ?hx (.int .u8 (k : Int)) ?hc ?_); (case hd => rfl); (case hw => kernel_rfl); (case ho => rfl); (case hx => kernel_rfl); (case hc => exact K0.out); simp only [Act.put, List.setIfInBounds_toArray, List.set_cons_succ, List.set_cons_zero]) | ((with_reducible refine wv_val (d := 26) ?hd ?hw (.bool true) ?hr ?_); (case hd => rfl); (case hw => kernel_rfl); (case hr => intro w; exact run_neU (m := k) (n := 2) rfl (by kernel_rfl) rfl B1.out w); simp only [Act.put, List.setIfInBounds_toArray, List.set_cons_succ, List.set_cons_zero]))
      refine bodyPost_ret (v := .tuple #[.slice (some A) n c, .string ⟨#[]⟩, .bool false]) (by simp [results, Tryd.results25, go_sem]) rfl ?_
      exact KS.out KD.out w1 q1
    case pos =>
      obtain ⟨y, rfl, hy, hyl⟩ := pub_form hT hmem hk
      have e1 := dhL_two (a := a) hP
      rw [hd] at e1
      have e2 : us = (putL ts (3, sort2 a y)).1 := congrArg (·.1) e1
      have e3 : N = (putL ts (3, sort2 a y)).2 := congrArg (·.2.1) e1
      have e4 : F = decide ((putL ts (3, sort2 a y)).2 ≠ []) := congrArg (·.2.2) e1
      have KP : Kept (putL ts (3, sort2 a y) = (us, N)) := ⟨Prod.ext e2.symm e3.symm⟩
      have KNB : Kept (Bytes N) := ⟨by rw [e3]; exact putL_bytes _ _⟩
      have BF : Kept (F = !decide (N = [])) := ⟨by rw [e4, ← e3]; exact decide_not⟩
      have hf3 : Kept (Formed (3, sort2 a y)) := ⟨⟨sort2_bytes ha hy, .inr (.inr (.inl ⟨rfl, sort2_two a y⟩))⟩⟩
      have hlm : Kept (∀ l ∈ sort2 a y, l.length ≤ maxLen) := ⟨fun l h => by
        rw [sort2_min] at h
        simp at h
        rcases h with rfl | rfl <;> split <;> first | exact hal | (unfold maxLen; omega)⟩
      have Kht : Kept _ := ⟨ht⟩
      have Ka : Kept _ := ⟨ha⟩
      have Ky : Kept _ := ⟨hy⟩
      have Kn : Kept _ := ⟨hn⟩
      obtain ⟨k, hk2⟩ : ∃ k, k = 2 := ⟨_, rfl⟩
      rw [← hk2] at Kht
      have B1 : Kept (false = !decide (k = 2)) := ⟨by rw [hk2]; rfl⟩
      obtain ⟨s, hs⟩ : ∃ s, s = lessL y a := ⟨_, rfl⟩
      have hlt : 0 < 1 := by decide
      clear hP CF hR hRn hv hT hn hd hnn stay ha hb hal hk hmem ht hr hR0 e1 e2 e3 e4 hy hk2 KS hyl
      go_enter Tryd.func25, Tryd.ntmps25
      go_wp2_with fail
      refine KC.out.mono ?_
      rintro e w1 ⟨rfl, q1⟩
      have KTs1 : Kept _ := ⟨KTs.out.under q1⟩
      obtain ⟨A, U2, rfl, hA, hc0, hc1, hV2⟩ := ts_at KTs1.out Kht.out
      obtain ⟨pU, cU, rfl, _⟩ := vals_form hV2 (show (strs [y]).length = 1 from rfl)
      obtain ⟨A2, rfl, hA2, hcell⟩ := vals_at hV2 (show (strs [y])[0]? = some (.string (strOf y)) from rfl)
      have K0 : Kept _ := ⟨hc0⟩
      have K1 : Kept _ := ⟨hc1⟩
      have KCA : Kept (∀ w2, Below w1.heap.size w1 w2 → w2.cell? (A2.add 0) = some (.string (strOf y))) := ⟨fun w2 q => (q.cell (by rw [add_block]; exact hA2)).trans hcell⟩
      have KC2 : Kept _ := ⟨hcell⟩
      clear hc0 hc1 hV2 hcell
      have bB := (Below.refl w1.heap.size w1).alloc (Nat.le_refl _) (.cells #[.string (strOf a), .string (strOf y)] 9)
      cases s with
      | false =>
        have KL : Kept _ := ⟨hs⟩
        have Ks : Kept _ := ⟨sort2_ge hs.symm⟩
        clear hs
        go_wp2_with (first | ((with_reducible refine wv_val (d := 18) ?hd ?hw (.bool false) ?hr ?_); (case hd => rfl); (case hw => kernel_rfl); (case hr => intro w; exact run_eqII (n := 0) rfl (by kernel_rfl) rfl B0.out w); simp only [Act.put, List.setIfInBounds_toArray, List.set_cons_succ, List.set_cons_zero]) | ((with_reducible refine wv_val (d := 22) ?hd ?hw (.int .i64 (r : Int)) ?hr ?_); (case hd => rfl); (case hw => kernel_rfl); (case hr => intro w; exact run_subZ 1 rfl (by kernel_rfl) KR1.out hR62 w); simp only [Act.put, List.setIfInBounds_toArray, List.set_cons_succ, List.set_cons_zero]) | ((with_reducible refine wv_val (d := 23) ?hd ?hw (.pointer (some (A.add (r * 2)))) ?hr ?_); (case hd => rfl); (case hw => kernel_rfl); (case hr => intro w; exact run_idxT (c := c) rfl (by kernel_rfl) (by kernel_rfl) hrn w); simp only [Act.put, List.setIfInBounds_toArray, List.set_cons_succ, List.set_cons_zero]) | ((with_reducible refine wv_val (d := 24) ?hd ?hw (.pointer (some (A.add (r * 2)))) ?hr ?_); (case hd => rfl); (case hw => kernel_rfl); (case hr => intro w; exact run_fldT0 rfl (by kernel_rfl) w); simp only [Act.put, List.setIfInBounds_toArray, List.set_cons_succ, List.set_cons_zero]) | ((with_reducible refine wv_elem (d := 25) ?hd ?hw 5 Tryd.isAgg5 (.tmp 24) ?ho (A.add (r * 2)) ?hx (.int .u8 (k : Int)) ?hc ?_); (case hd => rfl); (case hw => kernel_rfl); (case ho => rfl); (case hx => kernel_rfl); (case hc => exact K0.out); simp only [Act.put, List.setIfInBounds_toArray, List.set_cons_succ, List.set_cons_zero]) | ((with_reducible refine wv_val (d := 26) ?hd ?hw (.bool false) ?hr ?_); (case hd => rfl); (case hw => kernel_rfl); (case hr => intro w; exact run_neU (m := k) (n := 2) rfl (by kernel_rfl) rfl B1.out w); simp only [Act.put, List.setIfInBounds_toArray, List.set_cons_succ, List.set_cons_zero]) | ((with_reducible refine wv_val (d := 31) ?hd ?hw (.int .i64 (r : Int)) ?hr ?_); (case hd => rfl); (case hw => kernel_rfl); (case hr => intro w; exact run_subZ 1 rfl (by kernel_rfl) KR1.out hR62 w); simp only [Act.put, List.setIfInBounds_toArray, List.set_cons_succ, List.set_cons_zero]) | ((with_reducible refine wv_val (d := 32) ?hd ?hw (.pointer (some (A.add (r * 2)))) ?hr ?_); (case hd => rfl); (case hw => kernel_rfl); (case hr => intro w; exact run_idxT (c := c) rfl (by kernel_rfl) (by kernel_rfl) hrn w); simp only [Act.put, List.setIfInBounds_toArray, List.set_cons_succ, List.set_cons_zero]) | ((with_reducible refine wv_val (d := 33) ?hd ?hw (.pointer (some ((A.add (r * 2)).add 1))) ?hr ?_); (case hd => rfl); (case hw => kernel_rfl); (case hr => intro w; exact run_fldT1 rfl (by kernel_rfl) w); simp only [Act.put, List.setIfInBounds_toArray, List.set_cons_succ, List.set_cons_zero]) | ((with_reducible refine wv_elem (d := 34) ?hd ?hw 35 ag_strs (.tmp 33) ?ho ((A.add (r * 2)).add 1) ?hx (.slice (some A2) 1 cU) ?hc ?_); (case hd => rfl); (case hw => kernel_rfl); (case ho => rfl); (case hx => kernel_rfl); (case hc => exact K1.out); simp only [Act.put, List.setIfInBounds_toArray, List.set_cons_succ, List.set_cons_zero]) | ((with_reducible refine wv_val (d := 35) ?hd ?hw (.pointer (some (A2.add 0))) ?hr ?_); (case hd => rfl); (case hw => kernel_rfl); (case hr => intro w; exact run_idxS (i := 0) (l := 1) (c := cU) rfl (by kernel_rfl) rfl Tryd.underlying35 hlt Tryd.sizeOf9 w); simp only [Act.put, List.setIfInBounds_toArray, List.set_cons_succ, List.set_cons_zero]) | ((with_reducible refine wv_elem (d := 36) ?hd ?hw 9 ag_str (.tmp 35) ?ho (A2.add 0) ?hx (.string (strOf y)) ?hc ?_); (case hd => rfl); (case hw => kernel_rfl); (case ho => rfl); (case hx => kernel_rfl); (case hc => exact KC2.out); simp only [Act.put, List.setIfInBounds_toArray, List.set_cons_succ, List.set_cons_zero]) | (refine wl_bs2 (by kernel_rfl) (.tmp 37) (.tmp 38) rfl (a) (y) (by kernel_rfl) (by kernel_rfl) ?_; simp only [Act.put, List.setIfInBounds_toArray, List.set_cons_succ, List.set_cons_zero]) | ((with_reducible refine wv_val (d := 42) ?hd ?hw (.bool false) ?hr ?_); (case hd => rfl); (case hw => kernel_rfl); (case hr => intro w; exact run_sless rfl (by kernel_rfl) (by kernel_rfl) Ky.out Ka.out KL.out w); simp only [Act.put, List.setIfInBounds_toArray, List.set_cons_succ, List.set_cons_zero]))
        refine (rPut (KTs1.out.under bB) KT.out hf3.out (by rw [Ks.out]; exact new2 a y w1) hlm.out Kn.out KP.out).mono ?_
        rintro e w3 ⟨⟨v', rfl, hT'⟩, q3⟩
        have q13 := (q1.trans (bB.mono q1.size)).trans (q3.mono (Nat.le_trans q1.size bB.size))
        have KT' : Kept _ := ⟨hT'.news (Nat.le_trans q1.size bB.size) (Below.refl _ _)⟩
        clear hT'
        go_wp2_with (first | ((with_reducible refine wv_val (d := 55) ?hd ?hw (.bool F) ?hr ?_); (case hd => rfl); (case hw => kernel_rfl); (case hr => intro w; exact run_sneq (m := []) rfl (by kernel_rfl) rfl KNB.out nil_bytes BF.out w); simp only [Act.put, List.setIfInBounds_toArray, List.set_cons_succ, List.set_cons_zero]))
        refine bodyPost_ret (v := .tuple #[v', .string (strOf N), .bool F]) (by simp [results, Tryd.results25, go_sem]) rfl ?_
        exact ⟨⟨v', rfl, KT'.out⟩, q13⟩
      | true =>
        have KL : Kept _ := ⟨hs⟩
        have Ks : Kept _ := ⟨sort2_lt hs.symm⟩
        have bB2 := bB.alloc bB.size (.cells #[.string (strOf y), .string (strOf a)] 9)
        clear hs
        go_wp2_with (first | ((with_reducible refine wv_val (d := 18) ?hd ?hw (.bool false) ?hr ?_); (case hd => rfl); (case hw => kernel_rfl); (case hr => intro w; exact run_eqII (n := 0) rfl (by kernel_rfl) rfl B0.out w); simp only [Act.put, List.setIfInBounds_toArray, List.set_cons_succ, List.set_cons_zero]) | ((with_reducible refine wv_val (d := 22) ?hd ?hw (.int .i64 (r : Int)) ?hr ?_); (case hd => rfl); (case hw => kernel_rfl); (case hr => intro w; exact run_subZ 1 rfl (by kernel_rfl) KR1.out hR62 w); simp only [Act.put, List.setIfInBounds_toArray, List.set_cons_succ, List.set_cons_zero]) | ((with_reducible refine wv_val (d := 23) ?hd ?hw (.pointer (some (A.add (r * 2)))) ?hr ?_); (case hd => rfl); (case hw => kernel_rfl); (case hr => intro w; exact run_idxT (c := c) rfl (by kernel_rfl) (by kernel_rfl) hrn w); simp only [Act.put, List.setIfInBounds_toArray, List.set_cons_succ, List.set_cons_zero]) | ((with_reducible refine wv_val (d := 24) ?hd ?hw (.pointer (some (A.add (r * 2)))) ?hr ?_); (case hd => rfl); (case hw => kernel_rfl); (case hr => intro w; exact run_fldT0 rfl (by kernel_rfl) w); simp only [Act.put, List.setIfInBounds_toArray, List.set_cons_succ, List.set_cons_zero]) | ((with_reducible refine wv_elem (d := 25) ?hd ?hw 5 Tryd.isAgg5 (.tmp 24) ?ho (A.add (r * 2)) ?hx (.int .u8 (k : Int)) ?hc ?_); (case hd => rfl); (case hw => kernel_rfl); (case ho => rfl); (case hx => kernel_rfl); (case hc => exact K0.out); simp only [Act.put, List.setIfInBounds_toArray, List.set_cons_succ, List.set_cons_zero]) | ((with_reducible refine wv_val (d := 26) ?hd ?hw (.bool false) ?hr ?_); (case hd => rfl); (case hw => kernel_rfl); (case hr => intro w; exact run_neU (m := k) (n := 2) rfl (by kernel_rfl) rfl B1.out w); simp only [Act.put, List.setIfInBounds_toArray, List.set_cons_succ, List.set_cons_zero]) | ((with_reducible refine wv_val (d := 31) ?hd ?hw (.int .i64 (r : Int)) ?hr ?_); (case hd => rfl); (case hw => kernel_rfl); (case hr => intro w; exact run_subZ 1 rfl (by kernel_rfl) KR1.out hR62 w); simp only [Act.put, List.setIfInBounds_toArray, List.set_cons_succ, List.set_cons_zero]) | ((with_reducible refine wv_val (d := 32) ?hd ?hw (.pointer (some (A.add (r * 2)))) ?hr ?_); (case hd => rfl); (case hw => kernel_rfl); (case hr => intro w; exact run_idxT (c := c) rfl (by kernel_rfl) (by kernel_rfl) hrn w); simp only [Act.put, List.setIfInBounds_toArray, List.set_cons_succ, List.set_cons_zero]) | ((with_reducible refine wv_val (d := 33) ?hd ?hw (.pointer (some ((A.add (r * 2)).add 1))) ?hr ?_); (case hd => rfl); (case hw => kernel_rfl); (case hr => intro w; exact run_fldT1 rfl (by kernel_rfl) w); simp only [Act.put, List.setIfInBounds_toArray, List.set_cons_succ, List.set_cons_zero]) | ((with_reducible refine wv_elem (d := 34) ?hd ?hw 35 ag_strs (.tmp 33) ?ho ((A.add (r * 2)).add 1) ?hx (.slice (some A2) 1 cU) ?hc ?_); (case hd => rfl); (case hw => kernel_rfl); (case ho => rfl); (case hx => kernel_rfl); (case hc => exact K1.out); simp only [Act.put, List.setIfInBounds_toArray, List.set_cons_succ, List.set_cons_zero]) | ((with_reducible refine wv_val (d := 35) ?hd ?hw (.pointer (some (A2.add 0))) ?hr ?_); (case hd => rfl); (case hw => kernel_rfl); (case hr => intro w; exact run_idxS (i := 0) (l := 1) (c := cU) rfl (by kernel_rfl) rfl Tryd.underlying35 hlt Tryd.sizeOf9 w); simp only [Act.put, List.setIfInBounds_toArray, List.set_cons_succ, List.set_cons_zero]) | ((with_reducible refine wv_elem (d := 36) ?hd ?hw 9 ag_str (.tmp 35) ?ho (A2.add 0) ?hx (.string (strOf y)) ?hc ?_); (case hd => rfl); (case hw => kernel_rfl); (case ho => rfl); (case hx => kernel_rfl); (case hc => exact KC2.out); simp only [Act.put, List.setIfInBounds_toArray, List.set_cons_succ, List.set_cons_zero]) | (refine wl_bs2 (by kernel_rfl) (.tmp 37) (.tmp 38) rfl (a) (y) (by kernel_rfl) (by kernel_rfl) ?_; simp only [Act.put, List.setIfInBounds_toArray, List.set_cons_succ, List.set_cons_zero]) | ((with_reducible refine wv_val (d := 42) ?hd ?hw (.bool true) ?hr ?_); (case hd => rfl); (case hw => kernel_rfl); (case hr => intro w; exact run_sless rfl (by kernel_rfl) (by kernel_rfl) Ky.out Ka.out KL.out w); simp only [Act.put, List.setIfInBounds_toArray, List.set_cons_succ, List.set_cons_zero]) | (refine wl_bs2 (by kernel_rfl) (.tmp 43) (.tmp 44) rfl (y) (a) (by kernel_rfl) (by kernel_rfl) ?_; simp only [Act.put, List.setIfInBounds_toArray, List.set_cons_succ, List.set_cons_zero]))
        refine (rPut (KTs1.out.under bB2) KT.out hf3.out (by rw [Ks.out]; exact new2s y a w1 _) hlm.out Kn.out KP.out).mono ?_
        rintro e w3 ⟨⟨v', rfl, hT'⟩, q3⟩
        have q13 := (q1.trans (bB2.mono q1.size)).trans (q3.mono (Nat.le_trans q1.size bB2.size))
        have KT' : Kept _ := ⟨hT'.news (Nat.le_trans q1.size bB2.size) (Below.refl _ _)⟩
        clear hT'
        go_wp2_with (first | ((with_reducible refine wv_val (d := 55) ?hd ?hw (.bool F) ?hr ?_); (case hd => rfl); (case hw => kernel_rfl); (case hr => intro w; exact run_sneq (m := []) rfl (by kernel_rfl) rfl KNB.out nil_bytes BF.out w); simp only [Act.put, List.setIfInBounds_toArray, List.set_cons_succ, List.set_cons_zero]))
        refine bodyPost_ret (v := .tuple #[v', .string (strOf N), .bool F]) (by simp [results, Tryd.results25, go_sem]) rfl ?_
        exact ⟨⟨v', rfl, KT'.out⟩, q13⟩
end Go.Proofs.YtfdldpcfdebinaaDoor.sh
