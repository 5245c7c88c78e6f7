/-
  The reference of layer 10: Known.
-/
import Derived.Test.YtniogaimhkcedaaDoorKT
namespace Go.Proofs.YtniogaimhkcedaaDoor.sh
open Go Go.RowKit
set_option linter.unusedVariables false
set_option linter.unusedSimpArgs false

/-- Texts that are to be looked at. -/
def Looks (l : List (List Nat)) : Prop := ∀ x ∈ l, Bytes x ∧ x.length ≤ 40000
theorem Looks.parts {l ll : List (List Nat)} {x : List Nat} {k : Nat} (h : Looks (x :: l)) (hs : splitL x = some (k, ll)) : Looks (l ++ ll) := fun y hy => by
  rcases List.mem_append.1 hy with hy | hy
  · exact h y (List.mem_cons_of_mem _ hy)
  · have hx := h x List.mem_cons_self
    have := weight_split hx.1 hs
    have := weight_mem hy
    exact ⟨split_bytes hx.1 hs y hy, by omega⟩
theorem drop_cons {l : List (List Nat)} {i : Nat} {x : List Nat} (h : l[i]? = some x) : l.drop i = x :: l.drop (i + 1) := by
  have hj := List.getElem?_eq_some_iff.1 h
  rw [List.drop_eq_getElem_cons hj.1, hj.2]
theorem drop_app {l ll : List (List Nat)} {i : Nat} (h : i + 1 ≤ l.length) : (l ++ ll).drop (i + 1) = l.drop (i + 1) ++ ll := by
  rw [List.drop_append_of_le_length h]
theorem had_at {b : List Bool} {m : Nat} {x : Bool} (h : b[m]? = some x) : hadP b m ↔ x = true := by
  unfold hadP
  rw [h]
  simp
set_option maxRecDepth 100000 in
set_option maxHeartbeats 4000000 in
theorem KnownD {D : Nat → Prop} {ts : List TermL} {b : List Bool} {s : List Nat} {f : Bool} {v vb : Value} {w : World} (hv : TsV D v w ts) (hts : ts.length < 1000000) (hb : ValsV vb w (b.map Value.bool)) (hbl : b.length = ts.length) (hs : Bytes s) (hl : s.length ≤ 40000) (hf : f = true ↔ KnownS ts (hadP b) s) :
    Calls Tryd.prog 17 #[v, vb, .string (strOf s)] w fun e w' => e = .returned (.bool f) ∧ Below w.heap.size w w' := by
  obtain ⟨N, hN⟩ : ∃ N, N = ts.length := ⟨_, rfl⟩
  obtain ⟨p, c, rfl, _⟩ := ts_form hv hN.symm
  obtain ⟨ph, ch, rfl, _⟩ := vals_form hb (show (b.map Value.bool).length = N by rw [List.length_map, hbl, hN])
  have KTs : Kept _ := ⟨hts⟩
  have Kb : Kept _ := ⟨hb⟩
  have KbN : Kept (b.length = N) := ⟨by rw [hbl, hN]⟩
  have KN : Kept _ := ⟨hN⟩
  have Kl : Kept _ := ⟨hl⟩
  obtain ⟨Hs, hH⟩ : ∃ H, H = w.heap.size := ⟨_, rfl⟩
  have KH : Kept _ := ⟨hH⟩
  rw [← hH]
  have b1 : Below Hs w (w.alloc (.cells #[.string (strOf s)] 9)) := by rw [hH]; exact (Below.refl _ _).alloc (Nat.le_refl _) _
  have hr1 : VRow Hs 9 (strs [s]) (.slice (some ⟨Hs, 0, none⟩) 1 1) (w.alloc (.cells #[.string (strOf s)] 9)) := by rw [hH]; exact vrow_lit w #[.string (strOf s)] 1 rfl (Nat.le_refl _) (by decide)
  have Kst : Kept (VRow Hs 9 (strs [s]) (.slice (some ⟨Hs, 0, none⟩) 1 1) (w.alloc (.cells #[.string (strOf s)] 9)) ∧ Below Hs w (w.alloc (.cells #[.string (strOf s)] 9)) ∧ Looks [s] ∧ 0 + weight ([s].drop 0) ≤ s.length + 1 ∧ (f = true ↔ ∀ n, TodoL ts ([s].drop 0) n → hadP b n)) := ⟨hr1, b1, fun x hx => by rw [List.mem_singleton] at hx; rw [hx]; exact ⟨hs, hl⟩, by rw [List.drop_zero, weight_cons, weight_nil]; omega, by
    rw [hf, List.drop_zero]
    simp only [todo_one]
    exact Iff.rfl⟩
  clear hv hts hb hbl hs hl hf hN hH b1 hr1
  go_enter Tryd.func17, Tryd.ntmps17
  go_wp2_with (first | (refine wl_bs1 (by kernel_rfl) (.tmp 13) rfl (s) (by kernel_rfl) ?_; simp only [Act.put, List.setIfInBounds_toArray, List.set_cons_succ, List.set_cons_zero]))
  rw [← KH.out]
  go_loopg [7, 8] (s.length + 1) (fun g s7 s8 wr => ∃ (todo : List (List Nat)) (i : Nat), weight (todo.drop i) ≤ g ∧ i ≤ todo.length ∧ s8 = .int .i64 (i : Int) ∧ VRow Hs 9 (strs todo) s7 wr ∧ Below Hs w wr ∧ Kept (Looks (todo.drop i) ∧ i + weight (todo.drop i) ≤ s.length + 1 ∧ (f = true ↔ ∀ n, TodoL ts (todo.drop i) n → hadP b n)))
  case atStart =>
    obtain ⟨h1, h2, h3, h4, h5⟩ := Kst.out
    exact ⟨[s], 0, by omega, Nat.zero_le _, rfl, h1, h2, ⟨h3, h4, h5⟩⟩
  case round =>
    rename World => wz
    obtain ⟨todo, i, hg, hil, rfl, hr, hb, KJ⟩ := hrel
    obtain ⟨nt, hnt⟩ : ∃ n, n = todo.length := ⟨_, rfl⟩
    obtain ⟨pt, ct, rfl, _⟩ := vals_form (vrow_vals hr) (show (strs todo).length = nt by rw [strs_len, hnt])
    have hlen := len_weight (todo.drop i)
    rw [List.length_drop] at hlen
    have hnt6 : nt ≤ 50000 := by have := KJ.out.2.1; have := Kl.out; omega
    by_cases hin : i < nt
    case neg =>
      have KE : Kept (f = true) := ⟨KJ.out.2.2.2 fun n hn => by
        rw [List.drop_eq_nil_of_le (by omega)] at hn
        exact absurd hn todo_nil⟩
      have hin' : ¬ (i : Int) < (nt : Int) := by omega
      clear hr hlen hnt
      go_wp2_with fail
      go_ret
      exact ⟨by rw [KE.out]; rfl, hb⟩
    case pos =>
      have hin' : (i : Int) < (nt : Int) := by omega
      have hi1 : (i : Int) + 1 ≤ 9223372036854775807 := by omega
      obtain ⟨x, hx⟩ : ∃ x, todo[i]? = some x := ⟨_, List.getElem?_eq_getElem (by omega)⟩
      obtain ⟨A, rfl, hA, hcell⟩ := vals_at (vrow_vals hr) (strs_get hx)
      have hd := drop_cons hx
      obtain ⟨j1, j2, j3⟩ := KJ.out
      rw [hd] at j1 j2 j3 hg
      rw [weight_cons] at j2 hg
      have hxy := (j1 x List.mem_cons_self).1
      have hxl := (j1 x List.mem_cons_self).2
      have CF := rFindD (p := p) (n := N) (c := c) (s := x) (w := wz) hxy (by have := KTs.out; have := KN.out; omega)
      obtain ⟨R, hR⟩ : ∃ R, R = findN N x := ⟨_, rfl⟩
      rw [← hR] at CF
      have hRN : R ≤ N := by rw [hR]; exact findN_le _ _
      have KC : Kept _ := ⟨hcell⟩
      have KCF : Kept _ := ⟨CF⟩
      have Kr : Kept _ := ⟨hr⟩
      have Kb2 : Kept _ := ⟨hb⟩
      have Kj1 : Kept _ := ⟨j1⟩
      have Kj3 : Kept (f = true ↔ ∀ n, TodoL ts (x :: todo.drop (i + 1)) n → hadP b n) := ⟨j3⟩
      have Kj2 : Kept _ := ⟨j2⟩
      have Kg : Kept _ := ⟨hg⟩
      have Knt : Kept _ := ⟨hnt⟩
      have KHz : Kept (Hs ≤ wz.heap.size) := ⟨by have := hb.size; have := KH.out; omega⟩
      have KN6 : Kept (N < 1000000) := ⟨by have := KTs.out; have := KN.out; omega⟩
      cases R with
      | succ m =>
        have hfm : findN ts.length x = m + 1 := by rw [← KN.out]; exact hR.symm
        obtain ⟨bx, hbx⟩ : ∃ bx, b[m]? = some bx := ⟨_, List.getElem?_eq_getElem (by rw [KbN.out]; omega)⟩
        have Khx : Kept (hadP b m ↔ bx = true) := ⟨had_at hbx⟩
        have Ktd : Kept (∀ n, TodoL ts (x :: todo.drop (i + 1)) n ↔ n = m ∨ TodoL ts (todo.drop (i + 1)) n) := ⟨fun n => todo_name hfm⟩
        obtain ⟨A2, rfl, hA2, hc2⟩ := vals_at (Kb.out.below (fun b hb2 => by
          obtain ⟨p', c', e, _, h3⟩ := Kb.out
          rw [KH.out]
          cases e
          cases ph with
          | none => cases hb2
          | some A0 =>
            cases hb2
            obtain ⟨A1, e1, e2, _⟩ := h3 (by intro e; have := congrArg List.length e; rw [List.length_map] at this; simp at this; rw [this] at hbx; simp at hbx)
            cases e1
            exact e2) hb) (show (b.map Value.bool)[m]? = some (.bool bx) by rw [List.getElem?_map, hbx]; rfl)
        have KC2 : Kept _ := ⟨hc2⟩
        have KC2u : Kept (∀ w2, Below wz.heap.size wz w2 → w2.cell? (A2.add m) = some (.bool bx)) := ⟨fun w2 q => (q.cell (by rw [add_block]; exact hA2)).trans hc2⟩
        have hmN : m < N := by omega
        obtain ⟨m1, hm1⟩ : ∃ m1, m1 = m + 1 := ⟨_, rfl⟩
        have Km1 : Kept _ := ⟨hm1⟩
        rw [← hm1] at KCF
        have hm62 : m1 < 4611686018427387904 := by have := KN6.out; omega
        have Bg : Kept (true = decide ((0 : Int) < ((m1 : Nat) : Int))) := ⟨(decide_eq_true (by omega)).symm⟩
        clear hx hcell hd j1 j2 j3 hxy hxl CF hR hfm hbx hc2 hb hr hlen hnt hm1 hg hRN
        go_wp2_with (first | ((with_reducible refine wv_val (d := 24) ?hd ?hw (.pointer (some (A.add i))) ?hr ?_); (case hd => rfl); (case hw => kernel_rfl); (case hr => intro w; exact run_idxS (c := ct) rfl (by kernel_rfl) (by kernel_rfl) Tryd.underlying29 hin Tryd.sizeOf9 w); simp only [Act.put, List.setIfInBounds_toArray, List.set_cons_succ, List.set_cons_zero]) | ((with_reducible refine wv_elem (d := 25) ?hd ?hw 9 ag_str (.tmp 24) ?ho (A.add i) ?hx (.string (strOf x)) ?hc ?_); (case hd => rfl); (case hw => kernel_rfl); (case ho => rfl); (case hx => kernel_rfl); (case hc => exact KC.out); simp only [Act.put, List.setIfInBounds_toArray, List.set_cons_succ, List.set_cons_zero]))
        refine KCF.out.mono ?_
        rintro e w2 ⟨rfl, q2⟩
        have KC22 : Kept _ := ⟨KC2u.out w2 q2⟩
        cases bx with
        | false =>
          have KE : Kept (f = false) := ⟨by
            cases hff : f with
            | false => rfl
            | true =>
              have := Khx.out.1 (Kj3.out.1 hff m ((Ktd.out m).2 (.inl rfl)))
              cases this⟩
          go_wp2_with (first | ((with_reducible refine wv_val (d := 28) ?hd ?hw (.bool true) ?hr ?_); (case hd => rfl); (case hw => kernel_rfl); (case hr => intro w; exact run_gtrK 0 rfl (by kernel_rfl) Bg.out w); simp only [Act.put, List.setIfInBounds_toArray, List.set_cons_succ, List.set_cons_zero]) | ((with_reducible refine wv_val (d := 31) ?hd ?hw (.int .i64 (m : Int)) ?hr ?_); (case hd => rfl); (case hw => kernel_rfl); (case hr => intro w; exact run_subZ 1 rfl (by kernel_rfl) Km1.out hm62 w); simp only [Act.put, List.setIfInBounds_toArray, List.set_cons_succ, List.set_cons_zero]) | ((with_reducible refine wv_val (d := 32) ?hd ?hw (.pointer (some (A2.add m))) ?hr ?_); (case hd => rfl); (case hw => kernel_rfl); (case hr => intro w; exact run_idxS (c := ch) rfl (by kernel_rfl) (by kernel_rfl) Tryd.underlying33 hmN Tryd.sizeOf4 w); simp only [Act.put, List.setIfInBounds_toArray, List.set_cons_succ, List.set_cons_zero]) | ((with_reducible refine wv_elem (d := 33) ?hd ?hw 4 Tryd.isAgg4 (.tmp 32) ?ho (A2.add m) ?hx (.bool false) ?hc ?_); (case hd => rfl); (case hw => kernel_rfl); (case ho => rfl); (case hx => kernel_rfl); (case hc => exact KC22.out); simp only [Act.put, List.setIfInBounds_toArray, List.set_cons_succ, List.set_cons_zero]))
          go_ret
          exact ⟨by rw [KE.out]; rfl, Kb2.out.trans (q2.mono KHz.out)⟩
        | true =>
          go_wp2_with (first | ((with_reducible refine wv_val (d := 28) ?hd ?hw (.bool true) ?hr ?_); (case hd => rfl); (case hw => kernel_rfl); (case hr => intro w; exact run_gtrK 0 rfl (by kernel_rfl) Bg.out w); simp only [Act.put, List.setIfInBounds_toArray, List.set_cons_succ, List.set_cons_zero]) | ((with_reducible refine wv_val (d := 31) ?hd ?hw (.int .i64 (m : Int)) ?hr ?_); (case hd => rfl); (case hw => kernel_rfl); (case hr => intro w; exact run_subZ 1 rfl (by kernel_rfl) Km1.out hm62 w); simp only [Act.put, List.setIfInBounds_toArray, List.set_cons_succ, List.set_cons_zero]) | ((with_reducible refine wv_val (d := 32) ?hd ?hw (.pointer (some (A2.add m))) ?hr ?_); (case hd => rfl); (case hw => kernel_rfl); (case hr => intro w; exact run_idxS (c := ch) rfl (by kernel_rfl) (by kernel_rfl) Tryd.underlying33 hmN Tryd.sizeOf4 w); simp only [Act.put, List.setIfInBounds_toArray, List.set_cons_succ, List.set_cons_zero]) | ((with_reducible refine wv_elem (d := 33) ?hd ?hw 4 Tryd.isAgg4 (.tmp 32) ?ho (A2.add m) ?hx (.bool true) ?hc ?_); (case hd => rfl); (case hw => kernel_rfl); (case ho => rfl); (case hx => kernel_rfl); (case hc => exact KC22.out); simp only [Act.put, List.setIfInBounds_toArray, List.set_cons_succ, List.set_cons_zero]))
          go_roundg (gk - 1)
          case measure => have := Kg.out; omega
          case rel =>
            refine ⟨todo, i + 1, by have := Kg.out; omega, by have := Knt.out; omega, by simp, Kr.out.under q2, Kb2.out.trans (q2.mono KHz.out), ⟨fun y hy => Kj1.out y (List.mem_cons_of_mem _ hy), by have := Kj2.out; omega, ?_⟩⟩
            rw [Kj3.out]
            exact ⟨fun h n hn => h n ((Ktd.out n).2 (.inr hn)), fun h n hn => by
              rcases (Ktd.out n).1 hn with rfl | hn
              · exact Khx.out.2 (by simp)
              · exact h n hn⟩
      | zero =>
        have hfm : findN ts.length x = 0 := by rw [← KN.out]; exact hR.symm
        have CS := fun w1 : World => rSplitD (s := x) (w := w1) hxy hxl
        have Bg : Kept (false = decide ((0 : Int) < ((0 : Nat) : Int))) := ⟨rfl⟩
        cases hsp : splitL x with
        | none =>
          have Ktd : Kept (∀ n, TodoL ts (x :: todo.drop (i + 1)) n ↔ TodoL ts (todo.drop (i + 1)) n) := ⟨fun n => todo_text hfm hsp⟩
          have e1 : spK x = 0 := by unfold spK; rw [hsp]; rfl
          have e2 : spL x = [] := by unfold spL; rw [hsp]; rfl
          have e3 : spE x = 4 := by unfold spE; rw [hsp]; rfl
          unfold SPost at CS
          rw [e1, e2, e3] at CS
          have KCS : Kept _ := ⟨CS⟩
          have B4 : Kept (false = decide ((4 : Int) = 0)) := ⟨rfl⟩
          have KCu : Kept (∀ w2, Below wz.heap.size wz w2 → w2.cell? (A.add i) = some (.string (strOf x))) := ⟨fun w2 q => (q.cell (by rw [add_block]; exact hA)).trans hcell⟩
          clear hx hcell hd j1 j2 j3 hxy hxl CF hR hfm hb hr hlen hnt hg hRN CS hsp e1 e2 e3
          go_wp2_with (first | ((with_reducible refine wv_val (d := 24) ?hd ?hw (.pointer (some (A.add i))) ?hr ?_); (case hd => rfl); (case hw => kernel_rfl); (case hr => intro w; exact run_idxS (c := ct) rfl (by kernel_rfl) (by kernel_rfl) Tryd.underlying29 hin Tryd.sizeOf9 w); simp only [Act.put, List.setIfInBounds_toArray, List.set_cons_succ, List.set_cons_zero]) | ((with_reducible refine wv_elem (d := 25) ?hd ?hw 9 ag_str (.tmp 24) ?ho (A.add i) ?hx (.string (strOf x)) ?hc ?_); (case hd => rfl); (case hw => kernel_rfl); (case ho => rfl); (case hx => kernel_rfl); (case hc => exact KC.out); simp only [Act.put, List.setIfInBounds_toArray, List.set_cons_succ, List.set_cons_zero]))
          refine KCF.out.mono ?_
          rintro e w2 ⟨rfl, q2⟩
          have KC22 : Kept _ := ⟨KCu.out w2 q2⟩
          go_wp2_with (first | ((with_reducible refine wv_val (d := 28) ?hd ?hw (.bool false) ?hr ?_); (case hd => rfl); (case hw => kernel_rfl); (case hr => intro w; exact run_gtrK 0 rfl (by kernel_rfl) Bg.out w); simp only [Act.put, List.setIfInBounds_toArray, List.set_cons_succ, List.set_cons_zero]) | ((with_reducible refine wv_val (d := 38) ?hd ?hw (.pointer (some (A.add i))) ?hr ?_); (case hd => rfl); (case hw => kernel_rfl); (case hr => intro w; exact run_idxS (c := ct) rfl (by kernel_rfl) (by kernel_rfl) Tryd.underlying29 hin Tryd.sizeOf9 w); simp only [Act.put, List.setIfInBounds_toArray, List.set_cons_succ, List.set_cons_zero]) | ((with_reducible refine wv_elem (d := 39) ?hd ?hw 9 ag_str (.tmp 38) ?ho (A.add i) ?hx (.string (strOf x)) ?hc ?_); (case hd => rfl); (case hw => kernel_rfl); (case ho => rfl); (case hx => kernel_rfl); (case hc => exact KC22.out); simp only [Act.put, List.setIfInBounds_toArray, List.set_cons_succ, List.set_cons_zero]))
          refine (KCS.out _).mono ?_
          rintro e w3 ⟨⟨V3, rfl, hV3⟩, q3⟩
          obtain ⟨p3, c3, rfl, _⟩ := vals_form (vrow_vals hV3) (show (strs []).length = 0 from rfl)
          have q23 := q2.trans (q3.mono q2.size)
          clear hV3
          go_wp2_with fail
          go_roundg (gk - 1)
          case measure => have := Kg.out; omega
          case rel =>
            refine ⟨todo, i + 1, by have := Kg.out; omega, by have := Knt.out; omega, by simp, Kr.out.under q23, Kb2.out.trans (q23.mono KHz.out), ⟨fun y hy => Kj1.out y (List.mem_cons_of_mem _ hy), by have := Kj2.out; omega, ?_⟩⟩
            rw [Kj3.out]
            simp only [Ktd.out]
        | some q =>
          obtain ⟨k, ll⟩ := q
          have Ktd : Kept (∀ n, TodoL ts (x :: todo.drop (i + 1)) n ↔ TodoL ts (todo.drop (i + 1) ++ ll) n) := ⟨fun n => todo_part hfm hsp⟩
          have e1 : spK x = k := by unfold spK; rw [hsp]; rfl
          have e2 : spL x = ll := by unfold spL; rw [hsp]; rfl
          have e3 : spE x = 0 := by unfold spE; rw [hsp]; rfl
          unfold SPost at CS
          rw [e1, e2, e3] at CS
          have KCS : Kept _ := ⟨CS⟩
          have Klk : Kept _ := ⟨Looks.parts j1 hsp⟩
          have Kwp : Kept _ := ⟨weight_split hxy hsp⟩
          have Kda : Kept _ := ⟨drop_app (ll := ll) (show i + 1 ≤ todo.length by omega)⟩
          have KCu : Kept (∀ w2, Below wz.heap.size wz w2 → w2.cell? (A.add i) = some (.string (strOf x))) := ⟨fun w2 q => (q.cell (by rw [add_block]; exact hA)).trans hcell⟩
          obtain ⟨nl, hnl⟩ : ∃ n, n = ll.length := ⟨_, rfl⟩
          have Knl : Kept _ := ⟨hnl⟩
          have Kone : Kept _ := ⟨strs_one ll⟩
          have Kap : Kept ((strs todo).length + (strs ll).length ≤ 1099511627776) := ⟨by rw [strs_len, strs_len]; have := len_weight ll; have := Kwp.out; omega⟩
          clear hx hcell hd j1 j2 j3 hxy hxl CF hR hfm hb hr hlen hnt hg hRN CS hsp e1 e2 e3 hnl
          go_wp2_with (first | ((with_reducible refine wv_val (d := 24) ?hd ?hw (.pointer (some (A.add i))) ?hr ?_); (case hd => rfl); (case hw => kernel_rfl); (case hr => intro w; exact run_idxS (c := ct) rfl (by kernel_rfl) (by kernel_rfl) Tryd.underlying29 hin Tryd.sizeOf9 w); simp only [Act.put, List.setIfInBounds_toArray, List.set_cons_succ, List.set_cons_zero]) | ((with_reducible refine wv_elem (d := 25) ?hd ?hw 9 ag_str (.tmp 24) ?ho (A.add i) ?hx (.string (strOf x)) ?hc ?_); (case hd => rfl); (case hw => kernel_rfl); (case ho => rfl); (case hx => kernel_rfl); (case hc => exact KC.out); simp only [Act.put, List.setIfInBounds_toArray, List.set_cons_succ, List.set_cons_zero]))
          refine KCF.out.mono ?_
          rintro e w2 ⟨rfl, q2⟩
          have KC22 : Kept _ := ⟨KCu.out w2 q2⟩
          go_wp2_with (first | ((with_reducible refine wv_val (d := 28) ?hd ?hw (.bool false) ?hr ?_); (case hd => rfl); (case hw => kernel_rfl); (case hr => intro w; exact run_gtrK 0 rfl (by kernel_rfl) Bg.out w); simp only [Act.put, List.setIfInBounds_toArray, List.set_cons_succ, List.set_cons_zero]) | ((with_reducible refine wv_val (d := 38) ?hd ?hw (.pointer (some (A.add i))) ?hr ?_); (case hd => rfl); (case hw => kernel_rfl); (case hr => intro w; exact run_idxS (c := ct) rfl (by kernel_rfl) (by kernel_rfl) Tryd.underlying29 hin Tryd.sizeOf9 w); simp only [Act.put, List.setIfInBounds_toArray, List.set_cons_succ, List.set_cons_zero]) | ((with_reducible refine wv_elem (d := 39) ?hd ?hw 9 ag_str (.tmp 38) ?ho (A.add i) ?hx (.string (strOf x)) ?hc ?_); (case hd => rfl); (case hw => kernel_rfl); (case ho => rfl); (case hx => kernel_rfl); (case hc => exact KC22.out); simp only [Act.put, List.setIfInBounds_toArray, List.set_cons_succ, List.set_cons_zero]))
          refine (KCS.out _).mono ?_
          rintro e w3 ⟨⟨V3, rfl, hV3⟩, q3⟩
          obtain ⟨p3, c3, rfl, _⟩ := vals_form (vrow_vals hV3) (show (strs ll).length = nl by rw [strs_len, Knl.out])
          have q23 := q2.trans (q3.mono q2.size)
          have Kr3 : Kept _ := ⟨Kr.out.under q23⟩
          have KV3 : Kept _ := ⟨vrow_vals hV3⟩
          have KH3 : Kept (Hs ≤ w3.heap.size) := ⟨Nat.le_trans KHz.out q23.size⟩
          have Kb3 : Kept _ := ⟨Kb2.out.trans (q23.mono KHz.out)⟩
          clear hV3 q2 q3 q23
          go_wp2_with (first | ((refine wl_appV (by kernel_rfl) (.tmp 46) (.tmp 47) 29 9 (.string .empty) 16 rfl Tryd.underlying29 inf_str rfl (by decide) Hs (strs todo) (strs ll) _ _ (by kernel_rfl) (by kernel_rfl) Kr3.out KV3.out Kone.out Kap.out KH3.out ?_); intro v' w4 hr' hg' hne'; simp only [Act.put, List.setIfInBounds_toArray, List.set_cons_succ, List.set_cons_zero]))
          go_roundg (gk - 1)
          case measure => have := Kg.out; omega
          case rel =>
            refine ⟨todo ++ ll, i + 1, ?_, by have := Knt.out; rw [List.length_append]; omega, by simp, by rw [strs_append]; exact hr', Kb3.out.trans (grown_mono hg' KH3.out (fun b hb => (Kr3.out.range b hb).1)), ?_⟩
            · rw [Kda.out, weight_append]
              have := Kg.out; have := Kwp.out; omega
            · rw [Kda.out]
              refine ⟨Klk.out, ?_, ?_⟩
              · rw [weight_append]
                have := Kj2.out; have := Kwp.out; omega
              · rw [Kj3.out]
                simp only [Ktd.out]
end Go.Proofs.YtniogaimhkcedaaDoor.sh
