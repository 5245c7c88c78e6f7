/-
  The reference's Put.
-/
import Derived.Test.YtfdldpcfdebinaaDoorDR
namespace Go.Proofs.YtfdldpcfdebinaaDoor.sh
open Go Go.RowKit
set_option linter.unusedVariables false
set_option linter.unusedSimpArgs false

theorem run_bs0S (w : World) : (Instr.buildSlice 35 0 #[]).run Tryd.prog w = .ok (.slice (some ⟨w.heap.size, 0, none⟩) 0 0) (w.alloc (.cells #[] 9)) := by kernel_rfl
theorem wl_bs0S {ops : Array Oper} {rest : List Oper} {o : Oper} {a : Act} {w : World} {Q : Exit → Act → World → Prop} (hgd : o.guard = none) (ho : o.op = .buildSlice 35 0 #[]) (h : wpList Tryd.prog ops Q rest (a.put o.dst (.slice (some ⟨w.heap.size, 0, none⟩) 0 0)) (w.alloc (.cells #[] 9))) : wpList Tryd.prog ops Q (o :: rest) a w :=
  wpList_plain hgd fun K hK => by
    have hrun : (execOp a.eval o).run Tryd.prog w = .ok (.value (.slice (some ⟨w.heap.size, 0, none⟩) 0 0)) (w.alloc (.cells #[] 9)) := by
      unfold execOp
      simp only [ho]
      simp [run_bs0S]
    unfold Oper.wp
    rw [hrun]
    exact hK _ _ h
theorem run_bs0T (w : World) : (Instr.buildSlice 27 0 #[]).run Tryd.prog w = .ok (.slice (some ⟨w.heap.size, 0, none⟩) 0 0) (w.alloc (.cells #[] 41)) := by kernel_rfl
theorem wl_bs0T {ops : Array Oper} {rest : List Oper} {o : Oper} {a : Act} {w : World} {Q : Exit → Act → World → Prop} (hgd : o.guard = none) (ho : o.op = .buildSlice 27 0 #[]) (h : wpList Tryd.prog ops Q rest (a.put o.dst (.slice (some ⟨w.heap.size, 0, none⟩) 0 0)) (w.alloc (.cells #[] 41))) : wpList Tryd.prog ops Q (o :: rest) a w :=
  wpList_plain hgd fun K hK => by
    have hrun : (execOp a.eval o).run Tryd.prog w = .ok (.value (.slice (some ⟨w.heap.size, 0, none⟩) 0 0)) (w.alloc (.cells #[] 41)) := by
      unfold execOp
      simp only [ho]
      simp [run_bs0T]
    unfold Oper.wp
    rw [hrun]
    exact hK _ _ h
theorem term_row0 {base : Nat} (w : World) (hb : base ≤ w.heap.size) : (w.alloc (.cells #[] 41)).ownsRow base 41 2 (.slice (some ⟨w.heap.size, 0, none⟩) 0 0) 0 [] :=
  ⟨rfl, .inr ⟨w.heap.size, 0, #[], rfl, hb, heap_new w _, Nat.le_refl _, by decide, rfl, rfl⟩⟩
theorem run_buildT {o : Oper} {a : Act} {x y : Operand} {k m c : Nat} {p : Option Addr} (ho : o.op = .build 41 #[(0, x), (1, y)]) (hx : a.eval x = .int .u8 (k : Int)) (hy : a.eval y = .slice p m c) (w : World) : (execOp a.eval o).run Tryd.prog w = .ok (.value (.agg #[.int .u8 (k : Int), .slice p m c])) w := by
  have hb : (Instr.build 41 #[(0, .int .u8 (k : Int)), (1, .slice p m c)]).run Tryd.prog w = .ok (.agg #[.int .u8 (k : Int), .slice p m c]) w := by kernel_rfl
  unfold execOp
  simp only [ho]
  simp [hx, hy, hb]
theorem infoT2 : (Tryd.prog.info? 41).map (·.size) = some 2 := by kernel_rfl
theorem vals_one {v : Value} {w : World} {vs : List Value} (h : ValsV v w vs) : v.oneCell' = true := by
  obtain ⟨p, c, rfl, _⟩ := h
  rfl
theorem ts_cells {D : Nat → Prop} {p : Option Addr} {n c : Nat} {w : World} {ts : List TermL} (h : TsV D (.slice p n c) w ts) : ∃ Vs : List Value, Vs.length = ts.length ∧
    (∀ w', Below w.heap.size w w' → n ≠ 0 → ∃ A, p = some A ∧ ∀ (j : Nat) (x : Value), (tcells ts Vs)[j]? = some x → w'.cell? (A.add j) = some x) ∧
    (∀ w', Below w.heap.size w w' → ∀ (j : Nat) (t : TermL) (V : Value), ts[j]? = some t → Vs[j]? = some V → ValsV V w' (strs t.2) ∧ ∀ b, blkOf V = some b → D b) ∧ ∀ x ∈ tcells ts Vs, x.oneCell' = true := by
  obtain ⟨Vs, p', c', h1, h2, h3, h4, h5⟩ := h
  cases h2
  refine ⟨Vs, h1, fun w' hb hne => ?_, fun w' hb j t V ht hV => ⟨(h5 j t V ht hV).1.under hb, (h5 j t V ht hV).2⟩, tcells_one fun V hV => ?_⟩
  · obtain ⟨A, e1, e2, e3, e4⟩ := h4 (by intro e; rw [e] at hne; exact hne rfl)
    exact ⟨A, e1, fun j x hx => (hb.cell (by rw [add_block]; exact e2)).trans (e4 j x hx)⟩
  · obtain ⟨j, hj⟩ := List.mem_iff_getElem?.1 hV
    exact vals_one (h5 j _ V (List.getElem?_eq_getElem (by rw [← h1]; exact (List.getElem?_eq_some_iff.1 hj).1)) hj).1
theorem ts_row {D : Nat → Prop} {base : Nat} {v : Value} {w : World} {us : List TermL} {Vs : List Value} (hl : Vs.length = us.length) (hr : w.ownsRow base 41 2 v us.length (tcells us Vs)) (hV : ∀ (j : Nat) (t : TermL) (V : Value), us[j]? = some t → Vs[j]? = some V → ValsV V w (strs t.2) ∧ ∀ b, blkOf V = some b → D b) (hD : ∀ b, base ≤ b → b < w.heap.size → D b) : TsV D v w us := by
  rcases hr.2 with ⟨rfl, h0⟩ | ⟨g, cap, cur, rfl, hb, hg, hn, hm, hs, ht⟩
  · have : us = [] := List.eq_nil_of_length_eq_zero h0
    subst this
    exact ts_nil D w
  · have hlt : g < w.heap.size := (Array.getElem?_eq_some_iff.1 hg).1
    refine ⟨Vs, _, cap, hl, rfl, hn, fun _ => ⟨_, rfl, hlt, hD g hb hlt, fun j x hx => ?_⟩, hV⟩
    rw [addr_add, Nat.zero_add]
    refine cell_row hg ?_
    have hj := (List.getElem?_eq_some_iff.1 hx).1
    rw [tcells_len hl] at hj
    have h3 : (cur.toList.take (us.length * 2))[j]? = (tcells us Vs)[j]? := by rw [ht]
    rw [List.getElem?_take_of_lt hj, hx, Array.getElem?_toList] at h3
    exact h3
theorem ts_put {D : Nat → Prop} {base k : Nat} {v V' : Value} {w : World} {ts : List TermL} {Vs : List Value} {ll : List (List Nat)} (hl : Vs.length = ts.length) (hr : w.ownsRow base 41 2 v (ts.length + 1) (tcells ts Vs ++ [.int .u8 (k : Int), V'])) (hold : ∀ (j : Nat) (t : TermL) (V : Value), ts[j]? = some t → Vs[j]? = some V → ValsV V w (strs t.2) ∧ ∀ b, blkOf V = some b → D b)
    (hnew : ValsV V' w (strs ll)) (hnb : ∀ b, blkOf V' = some b → D b) (hD : ∀ b, base ≤ b → b < w.heap.size → D b) : TsV D v w (ts ++ [(k, ll)]) := by
  refine ts_row (Vs := Vs ++ [V']) (by simp [hl]) (by rw [tcells_append (k, ll) V' hl, List.length_append]; exact hr) (fun j t V ht hV => ?_) hD
  by_cases hj : j < ts.length
  · rw [List.getElem?_append_left hj] at ht
    rw [List.getElem?_append_left (by omega)] at hV
    exact hold j t V ht hV
  · have hj2 := (List.getElem?_eq_some_iff.1 ht).1
    rw [List.length_append, List.length_singleton] at hj2
    obtain rfl : j = ts.length := by omega
    rw [List.getElem?_append_right (Nat.le_refl _), Nat.sub_self] at ht
    rw [← hl, List.getElem?_append_right (Nat.le_refl _), Nat.sub_self] at hV
    simp at ht hV
    subst ht hV
    exact ⟨hnew, hnb⟩
theorem row_range {base s n : Nat} {e : TypeId} {v : Value} {xs : List Value} {w : World} (h : w.ownsRow base e s v n xs) : ∀ b, blkOf v = some b → base ≤ b ∧ b < w.heap.size := fun b hb => by
  rcases h.2 with ⟨rfl, _⟩ | ⟨g, cap, cur, rfl, h1, h2, _⟩
  · cases hb
  · cases hb
    exact ⟨h1, (Array.getElem?_eq_some_iff.1 h2).1⟩
theorem new_cells (w : World) (A : Array Value) (e : TypeId) : (1 : Nat) ≠ 0 → ∃ B, some (⟨w.heap.size, 0, none⟩ : Addr) = some B ∧ ∀ (j : Nat) (x : Value), A.toList[j]? = some x → (w.alloc (.cells A e)).cell? (B.add j) = some x := fun _ => ⟨_, rfl, fun j x hx => by
  rw [addr_add, Nat.zero_add]
  rw [Array.getElem?_toList] at hx
  exact cell_row (blk_new w e A) hx⟩
theorem row_under {base s n : Nat} {e : TypeId} {v : Value} {xs : List Value} {w w' : World} (h : w.ownsRow base e s v n xs) (hb : Below w.heap.size w w') : w'.ownsRow base e s v n xs := by
  obtain ⟨h1, h2⟩ := h
  refine ⟨h1, ?_⟩
  rcases h2 with h | ⟨g, cap, cur, rfl, hq, hgt, r⟩
  · exact .inl h
  · refine .inr ⟨g, cap, cur, rfl, hq, ?_, r⟩
    rw [hb.block g (Array.getElem?_eq_some_iff.1 hgt).1]
    exact hgt
/-- What Put and Dh and an act come to, on a list of the reference. -/
def News (D : Nat → Prop) (w w' : World) (b : Nat) : Prop := D b ∨ (w.heap.size ≤ b ∧ b < w'.heap.size)
def RPut (D : Nat → Prop) (w : World) (us : List TermL) (N : List Nat) (e : Ending) (w' : World) : Prop := ∃ v', e = .returned (.tuple #[v', .string (strOf N)]) ∧ TsV (News D w w') v' w' us

set_option maxRecDepth 100000 in
set_option maxHeartbeats 4000000 in
theorem rPut {D : Nat → Prop} {ts us : List TermL} {N : List Nat} {k : Nat} {ll : List (List Nat)} {v V : Value} {w : World} (hv : TsV D v w ts) (hT : Terms ts) (hk : Formed (k, ll)) (hV : ValsV V w (strs ll)) (hl : ∀ l ∈ ll, l.length ≤ maxLen) (hn : ts.length < 1000000) (hp : putL ts (k, ll) = (us, N)) :
    Calls Tryd.prog 27 #[v, .int .u8 (k : Int), V] w fun e w' => RPut D w us N e w' ∧ Below w.heap.size w w' := by
  have hk256 : k < 256 := kind_lt hk
  have hy := hk.1
  have CJ := rJoinD hk256 hV (fun l h => ⟨hy l h, hl l h⟩)
  obtain ⟨n, hnn⟩ : ∃ n, n = ts.length := ⟨_, rfl⟩
  obtain ⟨m, hmm⟩ : ∃ n, n = ll.length := ⟨_, rfl⟩
  obtain ⟨p, c, rfl, hc⟩ := ts_form hv hnn.symm
  obtain ⟨pV, cV, rfl, hcV⟩ := vals_form hV (show (strs ll).length = m by rw [strs_len, hmm])
  have hn6 : n < 1000000 := by omega
  have KTs : Kept _ := ⟨hv⟩
  have KV : Kept _ := ⟨hV⟩
  have KT : Kept _ := ⟨hT⟩
  have Kn : Kept _ := ⟨hnn⟩
  have Km : Kept _ := ⟨hmm⟩
  have Kp : Kept _ := ⟨hp⟩
  have Ky : Kept (∀ l ∈ ll, Bytes l) := ⟨hy⟩
  by_cases hF : Fits ll
  case neg =>
    have hput : us = ts ∧ N = [] := by
      rw [putL_not hF] at hp
      cases hp
      exact ⟨rfl, rfl⟩
    rw [joinS_not hF, joinE_not hF] at CJ
    have KC : Kept _ := ⟨CJ⟩
    have KPt : Kept _ := ⟨hput⟩
    clear CJ hv hT hk hV hl hn hp hnn hmm hy hput hF
    go_enter Tryd.func27, Tryd.ntmps27
    go_wp2_with fail
    refine KC.out.mono ?_
    rintro e w1 ⟨rfl, q1⟩
    go_wp2_with fail
    go_ret2
    exact ⟨⟨.slice p n c, by rw [KPt.out.2]; rfl, by rw [KPt.out.1]; exact (KTs.out.under q1).mono fun b hb => .inl hb⟩, q1⟩
  case pos =>
    rw [joinE_fits hF] at CJ
    have KC : Kept _ := ⟨CJ⟩
    have KF : Kept _ := ⟨hF⟩
    obtain ⟨JS, hJS⟩ : ∃ J, J = joinS k ll := ⟨_, rfl⟩
    rw [← hJS] at KC
    clear CJ hv hT hk hV hl hn hp hnn hmm hy hF hJS
    go_enter Tryd.func27, Tryd.ntmps27
    go_wp2_with fail
    refine KC.out.mono ?_
    rintro e w1 ⟨rfl, q1⟩
    clear KC
    go_wp2_with fail
    go_loopg [10] n (fun g s10 wr => ∃ i : Nat, i + g = n ∧ s10 = .int .i64 (i : Int) ∧ Kept (∀ j, j < i → ts[j]? ≠ some (k, ll)) ∧ Below w.heap.size w wr)
    case atStart => exact ⟨0, by omega, rfl, ⟨fun j h => by omega⟩, q1⟩
    case round =>
      rename World => wz
      clear q1
      obtain ⟨i, hik, rfl, KJ, hb⟩ := hrel
      by_cases hk0 : gk = 0
      case neg =>
        have hin : i < n := by omega
        have hin' : (i : Int) < (n : Int) := by omega
        have hi1 : (i : Int) + 1 ≤ 9223372036854775807 := by omega
        obtain ⟨t, ht⟩ : ∃ t, ts[i]? = some t := ⟨_, List.getElem?_eq_getElem (by rw [← Kn.out]; exact hin)⟩
        have hF2 := KT.out.2 t (List.mem_of_getElem? ht)
        have hl2 := (KT.out.1.2 t (List.mem_of_getElem? ht)).1
        obtain ⟨k2, l2⟩ := t
        obtain ⟨A, U2, rfl, hA, hc0, hc1, hV2⟩ := ts_at (KTs.out.under hb) ht
        have K0 : Kept _ := ⟨hc0⟩
        have K1 : Kept _ := ⟨hc1⟩
        obtain ⟨pU, cU, rfl, _⟩ := vals_form hV2 (strs_len l2)
        have CS := SameD hV2 (KV.out.under hb) hF2.1 Ky.out (Nat.le_trans hl2 (by decide))
        have Kht : Kept _ := ⟨ht⟩
        clear hF2 hl2 hc0 hc1 hV2 ht
        by_cases hkk : k2 = k
        case neg =>
          have D2 : Kept (false = decide (k2 = k)) := ⟨(decide_eq_false hkk).symm⟩
          have KJ2 : Kept (∀ j, j < i + 1 → ts[j]? ≠ some (k, ll)) := ⟨fun j h e => by
            by_cases hj : j = i
            · subst hj
              rw [Kht.out] at e
              cases e
              exact hkk rfl
            · exact KJ.out j (by omega) e⟩
          clear CS hkk
          go_wp2_with (first | ((with_reducible refine wv_val (d := 30) ?hd ?hw (.pointer (some (A.add (i * 2)))) ?hr ?_); (case hd => rfl); (case hw => kernel_rfl); (case hr => intro w; exact run_idxT (c := c) rfl (by kernel_rfl) (by kernel_rfl) hin w); simp only [Act.put, List.setIfInBounds_toArray, List.set_cons_succ, List.set_cons_zero]) | ((with_reducible refine wv_val (d := 31) ?hd ?hw (.pointer (some (A.add (i * 2)))) ?hr ?_); (case hd => rfl); (case hw => kernel_rfl); (case hr => intro w; exact run_fldT0 rfl (by kernel_rfl) w); simp only [Act.put, List.setIfInBounds_toArray, List.set_cons_succ, List.set_cons_zero]) | ((with_reducible refine wv_elem (d := 32) ?hd ?hw 5 Tryd.isAgg5 (.tmp 31) ?ho (A.add (i * 2)) ?hx (.int .u8 (k2 : Int)) ?hc ?_); (case hd => rfl); (case hw => kernel_rfl); (case ho => rfl); (case hx => kernel_rfl); (case hc => exact K0.out); simp only [Act.put, List.setIfInBounds_toArray, List.set_cons_succ, List.set_cons_zero]) | ((with_reducible refine wv_val (d := 34) ?hd ?hw (.bool false) ?hr ?_); (case hd => rfl); (case hw => kernel_rfl); (case hr => intro w; exact run_eqU rfl (by kernel_rfl) (by kernel_rfl) D2.out w); simp only [Act.put, List.setIfInBounds_toArray, List.set_cons_succ, List.set_cons_zero]) | ((with_reducible refine wv_val (d := 38) ?hd ?hw (.pointer (some (A.add (i * 2)))) ?hr ?_); (case hd => rfl); (case hw => kernel_rfl); (case hr => intro w; exact run_idxT (c := c) rfl (by kernel_rfl) (by kernel_rfl) hin w); simp only [Act.put, List.setIfInBounds_toArray, List.set_cons_succ, List.set_cons_zero]) | ((with_reducible refine wv_val (d := 39) ?hd ?hw (.pointer (some ((A.add (i * 2)).add 1))) ?hr ?_); (case hd => rfl); (case hw => kernel_rfl); (case hr => intro w; exact run_fldT1 rfl (by kernel_rfl) w); simp only [Act.put, List.setIfInBounds_toArray, List.set_cons_succ, List.set_cons_zero]) | ((with_reducible refine wv_elem (d := 40) ?hd ?hw 35 ag_strs (.tmp 39) ?ho ((A.add (i * 2)).add 1) ?hx (.slice pU l2.length cU) ?hc ?_); (case hd => rfl); (case hw => kernel_rfl); (case ho => rfl); (case hx => kernel_rfl); (case hc => exact K1.out); simp only [Act.put, List.setIfInBounds_toArray, List.set_cons_succ, List.set_cons_zero]))
          go_roundg (gk - 1)
          case measure => omega
          case rel => exact ⟨i + 1, by omega, by simp, KJ2, hb⟩
        case pos =>
          have D2 : Kept (true = decide (k2 = k)) := ⟨(decide_eq_true hkk).symm⟩
          by_cases hll : l2 = ll
          case neg =>
            have KJ2 : Kept (∀ j, j < i + 1 → ts[j]? ≠ some (k, ll)) := ⟨fun j h e => by
              by_cases hj : j = i
              · subst hj
                rw [Kht.out] at e
                cases e
                exact hll rfl
              · exact KJ.out j (by omega) e⟩
            rw [decide_eq_false hll] at CS
            have KCS : Kept _ := ⟨CS⟩
            clear CS hkk hll
            go_wp2_with (first | ((with_reducible refine wv_val (d := 30) ?hd ?hw (.pointer (some (A.add (i * 2)))) ?hr ?_); (case hd => rfl); (case hw => kernel_rfl); (case hr => intro w; exact run_idxT (c := c) rfl (by kernel_rfl) (by kernel_rfl) hin w); simp only [Act.put, List.setIfInBounds_toArray, List.set_cons_succ, List.set_cons_zero]) | ((with_reducible refine wv_val (d := 31) ?hd ?hw (.pointer (some (A.add (i * 2)))) ?hr ?_); (case hd => rfl); (case hw => kernel_rfl); (case hr => intro w; exact run_fldT0 rfl (by kernel_rfl) w); simp only [Act.put, List.setIfInBounds_toArray, List.set_cons_succ, List.set_cons_zero]) | ((with_reducible refine wv_elem (d := 32) ?hd ?hw 5 Tryd.isAgg5 (.tmp 31) ?ho (A.add (i * 2)) ?hx (.int .u8 (k2 : Int)) ?hc ?_); (case hd => rfl); (case hw => kernel_rfl); (case ho => rfl); (case hx => kernel_rfl); (case hc => exact K0.out); simp only [Act.put, List.setIfInBounds_toArray, List.set_cons_succ, List.set_cons_zero]) | ((with_reducible refine wv_val (d := 34) ?hd ?hw (.bool true) ?hr ?_); (case hd => rfl); (case hw => kernel_rfl); (case hr => intro w; exact run_eqU rfl (by kernel_rfl) (by kernel_rfl) D2.out w); simp only [Act.put, List.setIfInBounds_toArray, List.set_cons_succ, List.set_cons_zero]) | ((with_reducible refine wv_val (d := 38) ?hd ?hw (.pointer (some (A.add (i * 2)))) ?hr ?_); (case hd => rfl); (case hw => kernel_rfl); (case hr => intro w; exact run_idxT (c := c) rfl (by kernel_rfl) (by kernel_rfl) hin w); simp only [Act.put, List.setIfInBounds_toArray, List.set_cons_succ, List.set_cons_zero]) | ((with_reducible refine wv_val (d := 39) ?hd ?hw (.pointer (some ((A.add (i * 2)).add 1))) ?hr ?_); (case hd => rfl); (case hw => kernel_rfl); (case hr => intro w; exact run_fldT1 rfl (by kernel_rfl) w); simp only [Act.put, List.setIfInBounds_toArray, List.set_cons_succ, List.set_cons_zero]) | ((with_reducible refine wv_elem (d := 40) ?hd ?hw 35 ag_strs (.tmp 39) ?ho ((A.add (i * 2)).add 1) ?hx (.slice pU l2.length cU) ?hc ?_); (case hd => rfl); (case hw => kernel_rfl); (case ho => rfl); (case hx => kernel_rfl); (case hc => exact K1.out); simp only [Act.put, List.setIfInBounds_toArray, List.set_cons_succ, List.set_cons_zero]))
            refine KCS.out.mono ?_
            rintro e w2 ⟨rfl, q2⟩
            go_wp2_with fail
            go_roundg (gk - 1)
            case measure => omega
            case rel => exact ⟨i + 1, by omega, by simp, KJ2, hb.trans (q2.mono hb.size)⟩
          case pos =>
            have hsame : us = ts ∧ N = termN (i + 1) := by
              have h1 := Kht.out
              rw [hkk, hll] at h1
              have h2 := Kp.out
              rw [putL_same KT.out h1] at h2
              cases h2
              exact ⟨rfl, rfl⟩
            rw [decide_eq_true hll] at CS
            have KCS : Kept _ := ⟨CS⟩
            obtain ⟨j1, hj1⟩ : ∃ j1, j1 = i + 1 := ⟨_, rfl⟩
            have KJ1 : Kept _ := ⟨hj1⟩
            have hj62 : j1 < 4611686018427387904 := by omega
            have CN : Kept (∀ w1, Calls Tryd.prog 16 #[.int .i64 (j1 : Int)] w1 fun e w' => e = .returned (.string (strOf N)) ∧ Below w1.heap.size w1 w') := ⟨fun w1 => by
              rw [hsame.2, ← hj1]
              exact rNameD (by omega)⟩
            have Kus : Kept _ := ⟨hsame.1⟩
            clear CS hkk hll hsame hj1
            go_wp2_with (first | ((with_reducible refine wv_val (d := 30) ?hd ?hw (.pointer (some (A.add (i * 2)))) ?hr ?_); (case hd => rfl); (case hw => kernel_rfl); (case hr => intro w; exact run_idxT (c := c) rfl (by kernel_rfl) (by kernel_rfl) hin w); simp only [Act.put, List.setIfInBounds_toArray, List.set_cons_succ, List.set_cons_zero]) | ((with_reducible refine wv_val (d := 31) ?hd ?hw (.pointer (some (A.add (i * 2)))) ?hr ?_); (case hd => rfl); (case hw => kernel_rfl); (case hr => intro w; exact run_fldT0 rfl (by kernel_rfl) w); simp only [Act.put, List.setIfInBounds_toArray, List.set_cons_succ, List.set_cons_zero]) | ((with_reducible refine wv_elem (d := 32) ?hd ?hw 5 Tryd.isAgg5 (.tmp 31) ?ho (A.add (i * 2)) ?hx (.int .u8 (k2 : Int)) ?hc ?_); (case hd => rfl); (case hw => kernel_rfl); (case ho => rfl); (case hx => kernel_rfl); (case hc => exact K0.out); simp only [Act.put, List.setIfInBounds_toArray, List.set_cons_succ, List.set_cons_zero]) | ((with_reducible refine wv_val (d := 34) ?hd ?hw (.bool true) ?hr ?_); (case hd => rfl); (case hw => kernel_rfl); (case hr => intro w; exact run_eqU rfl (by kernel_rfl) (by kernel_rfl) D2.out w); simp only [Act.put, List.setIfInBounds_toArray, List.set_cons_succ, List.set_cons_zero]) | ((with_reducible refine wv_val (d := 38) ?hd ?hw (.pointer (some (A.add (i * 2)))) ?hr ?_); (case hd => rfl); (case hw => kernel_rfl); (case hr => intro w; exact run_idxT (c := c) rfl (by kernel_rfl) (by kernel_rfl) hin w); simp only [Act.put, List.setIfInBounds_toArray, List.set_cons_succ, List.set_cons_zero]) | ((with_reducible refine wv_val (d := 39) ?hd ?hw (.pointer (some ((A.add (i * 2)).add 1))) ?hr ?_); (case hd => rfl); (case hw => kernel_rfl); (case hr => intro w; exact run_fldT1 rfl (by kernel_rfl) w); simp only [Act.put, List.setIfInBounds_toArray, List.set_cons_succ, List.set_cons_zero]) | ((with_reducible refine wv_elem (d := 40) ?hd ?hw 35 ag_strs (.tmp 39) ?ho ((A.add (i * 2)).add 1) ?hx (.slice pU l2.length cU) ?hc ?_); (case hd => rfl); (case hw => kernel_rfl); (case ho => rfl); (case hx => kernel_rfl); (case hc => exact K1.out); simp only [Act.put, List.setIfInBounds_toArray, List.set_cons_succ, List.set_cons_zero]))
            refine KCS.out.mono ?_
            rintro e w2 ⟨rfl, q2⟩
            go_wp2_with (first | ((with_reducible refine wv_val (d := 46) ?hd ?hw (.int .i64 (j1 : Int)) ?hr ?_); (case hd => rfl); (case hw => kernel_rfl); (case hr => intro w; exact run_addZ 1 rfl (by kernel_rfl) KJ1.out hj62 w); simp only [Act.put, List.setIfInBounds_toArray, List.set_cons_succ, List.set_cons_zero]))
            refine (CN.out _).mono ?_
            rintro e w3 ⟨rfl, q3⟩
            have hb3 := (hb.trans (q2.mono hb.size)).trans (q3.mono (Nat.le_trans hb.size q2.size))
            go_wp2_with fail
            go_ret2
            refine ⟨⟨_, rfl, ?_⟩, hb3⟩
            rw [Kus.out]
            exact (KTs.out.under hb3).mono fun b hb => .inl hb
      case pos =>
        obtain rfl : n = i := by omega
        have hnew : us = ts ++ [(k, ll)] ∧ N = termN (n + 1) := by
          have h2 := Kp.out
          rw [putL_new KF.out (fun hm => by
            obtain ⟨j, hj⟩ := List.mem_iff_getElem?.1 hm
            exact KJ.out j (by rw [Kn.out]; exact (List.getElem?_eq_some_iff.1 hj).1) hj)] at h2
          rw [Kn.out]
          cases h2
          exact ⟨rfl, rfl⟩
        obtain ⟨j1, hj1⟩ : ∃ j1, j1 = n + 1 := ⟨_, rfl⟩
        have KJ1 : Kept _ := ⟨hj1⟩
        have hj62 : j1 < 4611686018427387904 := by omega
        have CN : Kept (∀ w1, Calls Tryd.prog 16 #[.int .i64 (j1 : Int)] w1 fun e w' => e = .returned (.string (strOf N)) ∧ Below w1.heap.size w1 w') := ⟨fun w1 => by
          rw [hnew.2, ← hj1]
          exact rNameD (by omega)⟩
        have Kus : Kept _ := ⟨hnew.1⟩
        obtain ⟨Vs, hVl, hVc, hVp, hV1⟩ := ts_cells (KTs.out.under hb)
        have KVc : Kept _ := ⟨hVc⟩
        have KVp : Kept _ := ⟨hVp⟩
        have KV1 : Kept _ := ⟨hV1⟩
        have KVl : Kept _ := ⟨hVl⟩
        have hVz := KV.out.under hb
        have bz := (Below.refl wz.heap.size wz).alloc (Nat.le_refl _) (.cells #[] 9)
        have KHV : Kept (ValsV (.slice pV m cV) (wz.alloc (.cells #[] 9)) (strs ll)) := ⟨hVz.under bz⟩
        have KR0 : Kept (VRow wz.heap.size 9 [] (.slice (some ⟨wz.heap.size, 0, none⟩) 0 0) (wz.alloc (.cells #[] 9))) := ⟨vrow_lit wz #[] 0 rfl (Nat.le_refl _) (by decide)⟩
        have Klen : Kept (([] ++ strs ll).length = m) := ⟨by rw [List.nil_append, strs_len, Km.out]⟩
        have Kap : Kept (([] : List Value).length + (strs ll).length ≤ 1099511627776) := ⟨by rw [strs_len]; have := KF.out.1; simp; omega⟩
        have Kone : Kept _ := ⟨strs_one ll⟩
        have Ktl : Kept ((tcells ts Vs).length = n * 2) := ⟨by rw [tcells_len hVl, Kn.out]⟩
        have hn1 : 0 + n ≤ 1000001 := by omega
        have hn2 : n + 1 ≤ 1000001 := by omega
        have Kbz : Kept _ := ⟨bz⟩
        have Kzz : Kept (wz.heap.size ≤ (wz.alloc (.cells #[] 9)).heap.size) := ⟨bz.size⟩
        clear hVc hVp hV1 hVz bz hnew hj1 hVl
        go_wp2_with (first | (refine wl_bs0S rfl rfl ?_; simp only [Act.put, List.setIfInBounds_toArray, List.set_cons_succ, List.set_cons_zero]) | ((refine wl_appV (by kernel_rfl) (.tmp 49) (.tmp 50) 35 9 (.string .empty) 16 rfl Tryd.underlying35 inf_str rfl (by decide) wz.heap.size [] (strs ll) _ _ (by kernel_rfl) (by kernel_rfl) KR0.out KHV.out Kone.out Kap.out Kzz.out ?_); intro VP wA hVP hgP hbP; obtain ⟨p1, c1, rfl, _⟩ := vals_form (vrow_vals hVP) Klen.out; have qA := vapp_below Kbz.out Kzz.out KR0.out hgP; simp only [Act.put, List.setIfInBounds_toArray, List.set_cons_succ, List.set_cons_zero]) | ((with_reducible refine wv_val (d := 52) ?hd ?hw (.agg #[.int .u8 (k : Int), .slice p1 m c1]) ?hr ?_); (case hd => rfl); (case hw => kernel_rfl); (case hr => intro w; exact run_buildT rfl (by kernel_rfl) (by kernel_rfl) w); simp only [Act.put, List.setIfInBounds_toArray, List.set_cons_succ, List.set_cons_zero]) | ((refine wl_bs0T rfl rfl ?_); have hbS := blk_new wA 41 #[.int .u8 (k : Int), .slice p1 m c1]; have qS : Below wA.heap.size wA (wA.alloc (.cells #[.int .u8 (k : Int), .slice p1 m c1] 41)) := (Below.refl _ _).alloc (Nat.le_refl _) _; (generalize hwS : wA.alloc (.cells #[.int .u8 (k : Int), .slice p1 m c1] 41) = wS at *); clear hwS; have qzS := qA.trans (qS.mono qA.size); have bS := (Below.refl wS.heap.size wS).alloc (Nat.le_refl _) (.cells #[] 41); have qzT := qzS.trans (bS.mono qzS.size); have KcS : Kept _ := ⟨KVc.out _ qzT⟩; have K0S : Kept _ := ⟨term_row0 wS (Nat.le_refl _)⟩; simp only [Act.put, List.setIfInBounds_toArray, List.set_cons_succ, List.set_cons_zero]) | ((refine wl_appT rfl (.tmp 53) (.tmp 54) rfl wS.heap.size 0 n c [] (tcells ts Vs) _ p (by kernel_rfl) (by kernel_rfl) K0S.out Ktl.out KcS.out KV1.out hn1 bS.size ?_); intro v1 wB hr1 hg1 hs1; rw [Nat.zero_add, List.nil_append] at hr1; have qB := bS.trans (grown_mono hg1 bS.size (fun b hb => (row_range K0S.out b hb).1)); have hbB := hbS.under qB; simp only [Act.put, List.setIfInBounds_toArray, List.set_cons_succ, List.set_cons_zero]) | ((with_reducible refine wv_rowS (d := 57) ?hd ?hw 41 (.tmp 11) ?ho (wA.heap.size) ?hx (t' := 41) (#[.int .u8 (k : Int), .slice p1 m c1]) _ Tryd.underlying41 ?hs ?hg ?_); (case hd => rfl); (case hw => kernel_rfl); (case ho => rfl); (case hx => kernel_rfl); (case hs => exact infoT2); (case hg => exact hbB); simp only [Act.put, List.setIfInBounds_toArray, List.set_cons_succ, List.set_cons_zero]) | ((refine wl_bsT rfl (.tmp 57) rfl k p1 m c1 (by kernel_rfl) ?_); have bB := (Below.refl wB.heap.size wB).alloc (Nat.le_refl _) (.cells #[.int .u8 (k : Int), .slice p1 m c1] 41); have KcB : Kept _ := ⟨new_cells wB #[.int .u8 (k : Int), .slice p1 m c1] 41⟩; have K1B : Kept _ := ⟨row_under hr1 bB⟩; have qBB := qB.trans (bB.mono qB.size); simp only [Act.put, List.setIfInBounds_toArray, List.set_cons_succ, List.set_cons_zero]) | ((refine wl_appT rfl (.tmp 56) (.tmp 58) rfl wS.heap.size n 1 1 (tcells ts Vs) [.int .u8 (k : Int), .slice p1 m c1] v1 (some ⟨wB.heap.size, 0, none⟩) (by kernel_rfl) (by kernel_rfl) K1B.out rfl KcB.out (by simp [Value.oneCell']) hn2 qBB.size ?_); intro v2 wC hr2 hg2 hs2; have qC := qBB.trans (grown_mono hg2 qBB.size (fun b hb => (row_range K1B.out b hb).1)); simp only [Act.put, List.setIfInBounds_toArray, List.set_cons_succ, List.set_cons_zero]) | ((with_reducible refine wv_val (d := 62) ?hd ?hw (.int .i64 (j1 : Int)) ?hr ?_); (case hd => rfl); (case hw => kernel_rfl); (case hr => intro w; exact run_addZ 1 rfl (by kernel_rfl) KJ1.out hj62 w); simp only [Act.put, List.setIfInBounds_toArray, List.set_cons_succ, List.set_cons_zero]))
        refine (CN.out _).mono ?_
        rintro e wD ⟨rfl, qD⟩
        have qzC := qzS.trans (qC.mono qzS.size)
        have qzD := qzC.trans (qD.mono qzC.size)
        have hbD := hb.trans (qzD.mono hb.size)
        go_wp2_with fail
        go_ret2
        refine ⟨⟨_, rfl, ?_⟩, hbD⟩
        rw [Kus.out]
        have hAD := (qS.trans (qC.mono qS.size)).trans (qD.mono (Nat.le_trans qS.size qC.size))
        refine TsV.under (w := wC) (ts_put (base := wS.heap.size) KVl.out (by rw [← Kn.out]; exact hr2) (fun j t V h1 h2 => ?_) ?_ (fun b hb2 => ?_) (fun b h1 h2 => ?_)) qD
        · have := KVp.out wC qzC j t V h1 h2
          exact ⟨this.1, fun b hb => .inl (this.2 b hb)⟩
        · have h1 := vrow_vals hVP
          rw [List.nil_append] at h1
          exact h1.under (qS.trans (qC.mono qS.size))
        · have h1 := hVP.range b hb2
          exact .inr ⟨Nat.le_trans hb.size h1.1, Nat.lt_of_lt_of_le h1.2 hAD.size⟩
        · exact .inr ⟨Nat.le_trans hb.size (Nat.le_trans qzS.size h1), Nat.lt_of_lt_of_le h2 qD.size⟩
end Go.Proofs.YtfdldpcfdebinaaDoor.sh
