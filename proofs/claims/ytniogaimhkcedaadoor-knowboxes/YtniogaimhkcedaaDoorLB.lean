/-
  The reference of layer 10: Tell.
-/
import Derived.Test.YtniogaimhkcedaaDoorLA
namespace Go.Proofs.YtniogaimhkcedaaDoor.sh
open Go Go.RowKit
set_option linter.unusedVariables false
set_option linter.unusedSimpArgs false

theorem wl_bs0B {ops : Array Oper} {rest : List Oper} {o : Oper} {a : Act} {w : World} {Q : Exit → Act → World → Prop} (hgd : o.guard = none) (ho : o.op = .buildSlice 33 0 #[]) (h : wpList Tryd.prog ops Q rest (a.put o.dst (.slice (some ⟨w.heap.size, 0, none⟩) 0 0)) (w.alloc (.cells #[] 4))) : wpList Tryd.prog ops Q (o :: rest) a w :=
  wpList_plain hgd fun K hK => by
    have hb : (Instr.buildSlice 33 0 #[]).run Tryd.prog w = .ok (.slice (some ⟨w.heap.size, 0, none⟩) 0 0) (w.alloc (.cells #[] 4)) := by kernel_rfl
    have hrun : (execOp a.eval o).run Tryd.prog w = .ok (.value (.slice (some ⟨w.heap.size, 0, none⟩) 0 0)) (w.alloc (.cells #[] 4)) := by
      unfold execOp
      simp only [ho]
      simp [hb]
    unfold Oper.wp
    rw [hrun]
    exact hK _ _ h
theorem bools_one (b : List Bool) : ∀ x ∈ b.map Value.bool, x.oneCell' = true := fun x hx => by
  obtain ⟨y, _, rfl⟩ := List.mem_map.1 hx
  rfl
/-- Two rows apart from each other. -/
def ApartV (u v : Value) : Prop := ∀ b, blkOf u = some b → blkOf v ≠ some b
theorem ApartV.ne {u v : Value} (h : ApartV u v) : blkOf v = none ∨ blkOf v ≠ blkOf u := by
  cases hv : blkOf v with
  | none => exact .inl rfl
  | some b => exact .inr fun e => h b e.symm hv
theorem ApartV.symm {u v : Value} (h : ApartV u v) : ApartV v u := fun b hb hu => h b hu hb
theorem vrow_set {base g n cap m : Nat} {cc : List Bool} {cur : Array Value} {w w' : World} (h : VRow base 4 (cc.map Value.bool) (.slice (some ⟨g, 0, none⟩) n cap) w) (hn : n = cc.length) (hb : Blk w g 4 cur) (hw : Blk w' g 4 (cur.setIfInBounds m (.bool true))) : VRow base 4 ((cc.set m true).map Value.bool) (.slice (some ⟨g, 0, none⟩) n cap) w' := by
  unfold VRow at *
  rw [List.length_map, ← hn] at h
  rw [List.length_map, List.length_set, ← hn, List.map_set]
  exact rowG_set h hb m _ hw
theorem vrow_boolform {base n : Nat} {cc : List Bool} {v : Value} {w : World} (h : VRow base 4 (cc.map Value.bool) v w) (hn : cc.length = n) (h0 : 0 < n) : ∃ g cap cur, v = .slice (some ⟨g, 0, none⟩) n cap ∧ base ≤ g ∧ Blk w g 4 cur ∧ n ≤ cur.size := by
  unfold VRow at h
  rw [List.length_map, hn] at h
  obtain ⟨g, cap, cur, e, h1, h2, h3, h4, _⟩ := rowG_form h h0
  refine ⟨g, cap, cur, e, h1, h2, ?_⟩
  rwa [List.length_map, hn] at h4
/-- What Tell answers: what was known, and what a text tells. -/
def TellE (ts : List TermL) (b : List Bool) (s : List Nat) (w : World) (e : Ending) (w' : World) : Prop := ∃ V c, e = .returned V ∧ VRow w.heap.size 4 (c.map Value.bool) V w' ∧ c.length = b.length ∧ ∀ j, hadP c j ↔ hadP b j ∨ Leaf ts s j
set_option maxRecDepth 100000 in
set_option maxHeartbeats 4000000 in
theorem TellD {D : Nat → Prop} {ts : List TermL} {b : List Bool} {s : List Nat} {v vb : Value} {w : World} (hv : TsV D v w ts) (hts : ts.length < 1000000) (hb : ValsV vb w (b.map Value.bool)) (hbl : b.length = ts.length) (hs : Bytes s) (hl : s.length ≤ 40000) :
    Calls Tryd.prog 33 #[v, vb, .string (strOf s)] w fun e w' => TellE ts b s w e w' ∧ Below w.heap.size w w' := by
  obtain ⟨N, hN⟩ : ∃ N, N = ts.length := ⟨_, rfl⟩
  obtain ⟨p, c, rfl, _⟩ := ts_form hv hN.symm
  obtain ⟨ph, ch, rfl, _⟩ := vals_form hb (show (b.map Value.bool).length = N by rw [List.length_map, hbl, hN])
  have KTs : Kept _ := ⟨hts⟩
  have KbN : Kept (b.length = N) := ⟨by rw [hbl, hN]⟩
  have KN : Kept _ := ⟨hN⟩
  have Kl : Kept _ := ⟨hl⟩
  have Ks : Kept _ := ⟨hs⟩
  obtain ⟨Hs, hH⟩ : ∃ H, H = w.heap.size := ⟨_, rfl⟩
  have KH : Kept _ := ⟨hH⟩
  have b1 : Below w.heap.size w (w.alloc (.cells #[] 4)) := (Below.refl _ _).alloc (Nat.le_refl _) _
  have Kb1 : Kept (Below Hs w (w.alloc (.cells #[] 4))) := ⟨by rw [hH]; exact b1⟩
  have Kr1 : Kept (VRow Hs 4 [] (.slice (some ⟨w.heap.size, 0, none⟩) 0 0) (w.alloc (.cells #[] 4))) := ⟨by rw [hH]; exact vrow_lit w #[] 0 rfl (Nat.le_refl _) (by decide)⟩
  have Kv1 : Kept (ValsV (.slice ph N ch) (w.alloc (.cells #[] 4)) (b.map Value.bool)) := ⟨hb.under b1⟩
  have Kone1 : Kept _ := ⟨bools_one b⟩
  have Kap1 : Kept (([] : List Value).length + (b.map Value.bool).length ≤ 1099511627776) := ⟨by rw [List.length_map, hbl]; simp; omega⟩
  have KHb : Kept (Hs ≤ (w.alloc (.cells #[] 4)).heap.size) := ⟨by rw [alloc_size]; omega⟩
  have KlN : Kept (([] ++ b.map Value.bool).length = N) := ⟨by rw [List.nil_append, List.length_map, hbl, hN]⟩
  clear hv hts hb hbl hs hl hN b1
  have hH' := hH
  clear hH
  go_enter Tryd.func33, Tryd.ntmps33
  go_wp2_with (first | (refine wl_bs0B rfl rfl ?_; simp only [Act.put, List.setIfInBounds_toArray, List.set_cons_succ, List.set_cons_zero]) | ((refine wl_appV (by kernel_rfl) (.tmp 14) (.tmp 15) 33 4 (.bool false) 1 rfl Tryd.underlying33 inf_bool rfl (by decide) Hs [] (b.map Value.bool) _ _ (by kernel_rfl) (by kernel_rfl) Kr1.out Kv1.out Kone1.out Kap1.out KHb.out ?_); intro vO w2 hrO hgO hneO; obtain ⟨pO, cO, rfl, _⟩ := vals_form (vrow_vals hrO) KlN.out; simp only [Act.put, List.setIfInBounds_toArray, List.set_cons_succ, List.set_cons_zero]) | (refine wl_bs1 (by kernel_rfl) (.tmp 17) rfl (s) (by kernel_rfl) ?_; simp only [Act.put, List.setIfInBounds_toArray, List.set_cons_succ, List.set_cons_zero]))
  have Kst : Kept (VRow Hs 9 (strs [s]) (.slice (some ⟨w2.heap.size, 0, none⟩) 1 1) (w2.alloc (.cells #[.string (strOf s)] 9)) ∧ VRow Hs 4 (b.map Value.bool) (.slice pO N cO) (w2.alloc (.cells #[.string (strOf s)] 9)) ∧ ApartV (.slice (some ⟨w2.heap.size, 0, none⟩) 1 1) (.slice pO N cO) ∧ Below Hs w (w2.alloc (.cells #[.string (strOf s)] 9)) ∧ Looks [s] ∧ 0 + weight ([s].drop 0) ≤ s.length + 1 ∧ ∀ j, (hadP b j ∨ TodoL ts ([s].drop 0) j) ↔ hadP b j ∨ Leaf ts s j) := by
    have q2 : Below Hs w w2 := Kb1.out.trans (grown_mono hgO KHb.out (fun b hb => (Kr1.out.range b hb).1))
    have hs2 : Hs ≤ w2.heap.size := Nat.le_trans KHb.out hgO.size
    rw [List.nil_append] at hrO
    refine ⟨vrow_lit w2 #[.string (strOf s)] 1 rfl hs2 (by decide), hrO.alloc _, fun b hb e => ?_, q2.trans (((Below.refl w2.heap.size w2).alloc (Nat.le_refl _) _).mono hs2), fun x hx => by rw [List.mem_singleton] at hx; rw [hx]; exact ⟨Ks.out, Kl.out⟩, by rw [List.drop_zero, weight_cons, weight_nil]; omega, fun j => by rw [List.drop_zero, todo_one]⟩
    cases hb
    have h9 : w2.heap.size < w2.heap.size := (hrO.range _ e).2
    omega
  clear hrO hgO hneO
  go_loopg [8, 9] (s.length + 1) (fun g s8 s9 wr => ∃ (todo : List (List Nat)) (i : Nat) (cc : List Bool), weight (todo.drop i) ≤ g ∧ i ≤ todo.length ∧ s9 = .int .i64 (i : Int) ∧ VRow Hs 9 (strs todo) s8 wr ∧ VRow Hs 4 (cc.map Value.bool) (.slice pO N cO) wr ∧ ApartV s8 (.slice pO N cO) ∧ Below Hs w wr ∧ Kept (Looks (todo.drop i) ∧ i + weight (todo.drop i) ≤ s.length + 1 ∧ cc.length = N ∧ ∀ j, (hadP cc j ∨ TodoL ts (todo.drop i) j) ↔ hadP b j ∨ Leaf ts s j))
  case atStart =>
    obtain ⟨h1, h2, h3, h4, h5, h6, h7⟩ := Kst.out
    exact ⟨[s], 0, b, by omega, Nat.zero_le _, rfl, h1, h2, h3, h4, ⟨h5, h6, KbN.out, h7⟩⟩
  case round =>
    rename World => wz
    obtain ⟨todo, i, cc, hg, hil, rfl, hr, hO, hap, hb, KJ⟩ := hrel
    obtain ⟨nt, hnt⟩ : ∃ n, n = todo.length := ⟨_, rfl⟩
    obtain ⟨pt, ct, rfl, _⟩ := vals_form (vrow_vals hr) (show (strs todo).length = nt by rw [strs_len, hnt])
    have hlen := len_weight (todo.drop i)
    rw [List.length_drop] at hlen
    have hnt6 : nt ≤ 50000 := by have := KJ.out.2.1; have := Kl.out; omega
    by_cases hin : i < nt
    case neg =>
      have hin' : ¬ (i : Int) < (nt : Int) := by omega
      have KO : Kept _ := ⟨hO⟩
      have Kap : Kept _ := ⟨hap⟩
      have Ked : Kept (todo.drop i = []) := ⟨List.drop_eq_nil_of_le (by omega)⟩
      clear hr hlen hnt hO hap
      go_wp2_with fail
      go_ret
      obtain ⟨_, _, j3, j4⟩ := KJ.out
      refine ⟨⟨_, cc, rfl, by rw [← KH.out]; exact KO.out, by rw [j3, KbN.out], fun j => ?_⟩, by rw [← KH.out]; exact hb⟩
      rw [← j4 j, Ked.out]
      exact ⟨.inl, fun h => h.resolve_right todo_nil⟩
    case pos =>
      have hin' : (i : Int) < (nt : Int) := by omega
      have hi1 : (i : Int) + 1 ≤ 9223372036854775807 := by omega
      obtain ⟨x, hx⟩ : ∃ x, todo[i]? = some x := ⟨_, List.getElem?_eq_getElem (by omega)⟩
      obtain ⟨A, rfl, hA, hcell⟩ := vals_at (vrow_vals hr) (strs_get hx)
      have hd := drop_cons hx
      obtain ⟨j1, j2, jl, j3⟩ := KJ.out
      rw [hd] at j1 j2 j3 hg
      have KO : Kept _ := ⟨hO⟩
      have Kapt : Kept _ := ⟨hap⟩
      have Kjl : Kept _ := ⟨jl⟩
      rw [weight_cons] at j2 hg
      have hxy := (j1 x List.mem_cons_self).1
      have hxl := (j1 x List.mem_cons_self).2
      have CF := rFindD (p := p) (n := N) (c := c) (s := x) (w := wz) hxy (by have := KTs.out; have := KN.out; omega)
      obtain ⟨R, hR⟩ : ∃ R, R = findN N x := ⟨_, rfl⟩
      rw [← hR] at CF
      have hRN : R ≤ N := by rw [hR]; exact findN_le _ _
      have KC : Kept _ := ⟨hcell⟩
      have KCF : Kept _ := ⟨CF⟩
      have Kr : Kept _ := ⟨hr⟩
      have Kb2 : Kept _ := ⟨hb⟩
      have Kj1 : Kept _ := ⟨j1⟩
      have Kj3 : Kept (∀ j, (hadP cc j ∨ TodoL ts (x :: todo.drop (i + 1)) j) ↔ hadP b j ∨ Leaf ts s j) := ⟨j3⟩
      have Kj2 : Kept _ := ⟨j2⟩
      have Kg : Kept _ := ⟨hg⟩
      have Knt : Kept _ := ⟨hnt⟩
      have KHz : Kept (Hs ≤ wz.heap.size) := ⟨by have := hb.size; have := KH.out; omega⟩
      have KN6 : Kept (N < 1000000) := ⟨by have := KTs.out; have := KN.out; omega⟩
      cases R with
      | succ m =>
        have hfm : findN ts.length x = m + 1 := by rw [← KN.out]; exact hR.symm
        have Ktd : Kept (∀ n, TodoL ts (x :: todo.drop (i + 1)) n ↔ n = m ∨ TodoL ts (todo.drop (i + 1)) n) := ⟨fun n => todo_name hfm⟩
        have hmN : m < N := by omega
        obtain ⟨gO, capO, cur, eO, hgB, hbk, hcs⟩ := vrow_boolform hO jl (by omega)
        cases eO
        have Kbk : Kept (∀ w2, Below wz.heap.size wz w2 → Blk w2 gO 4 cur) := ⟨fun w2 q => hbk.under q⟩
        have Kcs : Kept (m < cur.size) := ⟨by omega⟩
        have KgB : Kept _ := ⟨hgB⟩
        obtain ⟨m1, hm1⟩ : ∃ m1, m1 = m + 1 := ⟨_, rfl⟩
        have Km1 : Kept _ := ⟨hm1⟩
        rw [← hm1] at KCF
        have hm62 : m1 < 4611686018427387904 := by have := KN6.out; omega
        have Bg : Kept (true = decide ((0 : Int) < ((m1 : Nat) : Int))) := ⟨(decide_eq_true (by omega)).symm⟩
        clear hx hcell hd j1 j2 j3 jl hxy hxl CF hR hfm hb hr hlen hnt hm1 hg hRN hO hap hbk hcs hgB
        go_wp2_with (first | ((with_reducible refine wv_val (d := 28) ?hd ?hw (.pointer (some (A.add i))) ?hr ?_); (case hd => rfl); (case hw => kernel_rfl); (case hr => intro w; exact run_idxS (c := ct) rfl (by kernel_rfl) (by kernel_rfl) Tryd.underlying29 hin Tryd.sizeOf9 w); simp only [Act.put, List.setIfInBounds_toArray, List.set_cons_succ, List.set_cons_zero]) | ((with_reducible refine wv_elem (d := 29) ?hd ?hw 9 ag_str (.tmp 28) ?ho (A.add i) ?hx (.string (strOf x)) ?hc ?_); (case hd => rfl); (case hw => kernel_rfl); (case ho => rfl); (case hx => kernel_rfl); (case hc => exact KC.out); simp only [Act.put, List.setIfInBounds_toArray, List.set_cons_succ, List.set_cons_zero]))
        refine KCF.out.mono ?_
        rintro e w2 ⟨rfl, q2⟩
        have hb2 := Kbk.out w2 q2
        go_wp2_with (first | ((with_reducible refine wv_val (d := 32) ?hd ?hw (.bool true) ?hr ?_); (case hd => rfl); (case hw => kernel_rfl); (case hr => intro w; exact run_gtrK 0 rfl (by kernel_rfl) Bg.out w); simp only [Act.put, List.setIfInBounds_toArray, List.set_cons_succ, List.set_cons_zero]) | ((with_reducible refine wv_val (d := 35) ?hd ?hw (.int .i64 (m : Int)) ?hr ?_); (case hd => rfl); (case hw => kernel_rfl); (case hr => intro w; exact run_subZ 1 rfl (by kernel_rfl) Km1.out hm62 w); simp only [Act.put, List.setIfInBounds_toArray, List.set_cons_succ, List.set_cons_zero]) | ((with_reducible refine wv_val (d := 36) ?hd ?hw (.pointer (some ⟨gO, m, none⟩)) ?hr ?_); (case hd => rfl); (case hw => kernel_rfl); (case hr => intro w; exact run_idxZ (c := cO) rfl (by kernel_rfl) (by kernel_rfl) Tryd.underlying33 hmN Tryd.sizeOf4 w); simp only [Act.put, List.setIfInBounds_toArray, List.set_cons_succ, List.set_cons_zero]) | ((refine wl_set1 rfl 4 sz_bool (.tmp 36) (.const (.bool true)) rfl gO m (.bool true) (by kernel_rfl) rfl rfl cur hb2 Kcs.out ?_); intro w3 hb3 hp3; simp only [Act.put, List.setIfInBounds_toArray, List.set_cons_succ, List.set_cons_zero]))
        go_roundg (gk - 1)
        case measure => have := Kg.out; omega
        case rel =>
          refine ⟨todo, i + 1, cc.set m true, by have := Kg.out; omega, by have := Knt.out; omega, by simp, (Kr.out.under q2).keeps hp3.grown Kapt.out.symm.ne, vrow_set (KO.out.under q2) Kjl.out.symm hb2 hb3, Kapt.out, (Kb2.out.trans (q2.mono KHz.out)).trans (hp3.below KgB.out), ⟨fun y hy => Kj1.out y (List.mem_cons_of_mem _ hy), by have := Kj2.out; omega, by rw [List.length_set]; exact Kjl.out, fun j => ?_⟩⟩
          rw [← Kj3.out j, Ktd.out j, had_set (by rw [Kjl.out]; exact hmN)]
          constructor
          · rintro ((h | h) | h)
            · exact .inr (.inl h)
            · exact .inl h
            · exact .inr (.inr h)
          · rintro (h | h | h)
            · exact .inl (.inr h)
            · exact .inl (.inl h)
            · exact .inr h
      | zero =>
        have hfm : findN ts.length x = 0 := by rw [← KN.out]; exact hR.symm
        have CS := fun w1 : World => rSplitD (s := x) (w := w1) hxy hxl
        have Bg : Kept (false = decide ((0 : Int) < ((0 : Nat) : Int))) := ⟨rfl⟩
        cases hsp : splitL x with
        | none =>
          have Ktd : Kept (∀ n, TodoL ts (x :: todo.drop (i + 1)) n ↔ TodoL ts (todo.drop (i + 1)) n) := ⟨fun n => todo_text hfm hsp⟩
          have e1 : spK x = 0 := by unfold spK; rw [hsp]; rfl
          have e2 : spL x = [] := by unfold spL; rw [hsp]; rfl
          have e3 : spE x = 4 := by unfold spE; rw [hsp]; rfl
          unfold SPost at CS
          rw [e1, e2, e3] at CS
          have KCS : Kept _ := ⟨CS⟩
          have B4 : Kept (false = decide ((4 : Int) = 0)) := ⟨rfl⟩
          have KCu : Kept (∀ w2, Below wz.heap.size wz w2 → w2.cell? (A.add i) = some (.string (strOf x))) := ⟨fun w2 q => (q.cell (by rw [add_block]; exact hA)).trans hcell⟩
          clear hx hcell hd j1 j2 j3 jl hxy hxl CF hR hfm hb hr hlen hnt hg hRN CS hsp e1 e2 e3 hO hap
          go_wp2_with (first | ((with_reducible refine wv_val (d := 28) ?hd ?hw (.pointer (some (A.add i))) ?hr ?_); (case hd => rfl); (case hw => kernel_rfl); (case hr => intro w; exact run_idxS (c := ct) rfl (by kernel_rfl) (by kernel_rfl) Tryd.underlying29 hin Tryd.sizeOf9 w); simp only [Act.put, List.setIfInBounds_toArray, List.set_cons_succ, List.set_cons_zero]) | ((with_reducible refine wv_elem (d := 29) ?hd ?hw 9 ag_str (.tmp 28) ?ho (A.add i) ?hx (.string (strOf x)) ?hc ?_); (case hd => rfl); (case hw => kernel_rfl); (case ho => rfl); (case hx => kernel_rfl); (case hc => exact KC.out); simp only [Act.put, List.setIfInBounds_toArray, List.set_cons_succ, List.set_cons_zero]))
          refine KCF.out.mono ?_
          rintro e w2 ⟨rfl, q2⟩
          have KC22 : Kept _ := ⟨KCu.out w2 q2⟩
          go_wp2_with (first | ((with_reducible refine wv_val (d := 32) ?hd ?hw (.bool false) ?hr ?_); (case hd => rfl); (case hw => kernel_rfl); (case hr => intro w; exact run_gtrK 0 rfl (by kernel_rfl) Bg.out w); simp only [Act.put, List.setIfInBounds_toArray, List.set_cons_succ, List.set_cons_zero]) | ((with_reducible refine wv_val (d := 40) ?hd ?hw (.pointer (some (A.add i))) ?hr ?_); (case hd => rfl); (case hw => kernel_rfl); (case hr => intro w; exact run_idxS (c := ct) rfl (by kernel_rfl) (by kernel_rfl) Tryd.underlying29 hin Tryd.sizeOf9 w); simp only [Act.put, List.setIfInBounds_toArray, List.set_cons_succ, List.set_cons_zero]) | ((with_reducible refine wv_elem (d := 41) ?hd ?hw 9 ag_str (.tmp 40) ?ho (A.add i) ?hx (.string (strOf x)) ?hc ?_); (case hd => rfl); (case hw => kernel_rfl); (case ho => rfl); (case hx => kernel_rfl); (case hc => exact KC22.out); simp only [Act.put, List.setIfInBounds_toArray, List.set_cons_succ, List.set_cons_zero]))
          refine (KCS.out _).mono ?_
          rintro e w3 ⟨⟨V3, rfl, hV3⟩, q3⟩
          obtain ⟨p3, c3, rfl, _⟩ := vals_form (vrow_vals hV3) (show (strs []).length = 0 from rfl)
          have q23 := q2.trans (q3.mono q2.size)
          clear hV3
          go_wp2_with fail
          go_roundg (gk - 1)
          case measure => have := Kg.out; omega
          case rel =>
            refine ⟨todo, i + 1, cc, by have := Kg.out; omega, by have := Knt.out; omega, by simp, Kr.out.under q23, KO.out.under q23, Kapt.out, Kb2.out.trans (q23.mono KHz.out), ⟨fun y hy => Kj1.out y (List.mem_cons_of_mem _ hy), by have := Kj2.out; omega, Kjl.out, fun j => ?_⟩⟩
            rw [← Kj3.out j, Ktd.out j]
        | some q =>
          obtain ⟨k, ll⟩ := q
          have Ktd : Kept (∀ n, TodoL ts (x :: todo.drop (i + 1)) n ↔ TodoL ts (todo.drop (i + 1) ++ ll) n) := ⟨fun n => todo_part hfm hsp⟩
          have e1 : spK x = k := by unfold spK; rw [hsp]; rfl
          have e2 : spL x = ll := by unfold spL; rw [hsp]; rfl
          have e3 : spE x = 0 := by unfold spE; rw [hsp]; rfl
          unfold SPost at CS
          rw [e1, e2, e3] at CS
          have KCS : Kept _ := ⟨CS⟩
          have Klk : Kept _ := ⟨Looks.parts j1 hsp⟩
          have Kwp : Kept _ := ⟨weight_split hxy hsp⟩
          have Kda : Kept _ := ⟨drop_app (ll := ll) (show i + 1 ≤ todo.length by omega)⟩
          have KCu : Kept (∀ w2, Below wz.heap.size wz w2 → w2.cell? (A.add i) = some (.string (strOf x))) := ⟨fun w2 q => (q.cell (by rw [add_block]; exact hA)).trans hcell⟩
          obtain ⟨nl, hnl⟩ : ∃ n, n = ll.length := ⟨_, rfl⟩
          have Knl : Kept _ := ⟨hnl⟩
          have Kone : Kept _ := ⟨strs_one ll⟩
          have Kap : Kept ((strs todo).length + (strs ll).length ≤ 1099511627776) := ⟨by rw [strs_len, strs_len]; have := len_weight ll; have := Kwp.out; omega⟩
          clear hx hcell hd j1 j2 j3 jl hxy hxl CF hR hfm hb hr hlen hnt hg hRN CS hsp e1 e2 e3 hO hap hnl
          go_wp2_with (first | ((with_reducible refine wv_val (d := 28) ?hd ?hw (.pointer (some (A.add i))) ?hr ?_); (case hd => rfl); (case hw => kernel_rfl); (case hr => intro w; exact run_idxS (c := ct) rfl (by kernel_rfl) (by kernel_rfl) Tryd.underlying29 hin Tryd.sizeOf9 w); simp only [Act.put, List.setIfInBounds_toArray, List.set_cons_succ, List.set_cons_zero]) | ((with_reducible refine wv_elem (d := 29) ?hd ?hw 9 ag_str (.tmp 28) ?ho (A.add i) ?hx (.string (strOf x)) ?hc ?_); (case hd => rfl); (case hw => kernel_rfl); (case ho => rfl); (case hx => kernel_rfl); (case hc => exact KC.out); simp only [Act.put, List.setIfInBounds_toArray, List.set_cons_succ, List.set_cons_zero]))
          refine KCF.out.mono ?_
          rintro e w2 ⟨rfl, q2⟩
          have KC22 : Kept _ := ⟨KCu.out w2 q2⟩
          go_wp2_with (first | ((with_reducible refine wv_val (d := 32) ?hd ?hw (.bool false) ?hr ?_); (case hd => rfl); (case hw => kernel_rfl); (case hr => intro w; exact run_gtrK 0 rfl (by kernel_rfl) Bg.out w); simp only [Act.put, List.setIfInBounds_toArray, List.set_cons_succ, List.set_cons_zero]) | ((with_reducible refine wv_val (d := 40) ?hd ?hw (.pointer (some (A.add i))) ?hr ?_); (case hd => rfl); (case hw => kernel_rfl); (case hr => intro w; exact run_idxS (c := ct) rfl (by kernel_rfl) (by kernel_rfl) Tryd.underlying29 hin Tryd.sizeOf9 w); simp only [Act.put, List.setIfInBounds_toArray, List.set_cons_succ, List.set_cons_zero]) | ((with_reducible refine wv_elem (d := 41) ?hd ?hw 9 ag_str (.tmp 40) ?ho (A.add i) ?hx (.string (strOf x)) ?hc ?_); (case hd => rfl); (case hw => kernel_rfl); (case ho => rfl); (case hx => kernel_rfl); (case hc => exact KC22.out); simp only [Act.put, List.setIfInBounds_toArray, List.set_cons_succ, List.set_cons_zero]))
          refine (KCS.out _).mono ?_
          rintro e w3 ⟨⟨V3, rfl, hV3⟩, q3⟩
          obtain ⟨p3, c3, rfl, _⟩ := vals_form (vrow_vals hV3) (show (strs ll).length = nl by rw [strs_len, Knl.out])
          have q23 := q2.trans (q3.mono q2.size)
          have Kr3 : Kept _ := ⟨Kr.out.under q23⟩
          have KV3 : Kept _ := ⟨vrow_vals hV3⟩
          have KH3 : Kept (Hs ≤ w3.heap.size) := ⟨Nat.le_trans KHz.out q23.size⟩
          have Kb3 : Kept _ := ⟨Kb2.out.trans (q23.mono KHz.out)⟩
          have q23' := q23
          clear hV3 q2 q3 q23
          go_wp2_with (first | ((refine wl_appV (by kernel_rfl) (.tmp 48) (.tmp 49) 29 9 (.string .empty) 16 rfl Tryd.underlying29 inf_str rfl (by decide) Hs (strs todo) (strs ll) _ _ (by kernel_rfl) (by kernel_rfl) Kr3.out KV3.out Kone.out Kap.out KH3.out ?_); intro v' w4 hr' hg' hne'; simp only [Act.put, List.setIfInBounds_toArray, List.set_cons_succ, List.set_cons_zero]))
          go_roundg (gk - 1)
          case measure => have := Kg.out; omega
          case rel =>
            have KO3 := (KO.out.under q23').keeps hg' Kapt.out.ne
            refine ⟨todo ++ ll, i + 1, cc, ?_, by have := Knt.out; rw [List.length_append]; omega, by simp, by rw [strs_append]; exact hr', KO3, fun b hb e => ?_, Kb3.out.trans (grown_mono hg' KH3.out (fun b hb => (Kr3.out.range b hb).1)), ?_⟩
            · rw [Kda.out, weight_append]
              have := Kg.out; have := Kwp.out; omega
            · rcases hne' with h | h
              · exact Kapt.out b (by rw [← h]; exact hb) e
              · rw [hb] at h
                cases h
                have := ((KO.out.under q23').range _ e).2
                omega
            · rw [Kda.out]
              refine ⟨Klk.out, ?_, Kjl.out, fun j => ?_⟩
              · rw [weight_append]
                have := Kj2.out; have := Kwp.out; omega
              · rw [← Kj3.out j, Ktd.out j]
end Go.Proofs.YtniogaimhkcedaaDoor.sh
