/-
  What the reference package's fold does: a number below 2^512 comes to one below 2^256 that is the same modulo p.
-/
import Derived.Test.YtjagicnkfmndeaaDoorR3
import Derived.Deep.LoopGhost
namespace Go.Proofs.YtjagicnkfmndeaaDoor
open Go.RowKit
set_option linter.unusedSimpArgs false
set_option linter.unusedVariables false

/-- 'make([]int, n)'. -/
theorem wpList_mk {ops : Array Oper} {rest : List Oper} {o : Oper} {a : Act} {w : World} {Q : Exit → Act → World → Prop} (hgd : o.guard = none) (l c : Operand)
    (ho : o.op = Op.makeSlice 49 l c) (n : Nat) (hl : a.eval l = .int .i64 (n : Int)) (hc : a.eval c = .int .i64 (n : Int)) (hn : n ≤ 100000)
    (h : ∀ w', w'.ownsRow w.heap.size 3 1 (.slice (some ⟨w.heap.size, 0, none⟩) n n) n (irow (List.replicate n 0)) → Below w.heap.size w w' → w.heap.size < w'.heap.size → wpList Tryd.prog ops Q rest (a.put o.dst (.slice (some ⟨w.heap.size, 0, none⟩) n n)) w') : wpList Tryd.prog ops Q (o :: rest) a w := by
  obtain ⟨i0, hi, hz0, hz1, hz2⟩ := info_parts info3
  refine wpList_make_full w hgd l c 49 ho w.heap.size 3 i0 (.int .i64 0) 1 Tryd.underlying49 hi hz0 hz1 .i64 .i64 n n n hl hc rfl rfl ?_ ?_ (Nat.le_refl _) fun w' h1 h2 => h w' ?_ ?_ ?_
  · rw [hz2]; omega
  · unfold maxLen; omega
  · have e : (madeCells (Value.int .i64 0).cells (n * 1)).toList = irow (List.replicate n 0) := by
      rw [show (Value.int .i64 0).cells = #[Value.int .i64 0] from rfl, toList_madeCells_one]
      simp [irow]
    rw [e] at h1
    exact h1
  · exact (Below.refl _ _).grown h2 (Nat.le_refl _) (fun k hk => by cases hk)
  · rcases h1.2 with ⟨h', _⟩ | ⟨g', cap', cur, h', _, hg, _⟩
    · simp at h'
    · simp only [Value.slice.injEq, Option.some.injEq, Addr.mk.injEq, and_true, true_and] at h'
      obtain ⟨rfl, _⟩ := h'
      exact (Array.getElem?_eq_some_iff.1 hg).1

theorem rep_zero (n j : Nat) : (List.replicate n 0).getD j 0 = 0 := by
  simp only [List.getD, List.getElem?_replicate]
  split <;> rfl

theorem irow_set (l : List Nat) (k x : Nat) : (irow l).set k (.int .i64 (x : Int)) = irow (l.set k x) := by simp [irow, List.map_set]
theorem own_cell {w : World} {b g n cap : Nat} {l : List Nat} (h : w.ownsRow b 3 1 (.slice (some ⟨g, 0, none⟩) n cap) n (irow l)) (j : Nat) (hj : j < n) : w.cell? ⟨g, j, none⟩ = some (.int .i64 ((l.getD j 0 : Nat) : Int)) := by
  rw [h.cellAt j (by omega)]
  have hl : l.length = n := by have := h.1; rw [irow_len] at this; omega
  exact irow_get l j _ (by simp [List.getD, show j < l.length by omega])

theorem high_yes (V g m cap : Nat) (w : World) (h32 : 32 ≤ m) (hm : m ≤ 70) (hV : V < 256 ^ m) (hh : Holds w g (digs V m)) (h : 256 ^ 32 ≤ V) :
    Calls Tryd.prog 63 #[.slice (some ⟨g, 0, none⟩) m cap] w fun e w' => e = .returned (.bool true) ∧ w' = w := by
  have := high_any V g m cap w h32 hm hV hh
  rwa [decide_eq_true h] at this
theorem high_no (V g m cap : Nat) (w : World) (h32 : 32 ≤ m) (hm : m ≤ 70) (hV : V < 256 ^ m) (hh : Holds w g (digs V m)) (h : ¬ 256 ^ 32 ≤ V) :
    Calls Tryd.prog 63 #[.slice (some ⟨g, 0, none⟩) m cap] w fun e w' => e = .returned (.bool false) ∧ w' = w := by
  have := high_any V g m cap w h32 hm hV hh
  rwa [decide_eq_false h] at this

theorem Holds.take {w : World} {g V m k : Nat} (h : Holds w g (digs V m)) (hk : k ≤ m) : Holds w g (digs V k) :=
  ⟨h.1, fun j hj => by
    rw [digs_len] at hj
    have := h.2 j (by rw [digs_len]; omega)
    rw [digs_at V m j (by omega)] at this
    rw [digs_at V k j hj]
    exact this⟩

theorem getD_set (l : List Nat) (k x j : Nat) (hk : k < l.length) : (l.set k x).getD j 0 = if j = k then x else l.getD j 0 := by
  simp only [List.getD, List.getElem?_set]
  by_cases e : k = j
  · subst e; simp [hk]
  · simp [e, Ne.symm e]

set_option maxHeartbeats 2000000 in
theorem fold_ref (l : List Nat) (g n cap : Nat) (w : World) (hn : l.length = n) (h64 : n ≤ 64) (hM : ∀ j, l.getD j 0 ≤ 1099511627776) (hh : Holds w g l) (hV : val l < 256 ^ 64) :
    Calls Tryd.prog 53 #[.slice (some ⟨g, 0, none⟩) n cap] w fun e w' => ∃ g' cap' V, e = .returned (.slice (some ⟨g', 0, none⟩) 32 cap') ∧ 32 ≤ cap' ∧ w.heap.size ≤ g' ∧ V < 256 ^ 32 ∧ V % 57896044618658097711785492504343953926634992332820282019728792003956564819949 = val l % 57896044618658097711785492504343953926634992332820282019728792003956564819949 ∧ Holds w' g' (digs V 32) ∧ Below w.heap.size w w' := by
  have HF : Hid (∀ V : Nat, (V % 256 ^ 32 + 38 * (V / 256 ^ 32)) % 57896044618658097711785492504343953926634992332820282019728792003956564819949 = V % 57896044618658097711785492504343953926634992332820282019728792003956564819949) := fold_mod
  generalize 57896044618658097711785492504343953926634992332820282019728792003956564819949 = p at *
  have HV : Hid (val l < 256 ^ 64) := hV
  clear hV
  go_enter Tryd.func53, Tryd.ntmps53
  go_wp2_with fail
  refine (carry_any l g n cap _ hn h64 hM hh).mono ?_
  rintro e w1 ⟨g1, c1, m1, rfl, h1, h2, h3, h4, h5, h6, h7, hb1⟩
  have H6 : Hid (val l < 256 ^ m1) := h6
  clear h6 hM hh
  go_wp2
  go_loopg [3] (val l) (fun V s3 wr => ∃ gd cd m : Nat, s3 = .slice (some ⟨gd, 0, none⟩) m cd ∧ 32 ≤ m ∧ m ≤ 70 ∧ m ≤ cd ∧ cd ≤ maxLen ∧ w.heap.size ≤ gd ∧ Hid (V < 256 ^ m ∧ V < 256 ^ 64 ∧ V % p = val l % p) ∧ Holds wr gd (digs V m) ∧ Below w.heap.size w wr)
  case atStart => exact ⟨g1, c1, m1, rfl, h4, h5, h1, h2, h3, ⟨H6.out, HV.out, rfl⟩, h7, hb1⟩
  case round =>
    obtain ⟨gd, cd, m, rfl, hm1, hm2, hm3, hm4, hgd, HW, hhd, hb⟩ := hrel
    by_cases h32 : Hid (256 ^ 32 ≤ gk)
    · go_wp2_with fail
      refine (high_yes gk gd m cd _ hm1 hm2 HW.out.1 hhd h32.out).mono ?_
      rintro e w2 ⟨rfl, rfl⟩
      go_wp2_with (first | (at_make; refine wpList_mk rfl _ _ rfl 32 rfl rfl (by omega) ?_) | go_in)
      intro w3 hown0 hb3 hlt3
      have hhd3 := hhd.under hb3
      have hgdl : gd < w2.heap.size := hhd.1
      go_wp2
      go_loopw [5] (fun i wi => ∃ (t : Nat) (out : List Nat), t ≤ m ∧ i = .int .i64 t ∧ out.length = 32 ∧ Hid (val out = foldTo gk t) ∧ Hid (∀ j, out.getD j 0 ≤ 9690 * t) ∧ wi.ownsRow w2.heap.size 3 1 (.slice (some ⟨w2.heap.size, 0, none⟩) 32 32) 32 (irow out) ∧ Below w2.heap.size w2 wi) (fun i _ => m - (intOf i).toNat)
      case atStart => exact ⟨0, List.replicate 32 0, by omega, rfl, rfl, (by show _ = _; rfl), (by show ∀ _, _; intro j; rw [rep_zero]; exact Nat.zero_le _), hown0, hb3⟩
      case round =>
        obtain ⟨t, out, ht, rfl, hol, HO, HB, hown, hbi⟩ := hrel
        by_cases htm : t < m
        · have hcd := (hhd.under hbi).2 t (by rw [digs_len]; exact htm)
          rw [digs_at _ _ _ htm] at hcd
          have hk32 : t % 32 < 32 := by omega
          have hco := own_cell hown (t % 32) hk32
          have hfz := hown.frozenAt (t % 32)
          have hbo : out.getD (t % 32) 0 ≤ 9690 * t := HB.out _
          have hbd : gk / 256 ^ t % 256 < 256 := Nat.mod_lt _ (by decide)
          generalize hxx : gk / 256 ^ t % 256 = x at *
          generalize hyy : out.getD (t % 32) 0 = y at *
          have HX : Hid _ := hxx
          have HY : Hid _ := hyy
          clear hxx hyy
          by_cases ht32 : t < 32
          · go_wp2
            go_region
            go_wp2
            refine ⟨⟨t + 1, out.set (t % 32) (y + x), by omega, by go_num, by simp [hol], ?_, ?_, ?_, ?_⟩, by simp [intOf]; omega⟩
            · show _ = _
              have e := val_set out x (t % 32) (by omega)
              rw [HY.out] at e
              rw [e, HO.out, foldTo, if_pos ht32, HX.out, Nat.one_mul]
            · show ∀ _, _
              intro j
              rw [getD_set _ _ _ _ (by omega)]
              split
              · omega
              · have := HB.out j; omega
            · have h := (hown.stored (t % 32) (.int .i64 (((y + x : Nat)) : Int))).1
              rw [irow_set] at h
              exact h.drew
            · exact (hbi.setCell (Nat.le_refl _) _).drew
          · go_wp2
            go_region
            go_wp2
            refine ⟨⟨t + 1, out.set (t % 32) (y + 38 * x), by omega, by go_num, by simp [hol], ?_, ?_, ?_, ?_⟩, by simp [intOf]; omega⟩
            · show _ = _
              have e := val_set out (38 * x) (t % 32) (by omega)
              rw [HY.out] at e
              rw [e, HO.out, foldTo, if_neg ht32, HX.out]
            · show ∀ _, _
              intro j
              rw [getD_set _ _ _ _ (by omega)]
              split
              · omega
              · have := HB.out j; omega
            · have h := (hown.stored (t % 32) (.int .i64 (((y + 38 * x : Nat)) : Int))).1
              rw [irow_set] at h
              exact h.drew
            · exact (hbi.setCell (Nat.le_refl _) _).drew
        · have e : t = m := by omega
          subst e
          have HA : Hid (val out = gk % 256 ^ 32 + 38 * (gk / 256 ^ 32)) := by
            show _ = _
            rw [HO.out]; exact foldTo_all gk t HW.out.2.1 HW.out.1 hm1
          have hM2 : ∀ j, out.getD j 0 ≤ 1099511627776 := fun j => by have := HB.out j; omega
          obtain ⟨go, co, e2, _, _, hgo, _, hho⟩ := owns_holds hown (by omega)
          simp only [Value.slice.injEq, Option.some.injEq, Addr.mk.injEq, and_true, true_and] at e2
          obtain ⟨rfl, rfl⟩ := e2
          have HM2 : Hid _ := hM2
          clear hM2
          go_wp2_with fail
          refine (carry_any out _ 32 32 _ hol (by omega) HM2.out hho).mono ?_
          rintro e w4 ⟨g4, c4, m4, rfl, a1, a2, a3, a4, a5, a6, a7, hb4⟩
          have A6 : Hid (val out < 256 ^ m4) := a6
          clear a6
          go_wp2
          go_roundg (val out)
          case measure => rw [HA.out]; exact fold_less gk h32.out
          case rel =>
            have hz := hbi.size
            have hz2 := hb.size
            refine ⟨g4, c4, m4, rfl, a4, a5, a1, a2, by omega, ⟨A6.out, ?_, ?_⟩, a7, ?_⟩
            · rw [HA.out]; exact fold_bound gk HW.out.2.1
            · rw [HA.out, HF.out]; exact HW.out.2.2
            · exact hb.trans ((hbi.trans (hb4.mono (by omega))).mono (by omega))
    · go_wp2_with fail
      refine (high_no gk gd m cd _ hm1 hm2 HW.out.1 hhd h32).mono ?_
      rintro e w2 ⟨rfl, rfl⟩
      go_wp2
      go_ret
      exact ⟨gd, cd, gk, rfl, by omega, hgd, Nat.lt_of_not_le h32, HW.out.2.2, hhd.take hm1, hb⟩
end Go.Proofs.YtjagicnkfmndeaaDoor
