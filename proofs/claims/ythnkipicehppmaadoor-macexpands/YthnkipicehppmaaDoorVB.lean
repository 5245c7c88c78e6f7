/-
  The reference's Keys.
-/
import Derived.Test.YthnkipicehppmaaDoorVA
import Derived.Test.YthnkipicehppmaaDoorUX
namespace Go.Proofs.YthnkipicehppmaaDoor.sh
open Go Go.RowKit
set_option linter.unusedVariables false
set_option linter.unusedSimpArgs false

theorem keysL_succ (key b : List Nat) (i : Nat) : keysL key b (i + 1) = keysL key b i ++ [tL (macL key b) [] (i + 1)] := by simp [keysL, List.range_succ]
set_option maxRecDepth 100000 in
set_option maxHeartbeats 1000000 in
theorem rKeys_bad (C : Array Value) (z : Int) (vi : Value) (w : World) (hz : z < 1 ∨ 3 < z) :
    Calls Tryd.prog 17 #[.agg C, vi, .int .i64 z] w fun e w' => e = .returned (.tuple #[.slice none 0 0, .int .i64 2]) ∧ Below w.heap.size w w' := by
  have Q0 : Below w.heap.size w (w.alloc (.cells C 24)) := (Below.refl _ _).alloc (Nat.le_refl _) _
  rcases hz with h | h
  · go_enter Tryd.func17, Tryd.ntmps17
    go_wp2_with fail
    go_ret2
    exact ⟨rfl, Q0⟩
  · have h0 : ¬ z < 1 := by omega
    go_enter Tryd.func17, Tryd.ntmps17
    go_wp2_with fail
    go_ret2
    exact ⟨rfl, Q0⟩
set_option maxRecDepth 100000 in
set_option maxHeartbeats 4000000 in
theorem rKeys_ok (key b : List Nat) (n : Nat) (vb : Value) (w : World) (hk : key.length = 32) (hy : Bytes key) (hb : Bytes b) (hbn : b.length ≤ 800) (h1 : 1 ≤ n) (h3 : n ≤ 3) (hvb : BytesV vb w b) :
    Calls Tryd.prog 17 #[.agg (ints .u8 key), vb, .int .i64 (n : Int)] w fun e w' => ∃ v, e = .returned (.tuple #[v, .int .i64 0]) ∧ KRow w.heap.size (keysL key b n) v w' ∧ Below w.heap.size w w' := by
  have LK : Kept _ := ⟨hk⟩
  have YK : Kept _ := ⟨hy⟩
  have YB : Kept _ := ⟨hb⟩
  have NB : Kept _ := ⟨hbn⟩
  have KV : Kept _ := ⟨hvb⟩
  obtain ⟨E, hE⟩ : ∃ E, E = macL key b := ⟨_, rfl⟩
  have EE : Kept _ := ⟨hE⟩
  have LE : Kept (E.length = 32) := ⟨by rw [hE]; exact macL_len _ _⟩
  have YE : Kept (Bytes E) := ⟨by rw [hE]; exact macL_bytes _ _⟩
  obtain ⟨M, hM⟩ : ∃ M, M = 32 * n := ⟨_, rfl⟩
  have EM : Kept _ := ⟨hM⟩
  have M96 : M ≤ 96 := by omega
  have M1 : 32 ≤ M := by omega
  obtain ⟨X, hX⟩ : ∃ X, X = expL E [] M := ⟨_, rfl⟩
  have EX : Kept (X = tsL E [] n) := ⟨by rw [hX, ← expL_of E [] n M (by omega) (by omega), List.take_of_length_le (by rw [tsL_len]; omega)]⟩
  have EX0 : Kept _ := ⟨hX⟩
  have LX : Kept (X.length = M) := ⟨by rw [hX]; exact expL_len _ _ _ (by omega)⟩
  have A0 : Blk (w.alloc (.cells (ints .u8 key) 24)) w.heap.size 24 (ints .u8 key) := blk_new w _ _
  have Q0 : Below w.heap.size w (w.alloc (.cells (ints .u8 key) 24)) := (Below.refl _ _).alloc (Nat.le_refl _) _
  have h1' : ¬ (n : Int) < 1 := by omega
  have h3' : ¬ (3 : Int) < (n : Int) := by omega
  clear hk hy hb hbn hE hM hX hvb
  go_enter Tryd.func17, Tryd.ntmps17
  go_wp2_with fail
  generalize hW : w.alloc (.cells (ints .u8 key) 24) = wa at *
  clear hW
  refine (rmExtract_any key b _ _ wa YK.out (by rw [LK.out]; decide) YB.out (by have := NB.out; omega) (arr_bytes A0 LK.out) (KV.out.under Q0)).mono ?_
  rintro e w1 ⟨rfl, hb1⟩
  rw [← EE.out]
  have Q1 := Q0.trans (hb1.mono Q0.size)
  clear A0 Q0 hb1
  go_wp2_with (first | (refine wl_store rfl 24 (.tmp 8) (.tmp 23) rfl w1.heap.size (ints .u8 E) rfl rfl _ (blk_new w1 _ _) (by rw [ints_size, LE.out]; exact t32_info) (by rw [ints_size, LE.out]; rfl) (ints_one _ _) ?_))
  intro w2 A2 P2
  have Q2 := (Q1.alloc Q1.size _).trans (P2.below Q1.size)
  clear P2 Q1
  have CE : Kept (Calls Tryd.prog 15 #[.agg (ints .u8 E), .slice none 0 0, .int .i64 (M : Int)] w2 fun e w' => ∃ v, e = .returned (.tuple #[v, .int .i64 0]) ∧ IntsV .u8 v w' X ∧ Below w2.heap.size w2 w') := ⟨by rw [EX0.out]; exact rExpand_ok E [] M _ w2 LE.out YE.out nil_bytes (by decide) (by omega) ⟨none, 0, rfl, Nat.le_refl _, fun h => absurd rfl h⟩⟩
  go_wp2_with (first | ((with_reducible refine wv_row (d := 25) ?hd ?hw 24 (.tmp 8) ?ho (w1.heap.size) ?hx (t' := 24) (ints .u8 E) _ _ Tryd.underlying24 ?hs ?hg ?_); (case hd => rfl); (case hw => kernel_rfl); (case ho => rfl); (case hx => kernel_rfl); (case hs => rw [ints_size, LE.out]; exact t32_info); (case hg => exact A2); simp only [Act.put, List.setIfInBounds_toArray, List.set_cons_succ, List.set_cons_zero]) | ((with_reducible refine wv_val (d := 27) ?hd ?hw (.int .i64 (M : Int)) ?hr ?_); (case hd => rfl); (case hw => kernel_rfl); (case hr => intro w; exact run_mulC 32 rfl (by kernel_rfl) EM.out (by omega) w); simp only [Act.put, List.setIfInBounds_toArray, List.set_cons_succ, List.set_cons_zero]))
  refine CE.out.mono ?_
  rintro e wb ⟨v9, rfl, VX, hbb⟩
  have KX : Kept _ := ⟨VX⟩
  obtain ⟨p9, c9, e9, _, hA9⟩ := VX
  rw [LX.out] at e9
  obtain ⟨A, rfl, hAl, hAc⟩ := hA9 (by intro e; have := LX.out; rw [e] at this; simp at this; omega)
  subst e9
  have KAC : Kept _ := ⟨hAc⟩
  have Q4 := Q2.trans (hbb.mono Q2.size)
  clear CE A2 Q2 hbb hA9 hAc
  go_wp2_with fail
  go_loopg [11, 12] n (fun m s11 s12 wr => ∃ i : Nat, i + m = n ∧ s12 = .int .i64 (i : Int) ∧ Kept (KRow wb.heap.size (keysL key b i) s11 wr ∧ Below wb.heap.size wb wr))
  case atStart => exact ⟨0, by omega, rfl, ⟨World.ownsRow_nil _ _ _ _, Below.refl _ _⟩⟩
  case round =>
    obtain ⟨i, him, rfl, KQ⟩ := hrel
    obtain ⟨RK, HB⟩ := KQ.out
    have KK : Kept _ := ⟨RK⟩
    clear KQ RK
    by_cases hi : i < n
    case pos =>
      have hi' : (i : Int) < (n : Int) := by omega
      obtain ⟨T, hT⟩ : ∃ T, T = tL E [] (i + 1) := ⟨_, rfl⟩
      have LT : Kept (T.length = 32) := ⟨by rw [hT]; exact tL_len _ _ i⟩
      have XT : Kept (∀ j, j < 32 → X[32 * i + j]? = T[j]?) := ⟨fun j hj => by
        have h := tsL_cut E [] n i hi
        rw [hT, ← h, EX.out, List.getElem?_take_of_lt hj, List.getElem?_drop]⟩
      have NK : Kept (keysL key b i ++ [T] = keysL key b (i + 1)) := ⟨by rw [keysL_succ, hT, ← EE.out]⟩
      obtain ⟨a, ha⟩ : ∃ a, a = 32 * i := ⟨_, rfl⟩
      have Ea : Kept _ := ⟨ha⟩
      have a96 : a ≤ 64 := by omega
      have YX : Kept (Bytes X) := ⟨by rw [EX.out]; exact tsL_bytes _ _ _⟩
      have aM : Kept (a + 32 ≤ M) := ⟨by have := EM.out; omega⟩
      clear hT ha
      rename World => wz
      go_wp2_with fail
      have A7 : Blk (wz.alloc (.cells #[.int .u8 0, .int .u8 0, .int .u8 0, .int .u8 0, .int .u8 0, .int .u8 0, .int .u8 0, .int .u8 0, .int .u8 0, .int .u8 0, .int .u8 0, .int .u8 0, .int .u8 0, .int .u8 0, .int .u8 0, .int .u8 0, .int .u8 0, .int .u8 0, .int .u8 0, .int .u8 0, .int .u8 0, .int .u8 0, .int .u8 0, .int .u8 0, .int .u8 0, .int .u8 0, .int .u8 0, .int .u8 0, .int .u8 0, .int .u8 0, .int .u8 0, .int .u8 0] 24)) wz.heap.size 24 (ints .u8 (List.replicate 32 0)) := blk_new wz _ _
      have B7 : Below wz.heap.size wz (wz.alloc (.cells #[.int .u8 0, .int .u8 0, .int .u8 0, .int .u8 0, .int .u8 0, .int .u8 0, .int .u8 0, .int .u8 0, .int .u8 0, .int .u8 0, .int .u8 0, .int .u8 0, .int .u8 0, .int .u8 0, .int .u8 0, .int .u8 0, .int .u8 0, .int .u8 0, .int .u8 0, .int .u8 0, .int .u8 0, .int .u8 0, .int .u8 0, .int .u8 0, .int .u8 0, .int .u8 0, .int .u8 0, .int .u8 0, .int .u8 0, .int .u8 0, .int .u8 0, .int .u8 0] 24)) := (Below.refl _ _).alloc (Nat.le_refl _) _
      go_loopg [14] 32 (fun q s14 wr => ∃ j : Nat, j + q = 32 ∧ s14 = .int .i64 (j : Int) ∧ Kept (∃ o : List Nat, o.length = 32 ∧ (∀ t, t < j → o[t]? = T[t]?) ∧ Blk wr wz.heap.size 24 (ints .u8 o) ∧ Below wz.heap.size wz wr))
      case atStart => exact ⟨0, by omega, rfl, ⟨⟨List.replicate 32 0, by simp, fun t ht => by omega, A7, B7⟩⟩⟩
      case round =>
        clear A7 B7
        obtain ⟨j, hjq, rfl, KQ⟩ := hrel
        obtain ⟨o, ho, hot, AO, HO⟩ := KQ.out
        have LO : Kept _ := ⟨ho⟩
        have OT : Kept _ := ⟨hot⟩
        clear KQ ho hot
        have HBz := HB.trans (HO.mono HB.size)
        by_cases hj : j < 32
        case pos =>
          have hj' : (j : Int) < 32 := by omega
          obtain ⟨x, hx⟩ : ∃ x, T[j]? = some x := ⟨_, List.getElem?_eq_getElem (by have := LT.out; omega)⟩
          have hX : X[a + j]? = some x := by rw [Ea.out, XT.out j hj, hx]
          have hc : wr.cell? (A.add (a + j)) = some (.int .u8 (x : Int)) := by rw [HBz.cell (by rw [add_block]; exact hAl)]; exact KAC.out (a + j) x hX
          have x8 : x < 256 := YX.out (a + j) x hX
          have ajM : a + j < M := by have := aM.out; omega
          have aj62 : a + j < 4611686018427387904 := by omega
          have jo : j < (ints .u8 o).size := by rw [ints_size, LO.out]; exact hj
          have NO : Kept ((o.set j x).length = 32 ∧ ∀ t, t < j + 1 → (o.set j x)[t]? = T[t]?) := ⟨by
            refine ⟨by rw [List.length_set]; exact LO.out, fun t ht => ?_⟩
            by_cases h : j = t
            · subst h
              rw [List.getElem?_set_self (by have := LO.out; omega), hx]
            · rw [List.getElem?_set_ne h]
              exact OT.out t (by omega)⟩
          clear hx hX
          go_wp2_with (first | ((with_reducible refine wv_val (d := 43) ?hd ?hw (.int .i64 (a : Int)) ?hr ?_); (case hd => rfl); (case hw => kernel_rfl); (case hr => intro w; exact run_mulC 32 rfl (by kernel_rfl) Ea.out (by omega) w); simp only [Act.put, List.setIfInBounds_toArray, List.set_cons_succ, List.set_cons_zero]) | ((with_reducible refine wv_val (d := 45) ?hd ?hw (.int .i64 ((a + j : Nat) : Int)) ?hr ?_); (case hd => rfl); (case hw => kernel_rfl); (case hr => intro w; exact run_addV rfl (by kernel_rfl) (by kernel_rfl) aj62 w); simp only [Act.put, List.setIfInBounds_toArray, List.set_cons_succ, List.set_cons_zero]) | ((with_reducible refine wv_val (d := 46) ?hd ?hw (.pointer (some (A.add (a + j)))) ?hr ?_); (case hd => rfl); (case hw => kernel_rfl); (case hr => intro w; exact run_idxS (l := M) (c := c9) rfl (by kernel_rfl) (by kernel_rfl) Tryd.underlying22 ajM sz_u8 w); simp only [Act.put, List.setIfInBounds_toArray, List.set_cons_succ, List.set_cons_zero]) | ((with_reducible refine wv_elem (d := 47) ?hd ?hw 5 ag_u8 (.tmp 46) ?ho (A.add (a + j)) ?hx (.int .u8 (x : Int)) ?hg ?_); (case hd => rfl); (case hw => kernel_rfl); (case ho => rfl); (case hx => first | rfl | kernel_rfl); (case hg => exact hc); simp only [Act.put, List.setIfInBounds_toArray, List.set_cons_succ, List.set_cons_zero]) | ((with_reducible refine wv_val (d := 48) ?hd ?hw (.pointer (some ⟨wz.heap.size, j, none⟩)) ?hr ?_); (case hd => rfl); (case hw => kernel_rfl); (case hr => intro w; exact run_idx rfl (by kernel_rfl) (by kernel_rfl) Tryd.underlying24 hj sz_u8 w); simp only [Act.put, List.setIfInBounds_toArray, List.set_cons_succ, List.set_cons_zero]) | (refine wl_setElem rfl 5 sz_u8 (.tmp 48) (.tmp 47) rfl wz.heap.size j .u8 (x : Int) rfl rfl _ AO jo ?_))
          intro w7 A9 P9
          rw [ints_set] at A9
          have HO9 := HO.trans (P9.below (Nat.le_refl _))
          clear AO HO P9 hc jo HBz
          go_wp2_with fail
          go_roundg (gk - 1)
          case measure => omega
          case rel => exact ⟨j + 1, by omega, by simp, ⟨⟨o.set j x, NO.out.1, NO.out.2, A9, HO9⟩⟩⟩
        case neg =>
          have hj' : ¬ (j : Int) < 32 := by omega
          have EO : o = T := List.ext_getElem? fun t => by
            by_cases ht : t < 32
            · exact OT.out t (by omega)
            · rw [List.getElem?_eq_none (by have := LO.out; omega), List.getElem?_eq_none (by have := LT.out; omega)]
          subst EO
          have RA : KRow wb.heap.size (keysL key b i) u11 (wr.alloc (.cells (ints .u8 o) 24)) := (KK.out.under HO).alloc _
          have BA : Blk (wr.alloc (.cells (ints .u8 o) 24)) wr.heap.size 24 (ints .u8 o) := blk_new wr _ _
          have QA : Below wb.heap.size wb (wr.alloc (.cells (ints .u8 o) 24)) := HBz.alloc HBz.size _
          have KI : Kept ((Tryd.prog.info? 24).map (·.size) = some (ints .u8 o).size) := ⟨by rw [ints_size, LO.out]; exact t32_info⟩
          have KZ : Kept (((Tryd.prog.info? 24).bind (·.zero)).isSome = true) := ⟨by kernel_rfl⟩
          have s1 : Kept (0 < (ints .u8 o).size) := ⟨by rw [ints_size, LO.out]; decide⟩
          have s2 : Kept ((ints .u8 o).size ≤ 1000) := ⟨by rw [ints_size, LO.out]; decide⟩
          have nK : (keysL key b i).length < 1000000 := by rw [keysL_len]; omega
          have hbA := QA.size
          go_wp2_with (first | ((with_reducible refine wv_row (d := 50) ?hd ?hw 24 (.tmp 13) ?ho (wz.heap.size) ?hx (t' := 24) (ints .u8 o) _ _ Tryd.underlying24 ?hs ?hg ?_); (case hd => rfl); (case hw => kernel_rfl); (case ho => rfl); (case hx => kernel_rfl); (case hs => exact KI.out); (case hg => exact AO); simp only [Act.put, List.setIfInBounds_toArray, List.set_cons_succ, List.set_cons_zero]) | (refine wl_build1 rfl 32 24 (.tmp 50) rfl (ints .u8 o) rfl Tryd.underlying32 KI.out KZ.out s1.out s2.out ?_) | (refine wl_appK rfl (.tmp 49) (.tmp 51) rfl wb.heap.size (keysL key b i) o LO.out _ wr.heap.size rfl rfl RA BA nK hbA ?_))
          intro pA lA cA wA RA' GA BA'
          have RA' : KRow wb.heap.size (keysL key b (i + 1)) (.slice pA lA cA) wA := by rw [← NK.out]; exact RA'
          have QB : Below wb.heap.size wb wA := QA.trans (grown_mono GA hbA (fun b hb => (RA.range b hb).1))
          clear RA BA QA hbA GA BA' AO HO HBz
          go_wp2_with fail
          go_roundg (n - i - 1)
          case measure => omega
          case rel => exact ⟨i + 1, by omega, by simp, ⟨RA', QB⟩⟩
    case neg =>
      have hi' : ¬ (i : Int) < (n : Int) := by omega
      obtain rfl : n = i := by omega
      have RF : KRow w.heap.size (keysL key b n) u11 wr := KK.out.mono Q4.size
      have QF := Q4.trans (HB.mono Q4.size)
      go_wp2_with fail
      go_ret2
      exact ⟨_, rfl, RF, QF⟩
end Go.Proofs.YthnkipicehppmaaDoor.sh
