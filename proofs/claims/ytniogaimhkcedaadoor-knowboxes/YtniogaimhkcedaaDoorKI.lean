/-
  (*rules).learn.
-/
import Derived.Test.YtniogaimhkcedaaDoorKH
namespace Go.Proofs.YtniogaimhkcedaaDoor.sh
open Go Go.RowKit
set_option linter.unusedVariables false
set_option linter.unusedSimpArgs false

theorem RuO.objKept {rb B : Nat} {va vw vk vf : Value} {gvs wvs : List Value} {s : RS} {w w' : World} (h : RuO rb B va vw vk vf gvs wvs s w) (hg : w.grownBy w' (blkOf vf)) : Blk w' rb 70 #[va, vw, vk, vf] := blk_grown hg h.obj (fun e => h.sep.apart 0 4 (some rb, _) (blkOf vf, _) rfl rfl (by decide) rb rfl e.symm)
theorem row_slice {B : Nat} {l : List Nat} {v : Value} {w : World} {n : Nat} (h : Row B 3 .i64 l v w) (hn : l.length = n) : ∃ p c, v = .slice p n c ∧ n ≤ c := ints_form (row_cells h) hn
set_option maxRecDepth 100000 in
set_option maxHeartbeats 4000000 in
theorem learnW {rb B : Nat} {vw : Value} {wvs : List Value} {s : RS} {M : Nat → Prop} {V : Value} {xs : List Nat} {w : World} (hR : RuW rb B vw wvs s M w) (hV : GivV M w V xs) (hx : ∀ x ∈ xs, x < s.kn.length) (hN : s.kn.length ≤ 1000000) (hf : s.fr.length ≤ 1000000) (hl : xs.length ≤ 1000000) :
    Calls Tryd.prog 30 #[.pointer (some ⟨rb, 0, none⟩), V] w fun e w' => e = .returned (.tuple #[]) ∧ ∃ M', RuW rb B vw wvs (learnR s xs) M' w' ∧ Turn M w M' w' := by
  obtain ⟨n, hn⟩ : ∃ n, n = xs.length := ⟨_, rfl⟩
  obtain ⟨p, c, rfl, hc⟩ := ints_form hV.1 hn.symm
  have hn6 : n ≤ 1000000 := by omega
  have KR : Kept _ := ⟨hR⟩
  have KV : Kept _ := ⟨hV⟩
  have KX : Kept (∀ x ∈ xs, x < s.kn.length) := ⟨hx⟩
  have Kn : Kept _ := ⟨hn⟩
  have KN : Kept _ := ⟨hN⟩
  have KF : Kept _ := ⟨hf⟩
  clear hR hV hx hn hN hf hl
  go_enter Tryd.func30, Tryd.ntmps30
  go_wp2_with fail
  go_loopg [8] n (fun g s8 wr => ∃ (i : Nat) (M' : Nat → Prop), i + g = n ∧ s8 = .int .i64 (i : Int) ∧ RuW rb B vw wvs (learnR s (xs.take i)) M' wr ∧ Turn M w M' wr ∧ Kept ((learnR s (xs.take i)).fr.length ≤ 1000000 + i))
  case atStart => exact ⟨0, M, by omega, rfl, KR.out, Turn.refl _ _, ⟨by have := KF.out; show s.fr.length ≤ _; omega⟩⟩
  case round =>
    rename World => wz
    obtain ⟨i, M1, hik, rfl, hR1, ht1, KL⟩ := hrel
    by_cases hk0 : gk = 0
    · obtain rfl : n = i := by omega
      have et : xs.take n = xs := List.take_of_length_le (by rw [← Kn.out]; exact Nat.le_refl _)
      rw [et] at hR1
      go_wp2_with fail
      refine ⟨rfl, .tuple #[], (by simp [results, Tryd.results30, go_sem]), ?_⟩
      exact ⟨rfl, M1, hR1, ht1⟩
    · have hin : i < n := by omega
      have hin' : (i : Int) < (n : Int) := by omega
      have hi1 : (i : Int) + 1 ≤ 9223372036854775807 := by omega
      obtain ⟨x, hx⟩ : ∃ x, xs[i]? = some x := ⟨_, List.getElem?_eq_getElem (by rw [← Kn.out]; exact hin)⟩
      obtain ⟨A, rfl, hA, hcell⟩ := ints_at (KV.out.turn ht1).1 hx
      have KC : Kept _ := ⟨hcell⟩
      have et : learnR s (xs.take (i + 1)) = learn1 (learnR s (xs.take i)) x := by rw [List.take_add_one, hx, Option.toList_some, learnR_snoc]
      have hsame := learnR_same s (xs.take i)
      have hxk : x < (learnR s (xs.take i)).kn.length := by rw [hsame.2.2.2]; exact KX.out x (List.mem_of_getElem? hx)
      have hkl : (learnR s (xs.take i)).kn.length ≤ 1000000 := by rw [hsame.2.2.2]; exact KN.out
      generalize learnR s (xs.take i) = t at *
      have Ket : Kept _ := ⟨et⟩
      have Kt1 : Kept _ := ⟨ht1⟩
      obtain ⟨va, vk, vf, gvs, hO, hM⟩ := hR1
      obtain ⟨N, hNt⟩ : ∃ N, N = t.kn.length := ⟨_, rfl⟩
      have hkN := hO.known
      unfold VRow at hkN
      rw [List.length_map, ← hNt] at hkN
      obtain ⟨gk', ck, cur, rfl, hBg, hbk, hnc, hcs, hcur⟩ := rowG_form hkN (by omega)
      obtain ⟨gz, hgz⟩ : ∃ g, g = gk' := ⟨_, rfl⟩
      obtain ⟨fl, hfl⟩ : ∃ n, n = t.fr.length := ⟨_, rfl⟩
      obtain ⟨pf, cf, rfl, hcf⟩ := row_slice hO.fresh hfl.symm
      have c2 : Kept (wz.cell? ⟨rb, 2, none⟩ = some (.slice (some ⟨gk', 0, none⟩) N ck)) := ⟨hO.obj.cell rfl⟩
      have hxN : x < N := by omega
      obtain ⟨b, hb⟩ : ∃ b, t.kn[x]? = some b := ⟨_, List.getElem?_eq_getElem hxk⟩
      have hxc : cur[x]? = some (.bool b) := hcur x (.bool b) (by rw [List.getElem?_map, hb]; rfl)
      have cx : Kept (wz.cell? ⟨gk', x, none⟩ = some (.bool b)) := ⟨hbk.cell hxc⟩
      have KO : Kept _ := ⟨hO⟩
      have KMe : Kept _ := ⟨hM⟩
      have KNt : Kept _ := ⟨hNt⟩
      have Kbk : Kept _ := ⟨hbk⟩
      have Kb : Kept _ := ⟨hb⟩
      have Kfl : Kept _ := ⟨hfl⟩
      have Kcs : Kept (x < cur.size) := ⟨(Array.getElem?_eq_some_iff.1 hxc).1⟩
      clear hx hcell et hsame hxk hkl ht1 hO hM hkN hbk hcur hb hxc hNt hBg hnc hcs hcf hfl
      cases b with
      | true =>
        have KE : Kept (learn1 t x = t) := ⟨learn1_had Kb.out⟩
        go_wp2_with (first | ((with_reducible refine wv_val (d := 10) ?hd ?hw (.pointer (some (A.add i))) ?hr ?_); (case hd => rfl); (case hw => kernel_rfl); (case hr => intro w; exact run_idxS (c := c) rfl (by kernel_rfl) (by kernel_rfl) Tryd.underlying65 hin Tryd.sizeOf3 w); simp only [Act.put, List.setIfInBounds_toArray, List.set_cons_succ, List.set_cons_zero]) | ((with_reducible refine wv_elem (d := 11) ?hd ?hw 3 ag_int (.tmp 10) ?ho (A.add i) ?hx (.int .i64 (x : Int)) ?hc ?_); (case hd => rfl); (case hw => kernel_rfl); (case ho => rfl); (case hx => kernel_rfl); (case hc => exact KC.out); simp only [Act.put, List.setIfInBounds_toArray, List.set_cons_succ, List.set_cons_zero]) | ((with_reducible refine wv_elem (d := 15) ?hd ?hw 33 Tryd.isAgg33 (.tmp 14) ?ho (⟨rb, 2, none⟩) ?hx (.slice (some ⟨gk', 0, none⟩) N ck) ?hc ?_); (case hd => rfl); (case hw => kernel_rfl); (case ho => rfl); (case hx => kernel_rfl); (case hc => exact c2.out); simp only [Act.put, List.setIfInBounds_toArray, List.set_cons_succ, List.set_cons_zero]) | ((with_reducible refine wv_val (d := 17) ?hd ?hw (.pointer (some ⟨gk', x, none⟩)) ?hr ?_); (case hd => rfl); (case hw => kernel_rfl); (case hr => intro w; exact run_idxS0 (c := ck) rfl (by kernel_rfl) (by kernel_rfl) Tryd.underlying33 hxN Tryd.sizeOf4 w); simp only [Act.put, List.setIfInBounds_toArray, List.set_cons_succ, List.set_cons_zero]) | ((with_reducible refine wv_elem (d := 18) ?hd ?hw 4 Tryd.isAgg4 (.tmp 17) ?ho (⟨gk', x, none⟩) ?hx (.bool true) ?hc ?_); (case hd => rfl); (case hw => kernel_rfl); (case ho => rfl); (case hx => kernel_rfl); (case hc => exact cx.out); simp only [Act.put, List.setIfInBounds_toArray, List.set_cons_succ, List.set_cons_zero]))
        go_roundg (gk - 1)
        case measure => omega
        case rel =>
          refine ⟨i + 1, M1, by omega, by simp, ?_, Kt1.out, ⟨?_⟩⟩
          · rw [Ket.out, KE.out]
            exact ⟨va, _, _, gvs, KO.out, KMe.out⟩
          · rw [Ket.out, KE.out]
            have := KL.out
            omega
      | false =>
        have KE : Kept (learn1 t x = { t with kn := t.kn.set x true, fr := t.fr ++ [x] }) := ⟨learn1_not (fun h => by have h2 := Kb.out; unfold hadP at h; rw [h] at h2; cases h2)⟩
        have Kap : Kept (t.fr.length + [x].length ≤ 8796093022208) := ⟨by have := KL.out; simp; omega⟩
        have Klf : Kept ((t.fr ++ [x]).length = fl + 1) := ⟨by rw [List.length_append, ← Kfl.out]; rfl⟩
        go_wp2_with (first | ((with_reducible refine wv_val (d := 10) ?hd ?hw (.pointer (some (A.add i))) ?hr ?_); (case hd => rfl); (case hw => kernel_rfl); (case hr => intro w; exact run_idxS (c := c) rfl (by kernel_rfl) (by kernel_rfl) Tryd.underlying65 hin Tryd.sizeOf3 w); simp only [Act.put, List.setIfInBounds_toArray, List.set_cons_succ, List.set_cons_zero]) | ((with_reducible refine wv_elem (d := 11) ?hd ?hw 3 ag_int (.tmp 10) ?ho (A.add i) ?hx (.int .i64 (x : Int)) ?hc ?_); (case hd => rfl); (case hw => kernel_rfl); (case ho => rfl); (case hx => kernel_rfl); (case hc => exact KC.out); simp only [Act.put, List.setIfInBounds_toArray, List.set_cons_succ, List.set_cons_zero]) | ((with_reducible refine wv_elem (d := 15) ?hd ?hw 33 Tryd.isAgg33 (.tmp 14) ?ho (⟨rb, 2, none⟩) ?hx (.slice (some ⟨gk', 0, none⟩) N ck) ?hc ?_); (case hd => rfl); (case hw => kernel_rfl); (case ho => rfl); (case hx => kernel_rfl); (case hc => exact c2.out); simp only [Act.put, List.setIfInBounds_toArray, List.set_cons_succ, List.set_cons_zero]) | ((with_reducible refine wv_val (d := 17) ?hd ?hw (.pointer (some ⟨gk', x, none⟩)) ?hr ?_); (case hd => rfl); (case hw => kernel_rfl); (case hr => intro w; exact run_idxS0 (c := ck) rfl (by kernel_rfl) (by kernel_rfl) Tryd.underlying33 hxN Tryd.sizeOf4 w); simp only [Act.put, List.setIfInBounds_toArray, List.set_cons_succ, List.set_cons_zero]) | ((with_reducible refine wv_elem (d := 18) ?hd ?hw 4 Tryd.isAgg4 (.tmp 17) ?ho (⟨gk', x, none⟩) ?hx (.bool false) ?hc ?_); (case hd => rfl); (case hw => kernel_rfl); (case ho => rfl); (case hx => kernel_rfl); (case hc => exact cx.out); simp only [Act.put, List.setIfInBounds_toArray, List.set_cons_succ, List.set_cons_zero]) | ((with_reducible refine wv_elem (d := 23) ?hd ?hw 33 Tryd.isAgg33 (.tmp 22) ?ho (⟨rb, 2, none⟩) ?hx (.slice (some ⟨gk', 0, none⟩) N ck) ?hc ?_); (case hd => rfl); (case hw => kernel_rfl); (case ho => rfl); (case hx => kernel_rfl); (case hc => exact c2.out); simp only [Act.put, List.setIfInBounds_toArray, List.set_cons_succ, List.set_cons_zero]) | ((with_reducible refine wv_val (d := 25) ?hd ?hw (.pointer (some ⟨gk', x, none⟩)) ?hr ?_); (case hd => rfl); (case hw => kernel_rfl); (case hr => intro w; exact run_idxS0 (c := ck) rfl (by kernel_rfl) (by kernel_rfl) Tryd.underlying33 hxN Tryd.sizeOf4 w); simp only [Act.put, List.setIfInBounds_toArray, List.set_cons_succ, List.set_cons_zero]) | ((refine wl_set1 rfl 4 sz_bool (.tmp 25) (.const (.bool true)) rfl gk' x (.bool true) (by kernel_rfl) rfl rfl cur Kbk.out Kcs.out ?_); intro w2 hb2 hp2; obtain ⟨hO2, ht2⟩ := KO.out.setKnown rfl KNt.out Kbk.out hb2 hp2; have c3 : Kept (w2.cell? ⟨rb, 3, none⟩ = some (.slice pf fl cf)) := ⟨hO2.obj.cell rfl⟩; have bz := (Below.refl w2.heap.size w2).alloc (Nat.le_refl _) (.cells #[.int .i64 (x : Int)] 3); have KO2 : Kept _ := ⟨hO2.under bz⟩; have Kt2 : Kept _ := ⟨ht2.trans (Turn.of_below bz)⟩; have K1x : Kept _ := ⟨one_int x w2⟩; have Kfr : Kept _ := ⟨KO2.out.fresh⟩; have Kbg : Kept _ := ⟨KO2.out.big⟩; clear hO2 ht2 bz hb2 hp2; simp only [Act.put, List.setIfInBounds_toArray, List.set_cons_succ, List.set_cons_zero]) | ((with_reducible refine wv_elem (d := 30) ?hd ?hw 65 Tryd.isAgg65 (.tmp 29) ?ho (⟨rb, 3, none⟩) ?hx (.slice pf fl cf) ?hc ?_); (case hd => rfl); (case hw => kernel_rfl); (case ho => rfl); (case hx => kernel_rfl); (case hc => exact c3.out); simp only [Act.put, List.setIfInBounds_toArray, List.set_cons_succ, List.set_cons_zero]) | (refine wl_bsI rfl (.tmp 31) rfl x (by kernel_rfl) ?_; simp only [Act.put, List.setIfInBounds_toArray, List.set_cons_succ, List.set_cons_zero]) | ((refine wl_app (by kernel_rfl) (.tmp 30) (.tmp 32) 65 3 .i64 8 rfl Tryd.underlying65 inf_int (by decide) B t.fr [x] _ _ (by kernel_rfl) (by kernel_rfl) Kfr.out K1x.out Kap.out Kbg.out ?_); intro v' w3 hr' hg' hne'; obtain ⟨p3, c3', rfl, _⟩ := row_slice hr' Klf.out; have hb3 := KO2.out.objKept hg'; simp only [Act.put, List.setIfInBounds_toArray, List.set_cons_succ, List.set_cons_zero]) | ((refine wl_set1 rfl 65 sz_ints (.tmp 35) (.tmp 33) rfl rb 3 (.slice p3 (fl + 1) c3') (by kernel_rfl) (by kernel_rfl) rfl _ hb3 (by simp) ?_); intro w4 hb4 hp4; simp only [Act.put, List.setIfInBounds_toArray, List.set_cons_succ, List.set_cons_zero]))
        obtain ⟨hO4, ht4⟩ := KO2.out.setFresh hr' hg' hne' hb4 hp4
        go_roundg (gk - 1)
        case measure => omega
        case rel =>
          refine ⟨i + 1, _, by omega, by simp, ?_, Kt1.out.trans ((KMe.out ▸ Kt2.out).trans ht4), ⟨?_⟩⟩
          · rw [Ket.out, KE.out]
            exact ⟨va, _, _, gvs, hO4, rfl⟩
          · rw [Ket.out, KE.out]
            have := KL.out
            show (t.fr ++ [x]).length ≤ _
            rw [List.length_append, List.length_singleton]
            omega
theorem learnD {rb B : Nat} {s : RS} {M : Nat → Prop} {V : Value} {xs : List Nat} {w : World} (hR : RuV rb B s M w) (hV : GivV M w V xs) (hx : ∀ x ∈ xs, x < s.kn.length) (hN : s.kn.length ≤ 1000000) (hf : s.fr.length ≤ 1000000) (hl : xs.length ≤ 1000000) :
    Calls Tryd.prog 30 #[.pointer (some ⟨rb, 0, none⟩), V] w fun e w' => e = .returned (.tuple #[]) ∧ ∃ M', RuV rb B (learnR s xs) M' w' ∧ Turn M w M' w' := by
  obtain ⟨vw, wvs, h⟩ := hR.from
  refine (learnW h hV hx hN hf hl).mono ?_
  rintro e w' ⟨h1, M', h2, h3⟩
  exact ⟨h1, M', h2.to, h3⟩
end Go.Proofs.YtniogaimhkcedaaDoor.sh
