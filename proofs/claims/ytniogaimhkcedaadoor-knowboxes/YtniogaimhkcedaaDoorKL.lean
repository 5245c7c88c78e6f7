/-
  (*rules).follow.
-/
import Derived.Test.YtniogaimhkcedaaDoorKJ
namespace Go.Proofs.YtniogaimhkcedaaDoor.sh
open Go Go.RowKit
set_option linter.unusedVariables false
set_option linter.unusedSimpArgs false

theorem run_idxRZ {o : Oper} {a : Act} {x y : Operand} {i l c g k2 : Nat} (ho : o.op = .indexAddr 67 x y) (hx : a.eval x = .slice (some ⟨g, 0, none⟩) l c) (hy : a.eval y = .int .i64 (i : Int)) (hi : i < l) (hk : k2 = i * 2) (w : World) : (execOp a.eval o).run Tryd.prog w = .ok (.value (.pointer (some ⟨g, k2, none⟩))) w := by
  have h := run_idxR2 ho hx hy hi w
  rw [addr_add, Nat.zero_add, ← hk] at h
  exact h
theorem run_fldRZ {o : Oper} {a : Act} {x : Operand} {g k : Nat} (ho : o.op = .fieldAddr 105 x 1) (hx : a.eval x = .pointer (some ⟨g, k, none⟩)) (w : World) : (execOp a.eval o).run Tryd.prog w = .ok (.value (.pointer (some ⟨g, k + 1, none⟩))) w := by
  have h := run_fldR1 ho hx w
  rw [addr_add] at h
  exact h
theorem row_len {B : Nat} {l : List Nat} {v : Value} {w : World} (h : Row B 3 .i64 l v w) : l.length ≤ 9223372036854775807 := by
  rcases h.2 with ⟨_, h0⟩ | ⟨g, cap, cur, _, _, _, hc, hm, _⟩
  · omega
  · unfold maxLen at hm; omega
/-- What follow leaves: the least that the rules give is known. -/
def Follows (N : Nat) (R : RL) (s s' : RS) : Prop := (∀ y, hadP s'.kn y ↔ ∀ H, Sat s R H → H y) ∧ s'.kn.length = N
set_option maxRecDepth 100000 in
set_option maxHeartbeats 8000000 in
theorem followD {rb B N : Nat} {R : RL} {s : RS} {M : Nat → Prop} {w : World} (hR : RuV rb B s M w) (hB : Built N R s) (hN : N ≤ 1000000) (hr2 : ∀ r ∈ R, r.1.length ≤ 1000000 ∧ r.2.length ≤ 1000000) :
    Calls Tryd.prog 32 #[.pointer (some ⟨rb, 0, none⟩)] w fun e w' => e = .returned (.tuple #[]) ∧ ∃ s' M', RuV rb B s' M' w' ∧ Turn M w M' w' ∧ Follows N R s s' := by
  obtain ⟨vw, wvs, hW⟩ := hR.from
  have KR : Kept _ := ⟨hW⟩
  have KS : Kept _ := ⟨hB.start⟩
  have KN : Kept _ := ⟨hN⟩
  have Kr2 : Kept (∀ r ∈ R, r.1.length ≤ 1000000 ∧ r.2.length ≤ 1000000) := ⟨hr2⟩
  clear hR hB hN hr2 hW
  go_enter Tryd.func32, Tryd.ntmps32
  go_wp2_with fail
  go_loopg [2] N (fun g s2 wr => ∃ (P : List Nat) (t : RS) (M' : Nat → Prop), g + P.length = N ∧ RuW rb B vw wvs t M' wr ∧ Turn M w M' wr ∧ Kept (FI N R s P [] [] t))
  case atStart => exact ⟨[], s, M, rfl, KR.out, Turn.refl _ _, KS⟩
  case round =>
    rename World => wz
    obtain ⟨P, t, M1, hgP, hR1, ht1, KF⟩ := hrel
    obtain ⟨gO, hgO⟩ : ∃ q, q = gk := ⟨_, rfl⟩
    obtain ⟨va, vk, vf, gvs, hO, hM⟩ := hR1
    obtain ⟨fl, hfl⟩ : ∃ n, n = t.fr.length := ⟨_, rfl⟩
    by_cases h0 : fl = 0
    case pos =>
      subst h0
      obtain ⟨pf, cf, rfl, hcf⟩ := row_slice hO.fresh hfl.symm
      have c3 : Kept (wz.cell? ⟨rb, 3, none⟩ = some (.slice pf 0 cf)) := ⟨hO.obj.cell rfl⟩
      have KO : Kept _ := ⟨hO⟩
      have KMe : Kept _ := ⟨hM⟩
      have Kt1 : Kept _ := ⟨ht1⟩
      have Kf0 : Kept (t.fr = []) := ⟨List.eq_nil_of_length_eq_zero hfl.symm⟩
      have B0 : Kept (false = decide ((0 : Int) < ((0 : Nat) : Int))) := ⟨rfl⟩
      clear hO hM ht1 hfl hcf
      go_wp2_with (first | ((with_reducible refine wv_elem (d := 9) ?hd ?hw 65 Tryd.isAgg65 (.tmp 8) ?ho (⟨rb, 3, none⟩) ?hx (.slice pf 0 cf) ?hc ?_); (case hd => rfl); (case hw => kernel_rfl); (case ho => rfl); (case hx => kernel_rfl); (case hc => exact c3.out); simp only [Act.put, List.setIfInBounds_toArray, List.set_cons_succ, List.set_cons_zero]) | ((with_reducible refine wv_val (d := 11) ?hd ?hw (.bool false) ?hr ?_); (case hd => rfl); (case hw => kernel_rfl); (case hr => intro w; exact run_gtrK 0 rfl (by kernel_rfl) B0.out w); simp only [Act.put, List.setIfInBounds_toArray, List.set_cons_succ, List.set_cons_zero]))
      refine ⟨rfl, .tuple #[], (by simp [results, Tryd.results32, go_sem]), ?_⟩
      exact ⟨rfl, t, M1, ⟨va, vw, vk, _, gvs, wvs, KO.out, KMe.out⟩, Kt1.out, KF.out.done Kf0.out, KF.out.rel.kn⟩
    case neg =>
      have hne : t.fr ≠ [] := fun e => h0 (by rw [hfl, e]; rfl)
      obtain ⟨f0, x, hfx⟩ : ∃ f0 x, t.fr = f0 ++ [x] := ⟨_, _, (List.dropLast_concat_getLast hne).symm⟩
      obtain ⟨kz, hkz⟩ : ∃ k, k = f0.length := ⟨_, rfl⟩
      have hflk : fl = kz + 1 := by rw [hfl, hfx, hkz]; simp
      have hP1 := KF.out.room
      have hxN : x < N := KF.out.rel.fr x (by rw [hfx]; simp)
      have hpop := KF.out.pop hfx
      have hrow : wz.ownsRow B 3 1 vf fl (ints .i64 t.fr).toList := by have := hO.fresh; unfold Row at this; rw [← hfl] at this; exact this
      obtain ⟨gf, cf, cur, rfl, hBg, hbk, hnc, hcs, hcur⟩ := rowG_form hrow (by omega)
      have hcx : cur[kz]? = some (.int .i64 (x : Int)) := hcur kz _ (by
        rw [Array.getElem?_toList, ints_get]
        rw [hfx, List.getElem?_append_right (by omega), hkz, Nat.sub_self]
        rfl)
      have c3 : Kept (wz.cell? ⟨rb, 3, none⟩ = some (.slice (some ⟨gf, 0, none⟩) fl cf)) := ⟨hO.obj.cell rfl⟩
      have cx : Kept (wz.cell? ⟨gf, kz, none⟩ = some (.int .i64 (x : Int))) := ⟨hbk.cell hcx⟩
      have hrow2 : Row B 3 .i64 f0 (.slice (some ⟨gf, 0, none⟩) kz cf) wz := by
        have h1 := rowG_take hrow (m := kz) (by omega)
        unfold Row
        rw [← hkz]
        have e : (ints .i64 t.fr).toList.take kz = (ints .i64 f0).toList := by
          rw [hfx, hkz]
          simp [ints]
        rw [e] at h1
        exact h1
      have hwl : wvs.length = N := by rw [hO.wl]; exact KF.out.rel.wl
      obtain ⟨v, hv⟩ : ∃ v, wvs[x]? = some v := ⟨_, List.getElem?_eq_getElem (by rw [hwl]; exact hxN)⟩
      obtain ⟨l, hl⟩ : ∃ l, t.ws[x]? = some l := ⟨_, List.getElem?_eq_getElem (by rw [KF.out.rel.wl]; exact hxN)⟩
      have hgd : t.ws.getD x [] = l := by rw [List.getD_eq_getElem?_getD, hl]; rfl
      obtain ⟨NW, hNW⟩ : ∃ n, n = wvs.length := ⟨_, rfl⟩
      have hkN := hO.wait
      unfold VRow at hkN
      rw [← hNW] at hkN
      obtain ⟨gw, cw, curw, rfl, _, hbkw, _, _, hcurw⟩ := rowG_form hkN (by omega)
      have hxNW : x < NW := by omega
      obtain ⟨lv, hlv⟩ : ∃ n, n = l.length := ⟨_, rfl⟩
      have hlm : lv ≤ 9223372036854775807 := by rw [hlv]; exact row_len (hO.one hv hl)
      obtain ⟨pv, cv, rfl, _⟩ := row_slice (hO.one hv hl) hlv.symm
      have Kv : Kept _ := ⟨hv⟩
      have Khl : Kept _ := ⟨hl⟩
      have Kgd : Kept _ := ⟨hgd⟩
      have Klv : Kept _ := ⟨hlv⟩
      have Kpop : Kept _ := ⟨hpop⟩
      have KO : Kept _ := ⟨hO⟩
      have KMe : Kept _ := ⟨hM⟩
      have Kt1 : Kept _ := ⟨ht1⟩
      have Krow2 : Kept _ := ⟨hrow2⟩
      have Kkz : Kept _ := ⟨hflk⟩
      have hkz62 : fl < 4611686018427387904 := by have := KN.out; omega
      have hkfl : kz < fl := by omega
      have hkcf : kz ≤ cf := by omega
      have Kcxw : Kept (curw[x]? = some (.slice pv lv cv)) := ⟨hcurw x _ hv⟩
      have Kne : Kept (rb ≠ gw) := ⟨fun e => hO.sep.apart 0 2 (some rb, _) (some gw, VRow B 65 wvs (.slice (some ⟨gw, 0, none⟩) NW cw)) rfl rfl (by decide) rb rfl (by rw [e])⟩
      have Kbkw : Kept _ := ⟨hbkw⟩
      have B0 : Kept (true = decide ((0 : Int) < ((fl : Nat) : Int))) := ⟨(decide_eq_true (by omega)).symm⟩
      have Kroom : Kept (P.length + 1 ≤ N) := ⟨by have := hpop.room; simp at this; omega⟩
      have KxN : Kept _ := ⟨hxN⟩
      clear hne hfx hkz hflk hP1 hxN hpop hrow hBg hbk hnc hcs hcur hcx hrow2 hwl hv hl hgd hNW hkN hbkw hcurw hlv hO hM ht1 hfl h0
      go_wp2_with (first | ((with_reducible refine wv_elem (d := 9) ?hd ?hw 65 Tryd.isAgg65 (.tmp 8) ?ho (⟨rb, 3, none⟩) ?hx (.slice (some ⟨gf, 0, none⟩) fl cf) ?hc ?_); (case hd => rfl); (case hw => kernel_rfl); (case ho => rfl); (case hx => kernel_rfl); (case hc => exact c3.out); simp only [Act.put, List.setIfInBounds_toArray, List.set_cons_succ, List.set_cons_zero]) | ((with_reducible refine wv_val (d := 11) ?hd ?hw (.bool true) ?hr ?_); (case hd => rfl); (case hw => kernel_rfl); (case hr => intro w; exact run_gtrK 0 rfl (by kernel_rfl) B0.out w); simp only [Act.put, List.setIfInBounds_toArray, List.set_cons_succ, List.set_cons_zero]) | ((with_reducible refine wv_elem (d := 15) ?hd ?hw 65 Tryd.isAgg65 (.tmp 14) ?ho (⟨rb, 3, none⟩) ?hx (.slice (some ⟨gf, 0, none⟩) fl cf) ?hc ?_); (case hd => rfl); (case hw => kernel_rfl); (case ho => rfl); (case hx => kernel_rfl); (case hc => exact c3.out); simp only [Act.put, List.setIfInBounds_toArray, List.set_cons_succ, List.set_cons_zero]) | ((with_reducible refine wv_val (d := 17) ?hd ?hw (.int .i64 (kz : Int)) ?hr ?_); (case hd => rfl); (case hw => kernel_rfl); (case hr => intro w; exact run_subZ 1 rfl (by kernel_rfl) Kkz.out hkz62 w); simp only [Act.put, List.setIfInBounds_toArray, List.set_cons_succ, List.set_cons_zero]) | ((with_reducible refine wv_elem (d := 21) ?hd ?hw 65 Tryd.isAgg65 (.tmp 20) ?ho (⟨rb, 3, none⟩) ?hx (.slice (some ⟨gf, 0, none⟩) fl cf) ?hc ?_); (case hd => rfl); (case hw => kernel_rfl); (case ho => rfl); (case hx => kernel_rfl); (case hc => exact c3.out); simp only [Act.put, List.setIfInBounds_toArray, List.set_cons_succ, List.set_cons_zero]) | ((with_reducible refine wv_val (d := 23) ?hd ?hw (.pointer (some ⟨gf, kz, none⟩)) ?hr ?_); (case hd => rfl); (case hw => kernel_rfl); (case hr => intro w; exact run_idxZ (c := cf) rfl (by kernel_rfl) (by kernel_rfl) Tryd.underlying65 hkfl Tryd.sizeOf3 w); simp only [Act.put, List.setIfInBounds_toArray, List.set_cons_succ, List.set_cons_zero]) | ((with_reducible refine wv_elem (d := 24) ?hd ?hw 3 ag_int (.tmp 23) ?ho (⟨gf, kz, none⟩) ?hx (.int .i64 (x : Int)) ?hc ?_); (case hd => rfl); (case hw => kernel_rfl); (case ho => rfl); (case hx => kernel_rfl); (case hc => exact cx.out); simp only [Act.put, List.setIfInBounds_toArray, List.set_cons_succ, List.set_cons_zero]) | ((with_reducible refine wv_elem (d := 29) ?hd ?hw 65 Tryd.isAgg65 (.tmp 28) ?ho (⟨rb, 3, none⟩) ?hx (.slice (some ⟨gf, 0, none⟩) fl cf) ?hc ?_); (case hd => rfl); (case hw => kernel_rfl); (case ho => rfl); (case hx => kernel_rfl); (case hc => exact c3.out); simp only [Act.put, List.setIfInBounds_toArray, List.set_cons_succ, List.set_cons_zero]) | ((with_reducible refine wv_val (d := 31) ?hd ?hw (.slice (some ⟨gf, 0, none⟩) kz cf) ?hr ?_); (case hd => rfl); (case hw => kernel_rfl); (case hr => intro w; exact cutTo_run rfl (by kernel_rfl) (by kernel_rfl) Tryd.underlying65 Tryd.sizeOf3 hkcf w); simp only [Act.put, List.setIfInBounds_toArray, List.set_cons_succ, List.set_cons_zero]) | ((refine wl_set1 rfl 65 sz_ints (.tmp 33) (.tmp 31) rfl rb 3 (.slice (some ⟨gf, 0, none⟩) kz cf) (by kernel_rfl) (by kernel_rfl) rfl _ KO.out.obj (by simp) ?_); intro w4 hb4 hp4; obtain ⟨hO4, ht4⟩ := KO.out.setFresh Krow2.out (gb_refl _ _) (.inl rfl) hb4 hp4; have c1 : Kept (w4.cell? ⟨rb, 1, none⟩ = some (.slice (some ⟨gw, 0, none⟩) NW cw)) := ⟨hO4.obj.cell rfl⟩; have cw4 : Kept (w4.cell? ⟨gw, x, none⟩ = some (.slice pv lv cv)) := ⟨(hp4.blk Kbkw.out (Ne.symm Kne.out)).cell Kcxw.out⟩; have KO4 : Kept _ := ⟨hO4⟩; have Kt4 : Kept _ := ⟨(KMe.out ▸ Kt1.out).trans ht4⟩; clear hO4 ht4 hb4 hp4; simp only [Act.put, List.setIfInBounds_toArray, List.set_cons_succ, List.set_cons_zero]) | ((with_reducible refine wv_elem (d := 37) ?hd ?hw 68 Tryd.isAgg68 (.tmp 36) ?ho (⟨rb, 1, none⟩) ?hx (.slice (some ⟨gw, 0, none⟩) NW cw) ?hc ?_); (case hd => rfl); (case hw => kernel_rfl); (case ho => rfl); (case hx => kernel_rfl); (case hc => exact c1.out); simp only [Act.put, List.setIfInBounds_toArray, List.set_cons_succ, List.set_cons_zero]) | ((with_reducible refine wv_val (d := 39) ?hd ?hw (.pointer (some ⟨gw, x, none⟩)) ?hr ?_); (case hd => rfl); (case hw => kernel_rfl); (case hr => intro w; exact run_idxZ (c := cw) rfl (by kernel_rfl) (by kernel_rfl) Tryd.underlying68 hxNW Tryd.sizeOf65 w); simp only [Act.put, List.setIfInBounds_toArray, List.set_cons_succ, List.set_cons_zero]) | ((with_reducible refine wv_elem (d := 40) ?hd ?hw 65 Tryd.isAgg65 (.tmp 39) ?ho (⟨gw, x, none⟩) ?hx (.slice pv lv cv) ?hc ?_); (case hd => rfl); (case hw => kernel_rfl); (case ho => rfl); (case hx => kernel_rfl); (case hc => exact cw4.out); simp only [Act.put, List.setIfInBounds_toArray, List.set_cons_succ, List.set_cons_zero]))
      go_loopg [42] lv (fun g2 s42 wr => ∃ (j : Nat) (t2 : RS) (M2 : Nat → Prop), j + g2 = lv ∧ s42 = .int .i64 (j : Int) ∧ RuW rb B (.slice (some ⟨gw, 0, none⟩) NW cw) wvs t2 M2 wr ∧ Turn M w M2 wr ∧ Kept (FI N R s P (l.take j) [x] t2 ∧ t2.ws = t.ws))
      case atStart => exact ⟨0, _, _, by omega, rfl, ⟨va, vk, _, gvs, KO4.out, rfl⟩, Kt4.out, ⟨Kpop.out, rfl⟩⟩
      case round =>
        rename World => wy
        obtain ⟨j, t2, M2, hjk, rfl, hR2, ht2, KF2⟩ := hrel
        by_cases hk0 : gk = 0
        case pos =>
          obtain rfl : lv = j := by omega
          have KR2 : Kept _ := ⟨hR2⟩
          have Kt2 : Kept _ := ⟨ht2⟩
          clear hR2 ht2
          go_wp2_with fail
          go_roundg (gO - 1)
          case measure => have := Kroom.out; omega
          case rel =>
            refine ⟨x :: P, t2, M2, ?_, KR2.out, Kt2.out, ⟨?_⟩⟩
            · have := Kroom.out
              rw [List.length_cons]
              omega
            · obtain ⟨h1, h2⟩ := KF2.out
              rw [List.take_of_length_le (by rw [← Klv.out]; exact Nat.le_refl _), ← Kgd.out, ← h2] at h1
              exact h1.close
        case neg =>
          have hjn : j < lv := by omega
          have hjn' : (j : Int) < (lv : Int) := by omega
          have hj1 : (j : Int) + 1 ≤ 9223372036854775807 := by omega
          obtain ⟨k, hk⟩ : ∃ k, l[j]? = some k := ⟨_, List.getElem?_eq_getElem (by rw [← Klv.out]; exact hjn)⟩
          obtain ⟨hF2, hws2⟩ := KF2.out
          have hsplit : t2.ws.getD x [] = l.take j ++ k :: l.drop (j + 1) := by
            rw [hws2, Kgd.out]
            have h1 := (List.take_append_drop j l).symm
            have h2 : l.drop j = k :: l.drop (j + 1) := by
              have hjl := (List.getElem?_eq_some_iff.1 hk)
              rw [List.drop_eq_getElem_cons hjl.1, hjl.2]
            rwa [h2] at h1
          obtain ⟨r, c, hrk, hgk, hck, hcr, hnz, hz⟩ := hF2.tell hsplit
          have hrm := List.mem_of_getElem? hrk
          have hr2 := Kr2.out r hrm
          obtain ⟨va2, vk2, vf2, gvs2, hO2, hM2⟩ := hR2
          have hrv := hO2.one Kv.out (by rw [hws2]; exact Khl.out)
          obtain ⟨A, rfl, hA, hcell⟩ := ints_at (row_cells hrv) hk
          have hall := hO2.all
          obtain ⟨nr, hnr⟩ : ∃ n, n = t2.cs.length := ⟨_, rfl⟩
          rw [← hnr] at hall
          have hkn : k < t2.cs.length := (List.getElem?_eq_some_iff.1 hck).1
          have hknr : k < nr := by rw [hnr]; exact hkn
          obtain ⟨ga, ca, cur3, rfl, _, hbk3, _, hcs3, hcur3⟩ := rowG_form hall (by omega)
          obtain ⟨V, hV⟩ : ∃ V, gvs2[k]? = some V := ⟨_, List.getElem?_eq_getElem (by rw [hO2.gl, ← hO2.cl]; exact hkn)⟩
          obtain ⟨e1, e2⟩ := rcells_get hck hV
          have x1 := hcur3 _ _ e1
          have x2 := hcur3 _ _ e2
          have hgiv := hO2.giv k V r.2 hV hgk
          obtain ⟨k2, hk2⟩ : ∃ z, z = k * 2 := ⟨_, rfl⟩
          rw [← hk2] at x1 x2
          obtain ⟨c1, hc1⟩ : ∃ z, z = c + 1 := ⟨_, rfl⟩
          rw [← hc1] at x1 hck hcr
          have hc62 : c1 < 4611686018427387904 := by omega
          have c0 : Kept (wy.cell? ⟨rb, 0, none⟩ = some (.slice (some ⟨ga, 0, none⟩) nr ca)) := ⟨hO2.obj.cell rfl⟩
          have cc : Kept (wy.cell? ⟨ga, k2, none⟩ = some (.int .i64 (c1 : Int))) := ⟨hbk3.cell x1⟩
          have KCe : Kept _ := ⟨hcell⟩
          have Kk2 : Kept _ := ⟨hk2⟩
          have Kc1 : Kept _ := ⟨hc1⟩
          have Kcs3 : Kept (k2 < cur3.size) := ⟨(Array.getElem?_eq_some_iff.1 x1).1⟩
          have Kbk3 : Kept _ := ⟨hbk3⟩
          have KO2 : Kept _ := ⟨hO2⟩
          have KM2 : Kept _ := ⟨hM2⟩
          have Kt2 : Kept _ := ⟨ht2⟩
          have Knr : Kept _ := ⟨hnr⟩
          have Kws2 : Kept _ := ⟨hws2⟩
          have Kjt : Kept (l.take (j + 1) = l.take j ++ [k]) := ⟨by rw [List.take_add_one, hk, Option.toList_some]⟩
          by_cases hc0 : c = 0
          case neg =>
            have Knz : Kept _ := ⟨hnz hc0⟩
            have Bc : Kept (false = decide ((c : Int) = 0)) := ⟨(decide_eq_false (by omega)).symm⟩
            clear hk hF2 hws2 hsplit hrk hgk hck hcr hnz hz hrm hr2 hO2 hM2 hrv hcell hall hkn hbk3 hcs3 hcur3 hV e1 e2 x1 x2 hgiv hk2 hc1 ht2 hnr KF2
            go_wp2_with (first | ((with_reducible refine wv_elem (d := 45) ?hd ?hw 3 ag_int (.tmp 44) ?ho (A.add j) ?hx (.int .i64 (k : Int)) ?hc ?_); (case hd => rfl); (case hw => kernel_rfl); (case ho => rfl); (case hx => kernel_rfl); (case hc => exact KCe.out); simp only [Act.put, List.setIfInBounds_toArray, List.set_cons_succ, List.set_cons_zero]) | ((with_reducible refine wv_val (d := 44) ?hd ?hw (.pointer (some (A.add j))) ?hr ?_); (case hd => rfl); (case hw => kernel_rfl); (case hr => intro w; exact run_idxS (c := cv) rfl (by kernel_rfl) (by kernel_rfl) Tryd.underlying65 hjn Tryd.sizeOf3 w); simp only [Act.put, List.setIfInBounds_toArray, List.set_cons_succ, List.set_cons_zero]) | ((with_reducible refine wv_elem (d := 49) ?hd ?hw 67 Tryd.isAgg67 (.tmp 48) ?ho (⟨rb, 0, none⟩) ?hx (.slice (some ⟨ga, 0, none⟩) nr ca) ?hc ?_); (case hd => rfl); (case hw => kernel_rfl); (case ho => rfl); (case hx => kernel_rfl); (case hc => exact c0.out); simp only [Act.put, List.setIfInBounds_toArray, List.set_cons_succ, List.set_cons_zero]) | ((with_reducible refine wv_val (d := 51) ?hd ?hw (.pointer (some ⟨ga, k2, none⟩)) ?hr ?_); (case hd => rfl); (case hw => kernel_rfl); (case hr => intro w; exact run_idxRZ (c := ca) rfl (by kernel_rfl) (by kernel_rfl) hknr Kk2.out w); simp only [Act.put, List.setIfInBounds_toArray, List.set_cons_succ, List.set_cons_zero]) | ((with_reducible refine wv_val (d := 52) ?hd ?hw (.pointer (some ⟨ga, k2, none⟩)) ?hr ?_); (case hd => rfl); (case hw => kernel_rfl); (case hr => intro w; exact run_fldR0 rfl (by kernel_rfl) w); simp only [Act.put, List.setIfInBounds_toArray, List.set_cons_succ, List.set_cons_zero]) | ((with_reducible refine wv_elem (d := 53) ?hd ?hw 3 ag_int (.tmp 52) ?ho (⟨ga, k2, none⟩) ?hx (.int .i64 (c1 : Int)) ?hc ?_); (case hd => rfl); (case hw => kernel_rfl); (case ho => rfl); (case hx => kernel_rfl); (case hc => exact cc.out); simp only [Act.put, List.setIfInBounds_toArray, List.set_cons_succ, List.set_cons_zero]) | ((with_reducible refine wv_val (d := 54) ?hd ?hw (.int .i64 (c : Int)) ?hr ?_); (case hd => rfl); (case hw => kernel_rfl); (case hr => intro w; exact run_subZ 1 rfl (by kernel_rfl) Kc1.out hc62 w); simp only [Act.put, List.setIfInBounds_toArray, List.set_cons_succ, List.set_cons_zero]) | ((with_reducible refine wv_val (d := 55) ?hd ?hw (.pointer (some ⟨ga, k2, none⟩)) ?hr ?_); (case hd => rfl); (case hw => kernel_rfl); (case hr => intro w; exact run_idxRZ (c := ca) rfl (by kernel_rfl) (by kernel_rfl) hknr Kk2.out w); simp only [Act.put, List.setIfInBounds_toArray, List.set_cons_succ, List.set_cons_zero]) | ((with_reducible refine wv_val (d := 56) ?hd ?hw (.pointer (some ⟨ga, k2, none⟩)) ?hr ?_); (case hd => rfl); (case hw => kernel_rfl); (case hr => intro w; exact run_fldR0 rfl (by kernel_rfl) w); simp only [Act.put, List.setIfInBounds_toArray, List.set_cons_succ, List.set_cons_zero]) | ((refine wl_set1 rfl 3 sz_int (.tmp 56) (.tmp 54) rfl ga k2 (.int .i64 (c : Int)) (by kernel_rfl) (by kernel_rfl) rfl cur3 Kbk3.out Kcs3.out ?_); intro w5 hb5 hp5; (rw [Kk2.out] at hb5); obtain ⟨hO5, ht5⟩ := KO2.out.setCount rfl Knr.out Kbk3.out hb5 hp5; have c05 : Kept (w5.cell? ⟨rb, 0, none⟩ = some (.slice (some ⟨ga, 0, none⟩) nr ca)) := ⟨hO5.obj.cell rfl⟩; have cc5 : Kept (w5.cell? ⟨ga, k2, none⟩ = some (.int .i64 (c : Int))) := ⟨by rw [Kk2.out]; exact hb5.cell (by rw [Array.getElem?_setIfInBounds_self, if_pos (by rw [← Kk2.out]; exact Kcs3.out)])⟩; have KO5 : Kept _ := ⟨hO5⟩; have Kt5 : Kept _ := ⟨ht5⟩; clear hO5 ht5 hb5 hp5; simp only [Act.put, List.setIfInBounds_toArray, List.set_cons_succ, List.set_cons_zero]) | ((with_reducible refine wv_elem (d := 60) ?hd ?hw 67 Tryd.isAgg67 (.tmp 59) ?ho (⟨rb, 0, none⟩) ?hx (.slice (some ⟨ga, 0, none⟩) nr ca) ?hc ?_); (case hd => rfl); (case hw => kernel_rfl); (case ho => rfl); (case hx => kernel_rfl); (case hc => exact c05.out); simp only [Act.put, List.setIfInBounds_toArray, List.set_cons_succ, List.set_cons_zero]) | ((with_reducible refine wv_val (d := 62) ?hd ?hw (.pointer (some ⟨ga, k2, none⟩)) ?hr ?_); (case hd => rfl); (case hw => kernel_rfl); (case hr => intro w; exact run_idxRZ (c := ca) rfl (by kernel_rfl) (by kernel_rfl) hknr Kk2.out w); simp only [Act.put, List.setIfInBounds_toArray, List.set_cons_succ, List.set_cons_zero]) | ((with_reducible refine wv_val (d := 63) ?hd ?hw (.pointer (some ⟨ga, k2, none⟩)) ?hr ?_); (case hd => rfl); (case hw => kernel_rfl); (case hr => intro w; exact run_fldR0 rfl (by kernel_rfl) w); simp only [Act.put, List.setIfInBounds_toArray, List.set_cons_succ, List.set_cons_zero]) | ((with_reducible refine wv_elem (d := 64) ?hd ?hw 3 ag_int (.tmp 63) ?ho (⟨ga, k2, none⟩) ?hx (.int .i64 (c : Int)) ?hc ?_); (case hd => rfl); (case hw => kernel_rfl); (case ho => rfl); (case hx => kernel_rfl); (case hc => exact cc5.out); simp only [Act.put, List.setIfInBounds_toArray, List.set_cons_succ, List.set_cons_zero]) | ((with_reducible refine wv_val (d := 65) ?hd ?hw (.bool false) ?hr ?_); (case hd => rfl); (case hw => kernel_rfl); (case hr => intro w; exact run_eqII (n := 0) rfl (by kernel_rfl) rfl Bc.out w); simp only [Act.put, List.setIfInBounds_toArray, List.set_cons_succ, List.set_cons_zero]))
            go_roundg (gk - 1)
            case measure => omega
            case rel =>
              refine ⟨j + 1, _, _, by omega, by simp, ⟨_, vk2, vf2, gvs2, KO5.out, rfl⟩, (KM2.out ▸ Kt2.out).trans Kt5.out, ⟨?_, Kws2.out⟩⟩
              rw [Kjt.out]
              exact Knz.out
          case pos =>
            have Kz : Kept _ := ⟨hz hc0⟩
            have Bc : Kept (true = decide ((c : Int) = 0)) := ⟨(decide_eq_true (by omega)).symm⟩
            obtain ⟨ng, hng⟩ : ∃ n, n = r.2.length := ⟨_, rfl⟩
            obtain ⟨pg, cg, rfl, _⟩ := ints_form hgiv.1 hng.symm
            have Kgiv : Kept _ := ⟨hgiv⟩
            have hin := hF2.rel.inN r hrm
            have Kin : Kept (∀ y ∈ r.2, y < t2.kn.length) := ⟨fun y hy => by rw [hF2.rel.kn]; exact hin.2 y hy⟩
            have Kkn : Kept (t2.kn.length ≤ 1000000) := ⟨by rw [hF2.rel.kn]; exact KN.out⟩
            have Kfr : Kept (t2.fr.length ≤ 1000000) := ⟨by have := hF2.room; have := KN.out; omega⟩
            have Kgl : Kept (r.2.length ≤ 1000000) := ⟨hr2.2⟩
            have Kx2 : Kept (cur3[k2 + 1]? = some (.slice pg ng cg)) := ⟨x2⟩
            clear hk hF2 hws2 hsplit hrk hgk hck hcr hnz hz hrm hr2 hO2 hM2 hrv hcell hall hkn hbk3 hcs3 hcur3 hV e1 e2 x1 x2 hgiv hk2 hc1 ht2 hnr hng hin KF2
            go_wp2_with (first | ((with_reducible refine wv_elem (d := 45) ?hd ?hw 3 ag_int (.tmp 44) ?ho (A.add j) ?hx (.int .i64 (k : Int)) ?hc ?_); (case hd => rfl); (case hw => kernel_rfl); (case ho => rfl); (case hx => kernel_rfl); (case hc => exact KCe.out); simp only [Act.put, List.setIfInBounds_toArray, List.set_cons_succ, List.set_cons_zero]) | ((with_reducible refine wv_val (d := 44) ?hd ?hw (.pointer (some (A.add j))) ?hr ?_); (case hd => rfl); (case hw => kernel_rfl); (case hr => intro w; exact run_idxS (c := cv) rfl (by kernel_rfl) (by kernel_rfl) Tryd.underlying65 hjn Tryd.sizeOf3 w); simp only [Act.put, List.setIfInBounds_toArray, List.set_cons_succ, List.set_cons_zero]) | ((with_reducible refine wv_elem (d := 49) ?hd ?hw 67 Tryd.isAgg67 (.tmp 48) ?ho (⟨rb, 0, none⟩) ?hx (.slice (some ⟨ga, 0, none⟩) nr ca) ?hc ?_); (case hd => rfl); (case hw => kernel_rfl); (case ho => rfl); (case hx => kernel_rfl); (case hc => exact c0.out); simp only [Act.put, List.setIfInBounds_toArray, List.set_cons_succ, List.set_cons_zero]) | ((with_reducible refine wv_val (d := 51) ?hd ?hw (.pointer (some ⟨ga, k2, none⟩)) ?hr ?_); (case hd => rfl); (case hw => kernel_rfl); (case hr => intro w; exact run_idxRZ (c := ca) rfl (by kernel_rfl) (by kernel_rfl) hknr Kk2.out w); simp only [Act.put, List.setIfInBounds_toArray, List.set_cons_succ, List.set_cons_zero]) | ((with_reducible refine wv_val (d := 52) ?hd ?hw (.pointer (some ⟨ga, k2, none⟩)) ?hr ?_); (case hd => rfl); (case hw => kernel_rfl); (case hr => intro w; exact run_fldR0 rfl (by kernel_rfl) w); simp only [Act.put, List.setIfInBounds_toArray, List.set_cons_succ, List.set_cons_zero]) | ((with_reducible refine wv_elem (d := 53) ?hd ?hw 3 ag_int (.tmp 52) ?ho (⟨ga, k2, none⟩) ?hx (.int .i64 (c1 : Int)) ?hc ?_); (case hd => rfl); (case hw => kernel_rfl); (case ho => rfl); (case hx => kernel_rfl); (case hc => exact cc.out); simp only [Act.put, List.setIfInBounds_toArray, List.set_cons_succ, List.set_cons_zero]) | ((with_reducible refine wv_val (d := 54) ?hd ?hw (.int .i64 (c : Int)) ?hr ?_); (case hd => rfl); (case hw => kernel_rfl); (case hr => intro w; exact run_subZ 1 rfl (by kernel_rfl) Kc1.out hc62 w); simp only [Act.put, List.setIfInBounds_toArray, List.set_cons_succ, List.set_cons_zero]) | ((with_reducible refine wv_val (d := 55) ?hd ?hw (.pointer (some ⟨ga, k2, none⟩)) ?hr ?_); (case hd => rfl); (case hw => kernel_rfl); (case hr => intro w; exact run_idxRZ (c := ca) rfl (by kernel_rfl) (by kernel_rfl) hknr Kk2.out w); simp only [Act.put, List.setIfInBounds_toArray, List.set_cons_succ, List.set_cons_zero]) | ((with_reducible refine wv_val (d := 56) ?hd ?hw (.pointer (some ⟨ga, k2, none⟩)) ?hr ?_); (case hd => rfl); (case hw => kernel_rfl); (case hr => intro w; exact run_fldR0 rfl (by kernel_rfl) w); simp only [Act.put, List.setIfInBounds_toArray, List.set_cons_succ, List.set_cons_zero]) | ((refine wl_set1 rfl 3 sz_int (.tmp 56) (.tmp 54) rfl ga k2 (.int .i64 (c : Int)) (by kernel_rfl) (by kernel_rfl) rfl cur3 Kbk3.out Kcs3.out ?_); intro w5 hb5 hp5; (rw [Kk2.out] at hb5); obtain ⟨hO5, ht5⟩ := KO2.out.setCount rfl Knr.out Kbk3.out hb5 hp5; have c05 : Kept (w5.cell? ⟨rb, 0, none⟩ = some (.slice (some ⟨ga, 0, none⟩) nr ca)) := ⟨hO5.obj.cell rfl⟩; have cc5 : Kept (w5.cell? ⟨ga, k2, none⟩ = some (.int .i64 (c : Int))) := ⟨by rw [Kk2.out]; exact hb5.cell (by rw [Array.getElem?_setIfInBounds_self, if_pos (by rw [← Kk2.out]; exact Kcs3.out)])⟩; have cg5 : Kept (w5.cell? ⟨ga, k2 + 1, none⟩ = some (.slice pg ng cg)) := ⟨hb5.cell (by rw [Array.getElem?_setIfInBounds_ne (by rw [← Kk2.out]; omega)]; exact Kx2.out)⟩; have KO5 : Kept _ := ⟨hO5⟩; have Kt5 : Kept _ := ⟨ht5⟩; clear hO5 ht5 hb5 hp5; simp only [Act.put, List.setIfInBounds_toArray, List.set_cons_succ, List.set_cons_zero]) | ((with_reducible refine wv_elem (d := 60) ?hd ?hw 67 Tryd.isAgg67 (.tmp 59) ?ho (⟨rb, 0, none⟩) ?hx (.slice (some ⟨ga, 0, none⟩) nr ca) ?hc ?_); (case hd => rfl); (case hw => kernel_rfl); (case ho => rfl); (case hx => kernel_rfl); (case hc => exact c05.out); simp only [Act.put, List.setIfInBounds_toArray, List.set_cons_succ, List.set_cons_zero]) | ((with_reducible refine wv_val (d := 62) ?hd ?hw (.pointer (some ⟨ga, k2, none⟩)) ?hr ?_); (case hd => rfl); (case hw => kernel_rfl); (case hr => intro w; exact run_idxRZ (c := ca) rfl (by kernel_rfl) (by kernel_rfl) hknr Kk2.out w); simp only [Act.put, List.setIfInBounds_toArray, List.set_cons_succ, List.set_cons_zero]) | ((with_reducible refine wv_val (d := 63) ?hd ?hw (.pointer (some ⟨ga, k2, none⟩)) ?hr ?_); (case hd => rfl); (case hw => kernel_rfl); (case hr => intro w; exact run_fldR0 rfl (by kernel_rfl) w); simp only [Act.put, List.setIfInBounds_toArray, List.set_cons_succ, List.set_cons_zero]) | ((with_reducible refine wv_elem (d := 64) ?hd ?hw 3 ag_int (.tmp 63) ?ho (⟨ga, k2, none⟩) ?hx (.int .i64 (c : Int)) ?hc ?_); (case hd => rfl); (case hw => kernel_rfl); (case ho => rfl); (case hx => kernel_rfl); (case hc => exact cc5.out); simp only [Act.put, List.setIfInBounds_toArray, List.set_cons_succ, List.set_cons_zero]) | ((with_reducible refine wv_val (d := 65) ?hd ?hw (.bool true) ?hr ?_); (case hd => rfl); (case hw => kernel_rfl); (case hr => intro w; exact run_eqII (n := 0) rfl (by kernel_rfl) rfl Bc.out w); simp only [Act.put, List.setIfInBounds_toArray, List.set_cons_succ, List.set_cons_zero]) | ((with_reducible refine wv_elem (d := 70) ?hd ?hw 67 Tryd.isAgg67 (.tmp 69) ?ho (⟨rb, 0, none⟩) ?hx (.slice (some ⟨ga, 0, none⟩) nr ca) ?hc ?_); (case hd => rfl); (case hw => kernel_rfl); (case ho => rfl); (case hx => kernel_rfl); (case hc => exact c05.out); simp only [Act.put, List.setIfInBounds_toArray, List.set_cons_succ, List.set_cons_zero]) | ((with_reducible refine wv_val (d := 72) ?hd ?hw (.pointer (some ⟨ga, k2, none⟩)) ?hr ?_); (case hd => rfl); (case hw => kernel_rfl); (case hr => intro w; exact run_idxRZ (c := ca) rfl (by kernel_rfl) (by kernel_rfl) hknr Kk2.out w); simp only [Act.put, List.setIfInBounds_toArray, List.set_cons_succ, List.set_cons_zero]) | ((with_reducible refine wv_val (d := 73) ?hd ?hw (.pointer (some ⟨ga, k2 + 1, none⟩)) ?hr ?_); (case hd => rfl); (case hw => kernel_rfl); (case hr => intro w; exact run_fldRZ rfl (by kernel_rfl) w); simp only [Act.put, List.setIfInBounds_toArray, List.set_cons_succ, List.set_cons_zero]) | ((with_reducible refine wv_elem (d := 74) ?hd ?hw 65 Tryd.isAgg65 (.tmp 73) ?ho (⟨ga, k2 + 1, none⟩) ?hx (.slice pg ng cg) ?hc ?_); (case hd => rfl); (case hw => kernel_rfl); (case ho => rfl); (case hx => kernel_rfl); (case hc => exact cg5.out); simp only [Act.put, List.setIfInBounds_toArray, List.set_cons_succ, List.set_cons_zero]))
            refine (learnW (s := { t2 with cs := t2.cs.set k c }) ⟨_, vk2, vf2, gvs2, KO5.out, rfl⟩ (Kgiv.out.turn Kt5.out) Kin.out Kkn.out Kfr.out Kgl.out).mono ?_
            rintro e w6 ⟨rfl, M6, hR6, ht6⟩
            go_wp2_with fail
            go_roundg (gk - 1)
            case measure => omega
            case rel =>
              refine ⟨j + 1, _, _, by omega, by simp, hR6, ((KM2.out ▸ Kt2.out).trans Kt5.out).trans ht6, ⟨?_, ?_⟩⟩
              · rw [Kjt.out]
                exact Kz.out
              · rw [(learnR_same _ _).2.2.1]
                exact Kws2.out
end Go.Proofs.YtniogaimhkcedaaDoor.sh
