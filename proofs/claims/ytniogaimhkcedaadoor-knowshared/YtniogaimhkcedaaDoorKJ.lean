/-
  (*rules).add.
-/
import Derived.Test.YtniogaimhkcedaaDoorKI
namespace Go.Proofs.YtniogaimhkcedaaDoor.sh
open Go Go.RowKit
set_option linter.unusedVariables false
set_option linter.unusedSimpArgs false

theorem run_idxZ {o : Oper} {a : Act} {x y : Operand} {i l c g : Nat} {t e : TypeId} (ho : o.op = .indexAddr t x y) (hx : a.eval x = .slice (some ⟨g, 0, none⟩) l c) (hy : a.eval y = .int .i64 (i : Int)) (ht : Tryd.prog.underlying t = some (.slice e)) (hi : i < l) (sz : ∀ w, (sizeOf e).run Tryd.prog w = .ok 1 w) (w : World) : (execOp a.eval o).run Tryd.prog w = .ok (.value (.pointer (some ⟨g, i, none⟩))) w := by
  have h := run_idxS ho hx hy ht hi sz w
  rw [addr_add, Nat.zero_add] at h
  exact h
/-- A slice of one int, in a block that v hasn't. -/
def p37 (k : Nat) (v : Value) : Value → World → Prop := fun u w => IntsV .i64 u w [k] ∧ ∀ b, blkOf u = some b → b < w.heap.size ∧ blkOf v ≠ some b
/-- What an append onto v makes. -/
def p38 (B k : Nat) (l : List Nat) (W0 : World) (v : Value) : Value → World → Prop := fun u w => Row B 3 .i64 (l ++ [k]) u w ∧ (blkOf u = blkOf v ∨ ∃ n, blkOf u = some n ∧ W0.heap.size ≤ n)
theorem IntsV.grown {k : IntKind} {l : List Nat} {v : Value} {w w' : World} {row : Option Nat} (h : IntsV k v w l) (hg : w.grownBy w' row) (hne : ∀ b, blkOf v = some b → row ≠ some b) : IntsV k v w' l := by
  obtain ⟨p, c, rfl, hlc, hp⟩ := h
  refine ⟨p, c, rfl, hlc, fun hne2 => ?_⟩
  obtain ⟨A, rfl, hA, hc⟩ := hp hne2
  exact ⟨A, rfl, Nat.lt_of_lt_of_le hA hg.size, fun j x hx => (World.cell?_of_block (by rw [add_block]; exact hg.block _ hA (Ne.symm (hne _ rfl)))).trans (hc j x hx)⟩
theorem p37_under {k : Nat} {v u : Value} {w w' : World} (h : p37 k v u w) (hb : Below w.heap.size w w') : p37 k v u w' := ⟨h.1.under hb, fun b hb2 => ⟨Nat.lt_of_lt_of_le (h.2 b hb2).1 hb.size, (h.2 b hb2).2⟩⟩
theorem p38_under {B k : Nat} {l : List Nat} {W0 w w' : World} {v u : Value} (h : p38 B k l W0 v u w) (hb : Below w.heap.size w w') : p38 B k l W0 v u w' := ⟨h.1.under hb, h.2⟩
section
variable {h : List Oper} {A0 A : Act} {W0 : World} {S : Nat → Option (Value → World → Prop)} {sp : List Nat} {i : Nat} {o : Oper}
/-- A slice of one int is built. -/
theorem ow_bsI (hA : Full h A0 A S sp) (hw : Wants h A0 A S [] [] W0.heap.size i o) (d s n : Nat) (hd : o.dst = some d) (ho : o.op = .buildSlice 65 1 #[(0, .tmp s)]) (hws : waitsFor h o s = true) (hs : A.tmps[s]? = some (.int .i64 (n : Int))) (hss : sp.contains s = false) (p : Value → World → Prop) (hp : S d = some p)
    (hpn : ∀ w : World, W0.heap.size ≤ w.heap.size → p (.slice (some ⟨w.heap.size, 0, none⟩) 1 1) (w.alloc (.cells #[.int .i64 (n : Int)] 3))) : OwnOk Tryd.prog h A0 W0 (relR A S) [] [] i o :=
  ow_run hw d hd fun a w hF hB hgot => by
    have ex := gotE_det hA hgot hws hss rfl hs
    refine ⟨.slice (some ⟨w.heap.size, 0, none⟩) 1 1, w.alloc (.cells #[.int .i64 (n : Int)] 3), none, ?_, rel_spec p hp (hpn w hB.size), grown_none ((Below.refl _ _).alloc (Nat.le_refl _) _), fun b hb => (by cases hb), fun h => by simp at h⟩
    unfold execOp
    simp only [ho]
    simp [ex, run_bsI]
/-- An append of one int onto a row that was there. -/
theorem stab_app (hA : Full h A0 A S sp) (hg : o.guard = none) (d : Nat) (hd : o.dst = some d) (s x : Nat) (ho : o.op = .call { callee := .builtin .append, args := #[.tmp s, .tmp x], argTypes := #[65, 65] }) (v : Value) (l : List Nat) (k B : Nat) (W0 : World) (hB : B ≤ W0.heap.size) (hl : l.length ≤ 4398046511104) (hv : Row B 3 .i64 l v W0) (hws : waitsFor h o s = true) (hs : A.tmps[s]? = some v) (hss : sp.contains s = false) (hwx : waitsFor h o x = true) (hx : S x = some (p37 k v)) (hp : S d = some (p38 B k l W0 v)) (hother : ∀ d', d' ≠ d → d' ≠ x → S d' = none) :
    StabOk Tryd.prog h A0 (relR A S) (fun u => Below W0.heap.size W0 u) (fun u => W0.grownBy u (blkOf v)) i o := by
  refine ⟨d, hd, fun a w hF hC hgot => ⟨by simp [Region.wanted, hg], ?_⟩⟩
  have es := gotE_det hA hgot hws hss rfl hs
  have exx := (gotE_spec hgot (p37 k v) hwx rfl hx).1
  obtain ⟨v', w', h4, h5, h6, h7⟩ := app_run (P := Tryd.prog) (ty := o.type) Tryd.underlying65 inf_int (hv.under hC) exx.1 (by simp; omega) (by decide) (Nat.le_trans hB hC.size)
  have hrun : (execOp a.eval o).run Tryd.prog w = .ok (.value v') w' := by
    unfold execOp
    simp only [ho, resolve, invoke, builtin, Sem.run_bind, Sem.run_pure, Result.andThen_ok, List.map_toArray, List.map_cons, List.map_nil, es, h4]
  unfold Oper.wp
  rw [hrun]
  simp only [Oper.upon]
  rw [hd]
  refine ⟨v', rfl, rel_spec _ hp ⟨h5, ?_⟩, gb_trans (gb_under hC _) h6, fun d' u hne hR => ?_⟩
  · rcases h7 with h7 | h7
    · exact .inl h7
    · exact .inr ⟨_, h7, hC.size⟩
  · unfold relR at *
    by_cases hdx : d' = x
    · subst hdx
      rw [hx] at hR ⊢
      exact ⟨hR.1.grown h6 (fun b hb => (hR.2 b hb).2), fun b hb => ⟨Nat.lt_of_lt_of_le (hR.2 b hb).1 h6.size, (hR.2 b hb).2⟩⟩
    · rw [hother d' hne hdx] at hR ⊢
      exact hR
end
theorem rowG_slice {base s n : Nat} {e : TypeId} {v : Value} {xs : List Value} {w : World} (h : w.ownsRow base e s v n xs) : ∃ p c, v = .slice p n c ∧ n ≤ c := by
  rcases h.2 with ⟨rfl, h0⟩ | ⟨g, cap, cur, rfl, _, _, hc, _⟩
  · subst h0; exact ⟨none, 0, rfl, Nat.le_refl _⟩
  · exact ⟨_, _, rfl, hc⟩
theorem RuO.oneNe {rb B : Nat} {va vw vk vf : Value} {gvs wvs : List Value} {s : RS} {w : World} (h : RuO rb B va vw vk vf gvs wvs s w) {x : Nat} {v : Value} {l : List Nat} (hv : wvs[x]? = some v) (hl : s.ws[x]? = some l) : some rb ≠ blkOf v ∧ ∀ g, blkOf vw = some g → some g ≠ blkOf v :=
  ⟨fun e => h.sep.apart 0 (x + 5) (some rb, _) (blkOf v, Row B 3 .i64 l v) rfl (zip_at (fun v l => ((blkOf v, Row B 3 .i64 l v) : Own)) hv hl) (by omega) rb rfl e.symm,
   fun g hg e => h.sep.apart 2 (x + 5) (blkOf vw, _) (blkOf v, Row B 3 .i64 l v) rfl (zip_at (fun v l => ((blkOf v, Row B 3 .i64 l v) : Own)) hv hl) (by omega) g hg e.symm⟩
theorem waitsR_bound {ws : List (List Nat)} {k b : Nat} {n : List Nat} (hn : ∀ x ∈ n, x < ws.length) (h : ∀ l ∈ ws, l.length ≤ b) : ∀ l ∈ waitsR ws k n, l.length ≤ b + n.length := fun l hl => by
  obtain ⟨x, hx⟩ := List.mem_iff_getElem?.1 hl
  have hxl : x < ws.length := by have := (List.getElem?_eq_some_iff.1 hx).1; rwa [waitsR_len] at this
  have e := waitsR_at (k := k) hn x
  rw [List.getD_eq_getElem?_getD, hx, List.getD_eq_getElem?_getD, List.getElem?_eq_getElem hxl] at e
  have e : l = ws[x] ++ List.replicate (n.count x) k := e
  rw [e, List.length_append, List.length_replicate]
  have h1 := h ws[x] (List.getElem_mem hxl)
  have h2 := List.count_le_length (a := x) (l := n)
  omega
set_option maxRecDepth 100000 in
set_option maxHeartbeats 4000000 in
theorem addD {rb B : Nat} {s : RS} {M : Nat → Prop} {V1 V2 : Value} {nl gl : List Nat} {w : World} (hR : RuV rb B s M w) (h1 : GivV M w V1 nl) (h2 : GivV M w V2 gl) (hx : ∀ x ∈ nl, x < s.kn.length) (hy : ∀ y ∈ gl, y < s.kn.length) (hW : s.ws.length = s.kn.length) (hN : s.kn.length ≤ 1000000) (hf : s.fr.length ≤ 1000000) (hl1 : nl.length ≤ 1000000) (hl2 : gl.length ≤ 1000000) (hwl : ∀ l ∈ s.ws, l.length ≤ 1000000000000) (hcl : s.cs.length ≤ 900000) :
    Calls Tryd.prog 52 #[.pointer (some ⟨rb, 0, none⟩), V1, V2] w fun e w' => e = .returned (.tuple #[]) ∧ ∃ M', RuV rb B (addR s nl gl) M' w' ∧ Turn M w M' w' := by
  obtain ⟨n, hn⟩ : ∃ n, n = nl.length := ⟨_, rfl⟩
  obtain ⟨p, c, rfl, hc⟩ := ints_form h1.1 hn.symm
  obtain ⟨n2, hn2⟩ : ∃ n, n = gl.length := ⟨_, rfl⟩
  obtain ⟨p2, c2, rfl, hc2⟩ := ints_form h2.1 hn2.symm
  by_cases h0 : n = 0
  case pos =>
    have CL := learnD hR h2 hy hN hf hl2
    have e0 : nl = [] := List.eq_nil_of_length_eq_zero (by omega)
    subst e0
    have KCL : Kept _ := ⟨CL⟩
    have B0 : Kept (true = decide ((0 : Int) = 0)) := ⟨rfl⟩
    clear hR h1 h2 hx hy hW hN hf hl1 hl2 hwl hcl CL hn hn2
    subst h0
    go_enter Tryd.func52, Tryd.ntmps52
    go_wp2_with (first | ((with_reducible refine wv_val (d := 10) ?hd ?hw (.bool true) ?hr ?_); (case hd => rfl); (case hw => kernel_rfl); (case hr => intro w; exact run_eqII (m := 0) (n := 0) rfl (by kernel_rfl) rfl B0.out w); simp only [Act.put, List.setIfInBounds_toArray, List.set_cons_succ, List.set_cons_zero]))
    refine KCL.out.mono ?_
    rintro e w2 ⟨rfl, M', hR', ht'⟩
    go_wp2_with fail
    refine ⟨rfl, .tuple #[], (by simp [results, Tryd.results52, go_sem]), ?_⟩
    exact ⟨rfl, M', hR', ht'⟩
  case neg =>
    have B0 : Kept (false = decide ((n : Int) = 0)) := ⟨(decide_eq_false (by omega)).symm⟩
    have hn6 : n ≤ 1000000 := by omega
    have KR : Kept _ := ⟨hR⟩
    have K1 : Kept _ := ⟨h1⟩
    have K2 : Kept _ := ⟨h2⟩
    have KX : Kept (∀ x ∈ nl, x < s.kn.length) := ⟨hx⟩
    have KW : Kept _ := ⟨hW⟩
    have Kn : Kept _ := ⟨hn⟩
    have KN : Kept _ := ⟨hN⟩
    have KWl : Kept (∀ l ∈ s.ws, l.length ≤ 1000000000000) := ⟨hwl⟩
    have KCl : Kept _ := ⟨hcl⟩
    have Ken : Kept (addR s nl gl = { s with ws := waitsR s.ws s.gs.length nl, cs := s.cs ++ [nl.length], gs := s.gs ++ [gl] }) := ⟨addR_new gl (fun e => h0 (by rw [hn, e]; rfl))⟩
    clear hR h1 h2 hx hy hW hN hf hl1 hl2 hwl hcl hn hn2
    go_enter Tryd.func52, Tryd.ntmps52
    go_wp2_with (first | ((with_reducible refine wv_val (d := 10) ?hd ?hw (.bool false) ?hr ?_); (case hd => rfl); (case hw => kernel_rfl); (case hr => intro w; exact run_eqII (n := 0) rfl (by kernel_rfl) rfl B0.out w); simp only [Act.put, List.setIfInBounds_toArray, List.set_cons_succ, List.set_cons_zero]))
    go_loopg [16] n (fun g s16 wr => ∃ (i : Nat) (M' : Nat → Prop), i + g = n ∧ s16 = .int .i64 (i : Int) ∧ RuV rb B { s with ws := waitsR s.ws s.gs.length (nl.take i) } M' wr ∧ Turn M w M' wr)
    case atStart => exact ⟨0, M, by omega, rfl, KR.out, Turn.refl _ _⟩
    case round =>
      rename World => wz
      obtain ⟨i, M1, hik, rfl, hR1, ht1⟩ := hrel
      have K1t : Kept _ := ⟨K1.out.turn ht1⟩
      have K2t : Kept _ := ⟨K2.out.turn ht1⟩
      by_cases hk0 : gk = 0
      case pos =>
        obtain rfl : n = i := by omega
        have et : nl.take n = nl := List.take_of_length_le (by rw [← Kn.out]; exact Nat.le_refl _)
        rw [et] at hR1
        obtain ⟨va, vw, vk, vf, gvs, wvs, hO, hM⟩ := hR1
        have hall := hO.all
        obtain ⟨nr, hnr⟩ : ∃ n, n = s.cs.length := ⟨_, rfl⟩
        obtain ⟨pa, ca, rfl, hca⟩ := rowG_slice hall
        have c0 : Kept (wz.cell? ⟨rb, 0, none⟩ = some (.slice pa nr ca)) := ⟨by rw [hnr]; exact hO.obj.cell rfl⟩
        have bz := (Below.refl wz.heap.size wz).alloc (Nat.le_refl _) (.cells #[.int .i64 (n : Int), .slice p2 n2 c2] 105)
        have KO : Kept _ := ⟨hO.under bz⟩
        have KV2 : Kept _ := ⟨K2t.out.under bz⟩
        have Kt : Kept _ := ⟨ht1.trans (Turn.of_below bz)⟩
        have KMe : Kept _ := ⟨hM⟩
        have Kall : Kept ((wz.alloc (.cells #[.int .i64 (n : Int), .slice p2 n2 c2] 105)).ownsRow B 105 2 (.slice pa nr ca) nr (rcells s.cs gvs)) := ⟨by have := KO.out.all; rw [← hnr] at this; exact this⟩
        have Kbig : Kept _ := ⟨KO.out.big⟩
        have Kone : Kept (∀ x ∈ ([.int .i64 (n : Int), .slice p2 n2 c2] : List Value), x.oneCell' = true) := ⟨by simp [Value.oneCell']⟩
        have Kcell : Kept _ := ⟨new_cells wz #[.int .i64 (n : Int), .slice p2 n2 c2] 105⟩
        have hnr1 : nr + 1 ≤ 1000001 := by have := KCl.out; omega
        have Knr : Kept _ := ⟨hnr⟩
        have Krb : Kept ((some rb : Option Nat) ≠ blkOf (.slice pa nr ca)) := ⟨fun e => KO.out.sep.apart 0 1 (some rb, _) (blkOf (.slice pa nr ca), _) rfl (by rw [hnr]; rfl) (by decide) rb rfl e.symm⟩
        clear hO hall ht1 bz hM et hnr
        go_wp2_with (first | ((with_reducible refine wv_elem (d := 45) ?hd ?hw 67 Tryd.isAgg67 (.tmp 44) ?ho (⟨rb, 0, none⟩) ?hx (.slice pa nr ca) ?hc ?_); (case hd => rfl); (case hw => kernel_rfl); (case ho => rfl); (case hx => kernel_rfl); (case hc => exact c0.out); simp only [Act.put, List.setIfInBounds_toArray, List.set_cons_succ, List.set_cons_zero]) | ((with_reducible refine wv_val (d := 49) ?hd ?hw (.agg #[.int .i64 (n : Int), .slice p2 n2 c2]) ?hr ?_); (case hd => rfl); (case hw => kernel_rfl); (case hr => intro w; exact run_buildR rfl (by kernel_rfl) (by kernel_rfl) w); simp only [Act.put, List.setIfInBounds_toArray, List.set_cons_succ, List.set_cons_zero]) | ((refine wl_bsR rfl (.tmp 49) rfl n p2 n2 c2 (by kernel_rfl) ?_); simp only [Act.put, List.setIfInBounds_toArray, List.set_cons_succ, List.set_cons_zero]) | ((refine wl_appR rfl (.tmp 45) (.tmp 50) rfl B nr 1 1 (rcells s.cs gvs) [.int .i64 (n : Int), .slice p2 n2 c2] (.slice pa nr ca) (some ⟨wz.heap.size, 0, none⟩) (by kernel_rfl) (by kernel_rfl) Kall.out rfl Kcell.out Kone.out hnr1 Kbig.out ?_); intro v2 wC hr2 hg2 hs2; obtain ⟨p3, c3, rfl, _⟩ := rowG_slice hr2; have hbC := blk_grown hg2 KO.out.obj Krb.out; simp only [Act.put, List.setIfInBounds_toArray, List.set_cons_succ, List.set_cons_zero]) | ((refine wl_set1 rfl 67 sz_rules (.tmp 53) (.tmp 51) rfl rb 0 (.slice p3 (nr + 1) c3) (by kernel_rfl) (by kernel_rfl) rfl _ hbC (by simp) ?_); intro w4 hb4 hp4; simp only [Act.put, List.setIfInBounds_toArray, List.set_cons_succ, List.set_cons_zero]))
        refine ⟨rfl, .tuple #[], (by simp [results, Tryd.results52, go_sem]), ?_⟩
        have hr3 := hr2
        have hgl : gvs.length = s.cs.length := by rw [KO.out.gl, KO.out.cl]
        rw [← rcells_append n (.slice p2 n2 c2) hgl] at hr3
        obtain ⟨hO4, ht4⟩ := KO.out.addRule (c := n) (V := .slice p2 n2 c2) (g := gl) (n := nr + 1) (by rw [Knr.out]) hr3 (by rw [← Knr.out]; exact hg2) (by rw [← Knr.out]; exact hs2) hb4 hp4 (by rw [← KMe.out]; exact KV2.out)
        refine ⟨rfl, _, ?_, (KMe.out ▸ Kt.out).trans ht4⟩
        rw [Ken.out, ← Kn.out]
        exact ⟨_, vw, vk, vf, _, wvs, hO4, rfl⟩
      case neg =>
        have hin : i < n := by omega
        have hin' : (i : Int) < (n : Int) := by omega
        have hi1 : (i : Int) + 1 ≤ 9223372036854775807 := by omega
        obtain ⟨x, hx⟩ : ∃ x, nl[i]? = some x := ⟨_, List.getElem?_eq_getElem (by rw [← Kn.out]; exact hin)⟩
        obtain ⟨A, rfl, hA, hcell⟩ := ints_at K1t.out.1 hx
        have KCe : Kept _ := ⟨hcell⟩
        have hxk := KX.out x (List.mem_of_getElem? hx)
        have hwl2 := waitsR_len s.ws s.gs.length (nl.take i)
        have hbnd := waitsR_bound (k := s.gs.length) (n := nl.take i) (fun z hz => by rw [KW.out]; exact KX.out z (List.mem_of_mem_take hz)) KWl.out
        have et : waitsR s.ws s.gs.length (nl.take (i + 1)) = (waitsR s.ws s.gs.length (nl.take i)).set x ((waitsR s.ws s.gs.length (nl.take i)).getD x [] ++ [s.gs.length]) := by rw [List.take_add_one, hx, Option.toList_some, waitsR_snoc]
        generalize waitsR s.ws s.gs.length (nl.take i) = ws at *
        obtain ⟨l, hl⟩ : ∃ l, ws[x]? = some l := ⟨_, List.getElem?_eq_getElem (by rw [hwl2, KW.out]; exact hxk)⟩
        have hgd : ws.getD x [] = l := by rw [List.getD_eq_getElem?_getD, hl]; rfl
        rw [hgd] at et
        have hlb := hbnd l (List.mem_of_getElem? hl)
        rw [List.length_take] at hlb
        obtain ⟨va, vw, vk, vf, gvs, wvs, hO, hM⟩ := hR1
        obtain ⟨v, hv⟩ : ∃ v, wvs[x]? = some v := ⟨_, List.getElem?_eq_getElem (by rw [hO.wl]; exact (List.getElem?_eq_some_iff.1 hl).1)⟩
        obtain ⟨N, hNt⟩ : ∃ N, N = wvs.length := ⟨_, rfl⟩
        have hxN : x < N := by rw [hNt]; exact (List.getElem?_eq_some_iff.1 hv).1
        have hkN := hO.wait
        unfold VRow at hkN
        rw [← hNt] at hkN
        obtain ⟨gw, cw, cur, rfl, hBg, hbk, hnc, hcs, hcur⟩ := rowG_form hkN (by omega)
        have hrv := hO.one hv hl
        obtain ⟨lv, hlv⟩ : ∃ n, n = l.length := ⟨_, rfl⟩
        obtain ⟨pv, cv, rfl, _⟩ := row_slice hrv hlv.symm
        obtain ⟨nr, hnr⟩ : ∃ n, n = s.cs.length := ⟨_, rfl⟩
        obtain ⟨pa, ca, rfl, hca⟩ := rowG_slice hO.all
        have hnrg : nr = s.gs.length := by rw [hnr]; exact hO.cl
        have hxc := hcur x _ hv
        have hO' := hO
        obtain ⟨ne1, ne2⟩ := hO.oneNe hv hl
        have ne2 := ne2 gw rfl
        have hobj := hO.obj
        have Kc1 : Kept (∀ w1, wz.grownBy w1 (blkOf (.slice pv lv cv)) → w1.cell? ⟨rb, 1, none⟩ = some (.slice (some ⟨gw, 0, none⟩) N cw)) := ⟨fun w1 hg => (blk_grown hg hobj ne1).cell rfl⟩
        have Kc0 : Kept (∀ w1, wz.grownBy w1 (blkOf (.slice pv lv cv)) → w1.cell? ⟨rb, 0, none⟩ = some (.slice pa nr ca)) := ⟨fun w1 hg => by rw [hnr]; exact (blk_grown hg hobj ne1).cell rfl⟩
        have Kcx : Kept (∀ w1, wz.grownBy w1 (blkOf (.slice pv lv cv)) → w1.cell? ⟨gw, x, none⟩ = some (.slice pv lv cv)) := ⟨fun w1 hg => (blk_grown hg hbk ne2).cell hxc⟩
        have Kgw : Kept (∀ w1, wz.grownBy w1 (blkOf (.slice pv lv cv)) → Blk w1 gw 65 cur) := ⟨fun w1 hg => blk_grown hg hbk ne2⟩
        have KC : Kept (∀ W1 w1, (Below wz.heap.size wz W1 ∨ wz.grownBy W1 (blkOf (.slice pv lv cv))) → Below W1.heap.size W1 w1 → wz.grownBy w1 (blkOf (.slice pv lv cv))) := ⟨fun W1 w1 h hb => by
          rcases h with h | h
          · exact gb_trans (gb_under h _) (gb_under hb _)
          · exact gb_trans h (gb_under hb _)⟩
        have Kp37 : Kept (∀ W1 w1 : World, (Below wz.heap.size wz W1 ∨ wz.grownBy W1 (blkOf (.slice pv lv cv))) → W1.heap.size ≤ w1.heap.size → p37 nr (.slice pv lv cv) (.slice (some ⟨w1.heap.size, 0, none⟩) 1 1) (w1.alloc (.cells #[.int .i64 (nr : Int)] 3))) := ⟨fun W1 w1 h hb => ⟨one_int nr w1, fun b hb2 => by
          cases hb2
          refine ⟨by rw [alloc_size]; exact Nat.lt_succ_self _, fun e => ?_⟩
          have h3 : w1.heap.size < wz.heap.size := (hrv.range _ e).2
          have h4 : wz.heap.size ≤ W1.heap.size := by rcases h with h | h; exact h.size; exact h.size
          omega⟩⟩
        have Krv : Kept _ := ⟨hrv⟩
        have Kbig : Kept _ := ⟨hO.big⟩
        have Kll : Kept (l.length ≤ 4398046511104) := ⟨by omega⟩
        have KO : Kept _ := ⟨hO⟩
        have KMe : Kept _ := ⟨hM⟩
        have Kt1 : Kept _ := ⟨ht1⟩
        have Kv : Kept _ := ⟨hv⟩
        have Kl : Kept _ := ⟨hl⟩
        have Ket : Kept _ := ⟨et⟩
        have Knrg : Kept _ := ⟨hnrg⟩
        have Kbk : Kept _ := ⟨hbk⟩
        have KNt : Kept (N = ws.length) := ⟨by rw [hNt]; exact hO.wl⟩
        have Kcs : Kept (x < cur.size) := ⟨(Array.getElem?_eq_some_iff.1 hxc).1⟩
        have Klv : Kept ((l ++ [nr]).length = lv + 1) := ⟨by rw [List.length_append, hlv]; rfl⟩
        clear hx hcell hxk hwl2 hbnd hl hgd et hlb hO hO' hM hv hkN hBg hbk hnc hcs hcur hrv hobj hxc ne1 ne2 ht1 hNt hnr hnrg hca hlv
        go_wp2_with (first | ((with_reducible refine wv_val (d := 18) ?hd ?hw (.pointer (some (A.add i))) ?hr ?_); (case hd => rfl); (case hw => kernel_rfl); (case hr => intro w; exact run_idxS (c := c) rfl (by kernel_rfl) (by kernel_rfl) Tryd.underlying65 hin Tryd.sizeOf3 w); simp only [Act.put, List.setIfInBounds_toArray, List.set_cons_succ, List.set_cons_zero]) | ((with_reducible refine wv_elem (d := 19) ?hd ?hw 3 ag_int (.tmp 18) ?ho (A.add i) ?hx (.int .i64 (x : Int)) ?hc ?_); (case hd => rfl); (case hw => kernel_rfl); (case ho => rfl); (case hx => kernel_rfl); (case hc => exact KCe.out); simp only [Act.put, List.setIfInBounds_toArray, List.set_cons_succ, List.set_cons_zero]))
        refine region_stabL 19 18 [(20, .pointer (some ⟨rb, 0, none⟩)), (21, .pointer (some ⟨rb, 0, none⟩)), (22, .pointer (some ⟨rb, 1, none⟩)), (23, .slice (some ⟨gw, 0, none⟩) N cw), (24, .int .i64 (x : Int)), (25, .pointer (some ⟨rb, 0, none⟩)), (26, .pointer (some ⟨rb, 0, none⟩)), (27, .pointer (some ⟨rb, 1, none⟩)), (28, .slice (some ⟨gw, 0, none⟩) N cw), (29, .int .i64 (x : Int)), (30, .pointer (some ⟨gw, x, none⟩)), (31, .slice pv lv cv), (32, .pointer (some ⟨rb, 0, none⟩)), (33, .pointer (some ⟨rb, 0, none⟩)), (34, .pointer (some ⟨rb, 0, none⟩)), (35, .slice pa nr ca), (36, .int .i64 (nr : Int))] [(37, p37 nr (.slice pv lv cv)), (38, p38 B nr l wz (.slice pv lv cv))] (fun u => Below wz.heap.size wz u) (fun u => wz.grownBy u (blkOf (.slice pv lv cv))) rfl (by kernel_rfl) (by kernel_rfl) (by kernel_rfl) (by kernel_rfl) (by kernel_rfl) (by kernel_rfl) (by kernel_rfl) (by kernel_rfl) ?hst ?hCb ?hCb2 ?hC (fun hA => ⟨.inl ⟨by decide, fun W1 hCC => ow_val hA (wants_none rfl) 20 (.pointer (some ⟨rb, 0, none⟩)) (by kernel_rfl) rfl rfl rfl rfl (by kernel_rfl) (fun w => by kernel_rfl)⟩, .inl ⟨by decide, fun W1 hCC => ow_val hA (wants_none rfl) 21 (.pointer (some ⟨rb, 0, none⟩)) (by kernel_rfl) rfl rfl rfl rfl (by kernel_rfl) (fun w => by kernel_rfl)⟩, .inl ⟨by decide, fun W1 hCC => ow_val hA (wants_none rfl) 22 (.pointer (some ⟨rb, 1, none⟩)) (by kernel_rfl) rfl rfl rfl rfl (by kernel_rfl) (fun w => by kernel_rfl)⟩, .inl ⟨by decide, fun W1 hCC => ow_elem hA (wants_none rfl) 23 (.slice (some ⟨gw, 0, none⟩) N cw) (by kernel_rfl) rfl rfl rfl rfl (by kernel_rfl) 68 Tryd.isAgg68 (.tmp 22) rfl (⟨rb, 1, none⟩) (by kernel_rfl) (fun w1 hb => Kc1.out w1 (KC.out W1 w1 hCC hb))⟩, .inl ⟨by decide, fun W1 hCC => ow_val hA (wants_none rfl) 24 (.int .i64 (x : Int)) (by kernel_rfl) rfl rfl rfl rfl (by kernel_rfl) (fun w => by kernel_rfl)⟩, .inl ⟨by decide, fun W1 hCC => ow_val hA (wants_none rfl) 25 (.pointer (some ⟨rb, 0, none⟩)) (by kernel_rfl) rfl rfl rfl rfl (by kernel_rfl) (fun w => by kernel_rfl)⟩, .inl ⟨by decide, fun W1 hCC => ow_val hA (wants_none rfl) 26 (.pointer (some ⟨rb, 0, none⟩)) (by kernel_rfl) rfl rfl rfl rfl (by kernel_rfl) (fun w => by kernel_rfl)⟩, .inl ⟨by decide, fun W1 hCC => ow_val hA (wants_none rfl) 27 (.pointer (some ⟨rb, 1, none⟩)) (by kernel_rfl) rfl rfl rfl rfl (by kernel_rfl) (fun w => by kernel_rfl)⟩, .inl ⟨by decide, fun W1 hCC => ow_elem hA (wants_none rfl) 28 (.slice (some ⟨gw, 0, none⟩) N cw) (by kernel_rfl) rfl rfl rfl rfl (by kernel_rfl) 68 Tryd.isAgg68 (.tmp 27) rfl (⟨rb, 1, none⟩) (by kernel_rfl) (fun w1 hb => Kc1.out w1 (KC.out W1 w1 hCC hb))⟩, .inl ⟨by decide, fun W1 hCC => ow_val hA (wants_none rfl) 29 (.int .i64 (x : Int)) (by kernel_rfl) rfl rfl rfl rfl (by kernel_rfl) (fun w => by kernel_rfl)⟩, .inl ⟨by decide, fun W1 hCC => ow_val hA (wants_none rfl) 30 (.pointer (some ⟨gw, x, none⟩)) (by kernel_rfl) rfl rfl rfl rfl (by kernel_rfl) (fun w => run_idxZ (c := cw) rfl (by kernel_rfl) (by kernel_rfl) Tryd.underlying68 hxN Tryd.sizeOf65 w)⟩, .inl ⟨by decide, fun W1 hCC => ow_elem hA (wants_none rfl) 31 (.slice pv lv cv) (by kernel_rfl) rfl rfl rfl rfl (by kernel_rfl) 65 ag_ints (.tmp 30) rfl (⟨gw, x, none⟩) (by kernel_rfl) (fun w1 hb => Kcx.out w1 (KC.out W1 w1 hCC hb))⟩, .inl ⟨by decide, fun W1 hCC => ow_val hA (wants_none rfl) 32 (.pointer (some ⟨rb, 0, none⟩)) (by kernel_rfl) rfl rfl rfl rfl (by kernel_rfl) (fun w => by kernel_rfl)⟩, .inl ⟨by decide, fun W1 hCC => ow_val hA (wants_none rfl) 33 (.pointer (some ⟨rb, 0, none⟩)) (by kernel_rfl) rfl rfl rfl rfl (by kernel_rfl) (fun w => by kernel_rfl)⟩, .inl ⟨by decide, fun W1 hCC => ow_val hA (wants_none rfl) 34 (.pointer (some ⟨rb, 0, none⟩)) (by kernel_rfl) rfl rfl rfl rfl (by kernel_rfl) (fun w => by kernel_rfl)⟩, .inl ⟨by decide, fun W1 hCC => ow_elem hA (wants_none rfl) 35 (.slice pa nr ca) (by kernel_rfl) rfl rfl rfl rfl (by kernel_rfl) 67 Tryd.isAgg67 (.tmp 34) rfl (⟨rb, 0, none⟩) (by kernel_rfl) (fun w1 hb => Kc0.out w1 (KC.out W1 w1 hCC hb))⟩, .inl ⟨by decide, fun W1 hCC => ow_val hA (wants_none rfl) 36 (.int .i64 (nr : Int)) (by kernel_rfl) rfl rfl rfl rfl (by kernel_rfl) (fun w => by kernel_rfl)⟩, .inl ⟨by decide, fun W1 hCC => ow_bsI hA (wants_none rfl) 37 36 nr rfl rfl (by kernel_rfl) (by kernel_rfl) rfl _ rfl (fun w1 h1 => Kp37.out W1 w1 hCC h1)⟩, .inr ⟨rfl, stab_app hA rfl 38 rfl 31 37 rfl (.slice pv lv cv) l nr B wz Kbig.out Kll.out Krv.out (by kernel_rfl) (by kernel_rfl) rfl (by kernel_rfl) rfl rfl (fun d h1 h2 => specOf_none _ d (by simp; omega))⟩, trivial⟩) ?_
        case hst =>
          intro q hq u w1 w2 h hb
          rcases List.mem_cons.1 hq with rfl | hq
          · exact p37_under h hb
          · rw [List.mem_singleton] at hq
            subst hq
            exact p38_under h hb
        case hCb => exact fun w1 w2 h hb => Below.trans h (hb.mono h.size)
        case hCb2 => exact fun w1 w2 h hb => gb_trans h (gb_under hb _)
        case hC => exact Below.refl _ _
        intro fv w4 hf hC4
        simp only [putR, List.foldl_cons, List.foldl_nil, List.map_cons, List.map_nil, Act.put, List.setIfInBounds_toArray, List.set_cons_succ, List.set_cons_zero]
        have h38 : p38 B nr l wz (.slice pv lv cv) (fv 38) w4 := hf 38 _ rfl
        clear hf
        generalize fv 38 = v38 at *
        generalize fv 37 = v37 at *
        obtain ⟨hr4, hne4⟩ := h38
        obtain ⟨p5, c5, rfl, _⟩ := row_slice hr4 Klv.out
        have hb4 := Kgw.out w4 hC4
        go_wp2_with (first | ((with_reducible refine wv_val (d := 39) ?hd ?hw (.pointer (some ⟨gw, x, none⟩)) ?hr ?_); (case hd => rfl); (case hw => kernel_rfl); (case hr => intro w; exact run_idxZ (c := cw) rfl (by kernel_rfl) (by kernel_rfl) Tryd.underlying68 hxN Tryd.sizeOf65 w); simp only [Act.put, List.setIfInBounds_toArray, List.set_cons_succ, List.set_cons_zero]) | ((refine wl_set1 rfl 65 sz_ints (.tmp 39) (.tmp 38) rfl gw x (.slice p5 (lv + 1) c5) (by kernel_rfl) (by kernel_rfl) rfl cur hb4 Kcs.out ?_); intro w5 hb5 hp5; simp only [Act.put, List.setIfInBounds_toArray, List.set_cons_succ, List.set_cons_zero]))
        obtain ⟨hO5, ht5⟩ := KO.out.setWait Kv.out Kl.out hr4 hC4 hne4 rfl KNt.out hb4 hb5 hp5
        go_roundg (gk - 1)
        case measure => omega
        case rel =>
          refine ⟨i + 1, _, by omega, by simp, ?_, (KMe.out ▸ Kt1.out).trans ht5⟩
          rw [Ket.out, ← Knrg.out]
          exact ⟨_, _, vk, vf, gvs, _, hO5, rfl⟩
end Go.Proofs.YtniogaimhkcedaaDoor.sh
