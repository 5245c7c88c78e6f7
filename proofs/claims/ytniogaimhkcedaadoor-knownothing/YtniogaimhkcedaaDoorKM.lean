/-
  Rules that are being built, by what a set must hold; (*rules).add again; pubsOf.
-/
import Derived.Test.YtniogaimhkcedaaDoorKL
namespace Go.Proofs.YtniogaimhkcedaaDoor.sh
open Go Go.RowKit Go.Maps
set_option linter.unusedVariables false
set_option linter.unusedSimpArgs false

/-- A state of at most k rules, with bounds. -/
structure BuiltB (N k : Nat) (R : RL) (s : RS) : Prop where
  built : Built N R s
  rl : R.length ≤ k
  wl : ∀ l ∈ s.ws, l.length ≤ k * 1000000
  len : ∀ r ∈ R, r.1.length ≤ 1000000 ∧ r.2.length ≤ 1000000
theorem BuiltB.mono {N k k' : Nat} {R : RL} {s : RS} (h : BuiltB N k R s) (hk : k ≤ k') : BuiltB N k' R s := ⟨h.built, Nat.le_trans h.rl hk, fun l hl => Nat.le_trans (h.wl l hl) (Nat.mul_le_mul_right _ hk), h.len⟩
theorem BuiltB.add {N k : Nat} {R : RL} {s : RS} {n g : List Nat} (h : BuiltB N k R s) (hn : ∀ x ∈ n, x < N) (hg : ∀ y ∈ g, y < N) (hnl : n.length ≤ 1000000) (hgl : g.length ≤ 1000000) :
    ∃ R', BuiltB N (k + 1) R' (addR s n g) ∧ ∀ H, Sat (addR s n g) R' H ↔ Sat s R H ∧ ((∀ x ∈ n, H x) → ∀ y ∈ g, H y) := by
  by_cases h0 : n = []
  · subst h0
    rw [addR_nil]
    refine ⟨R, ⟨(h.built.learn hg).1, Nat.le_succ_of_le h.rl, ?_, h.len⟩, fun H => ?_⟩
    · rw [(learnR_same s g).2.2.1]
      exact fun l hl => Nat.le_trans (h.wl l hl) (Nat.mul_le_mul_right _ (Nat.le_succ k))
    · rw [(h.built.learn hg).2 H]
      simp
  · obtain ⟨R', h1, h2, h3⟩ := h.built.add hn hg
    have h5 := h2.rel.gs
    have hws : (addR s n g).ws = waitsR s.ws s.gs.length n := by rw [addR_new g h0]
    have hgs : (addR s n g).gs = s.gs ++ [g] := by rw [addR_new g h0]
    have hcs : (addR s n g).cs = s.cs ++ [n.length] := by rw [addR_new g h0]
    refine ⟨R', ⟨h2, Nat.le_trans h1 (Nat.succ_le_succ h.rl), fun l hl => ?_, fun r hr => ?_⟩, h3⟩
    · rw [hws] at hl
      have := waitsR_bound (fun x hx => by rw [h.built.rel.wl]; exact hn x hx) h.wl l hl
      omega
    · obtain ⟨j, hj⟩ := List.mem_iff_getElem?.1 hr
      have e1 : (addR s n g).cs[j]? = some r.1.length := by rw [h2.cs, List.getElem?_map, hj]; rfl
      have e2 : (addR s n g).gs[j]? = some r.2 := by rw [h2.rel.gs, List.getElem?_map, hj]; rfl
      rw [hcs] at e1
      rw [hgs] at e2
      have hcl : s.cs.length = R.length := h.built.rel.cl
      have hgl2 : s.gs.length = R.length := by rw [h.built.rel.gs, List.length_map]
      by_cases hjl : j < R.length
      · rw [List.getElem?_append_left (by omega)] at e1 e2
        rw [h.built.cs, List.getElem?_map] at e1
        rw [h.built.rel.gs, List.getElem?_map] at e2
        obtain ⟨q, hq⟩ : ∃ q, R[j]? = some q := ⟨_, List.getElem?_eq_getElem hjl⟩
        rw [hq] at e1 e2
        have h6 := h.len q (List.mem_of_getElem? hq)
        have e1 : q.1.length = r.1.length := by simpa using e1
        have e2 : q.2 = r.2 := by simpa using e2
        rw [← e1, ← e2]
        exact h6
      · have hj2 := (List.getElem?_eq_some_iff.1 e1).1
        rw [List.length_append, List.length_singleton] at hj2
        obtain rfl : j = s.cs.length := by omega
        rw [List.getElem?_append_right (Nat.le_refl _), Nat.sub_self] at e1
        rw [hcl, ← hgl2, List.getElem?_append_right (Nat.le_refl _), Nat.sub_self] at e2
        have e1 : n.length = r.1.length := by simpa using e1
        have e2 : g = r.2 := by simpa using e2
        rw [← e1, ← e2]
        exact ⟨hnl, hgl⟩
/-- Rules in memory that are being built: a set keeps them just if Φ says so. -/
def RuB (rb B N k : Nat) (Φ : (Nat → Prop) → Prop) (M : Nat → Prop) (w : World) : Prop := ∃ s R, RuV rb B s M w ∧ BuiltB N k R s ∧ ∀ H, Sat s R H ↔ Φ H
theorem RuB.under {rb B N k : Nat} {Φ : (Nat → Prop) → Prop} {M : Nat → Prop} {w w' : World} (h : RuB rb B N k Φ M w) (hb : Below w.heap.size w w') : RuB rb B N k Φ M w' := by
  obtain ⟨s, R, h1, h2⟩ := h
  exact ⟨s, R, h1.under hb, h2⟩
theorem RuB.range {rb B N k : Nat} {Φ : (Nat → Prop) → Prop} {M : Nat → Prop} {w : World} (h : RuB rb B N k Φ M w) {b : Nat} (hb : M b) : B ≤ b ∧ b < w.heap.size := by
  obtain ⟨s, R, h1, h2⟩ := h
  exact h1.range hb
theorem RuB.mono {rb B N k k' : Nat} {Φ Ψ : (Nat → Prop) → Prop} {M : Nat → Prop} {w : World} (h : RuB rb B N k Φ M w) (hk : k ≤ k') (hp : ∀ H, Φ H ↔ Ψ H) : RuB rb B N k' Ψ M w := by
  obtain ⟨s, R, h1, h2, h3⟩ := h
  exact ⟨s, R, h1, h2.mono hk, fun H => (h3 H).trans (hp H)⟩
theorem RuB.giv {rb B N k : Nat} {Φ : (Nat → Prop) → Prop} {M : Nat → Prop} {w w' : World} (h : RuB rb B N k Φ M w) {V : Value} {l : List Nat} (hV : IntsV .i64 V w' l) (hb : ∀ b, blkOf V = some b → w.heap.size ≤ b ∧ b < w'.heap.size) : GivV M w' V l := ⟨hV, fun b hb2 => ⟨fun hM => by have := (h.range hM).2; have := (hb b hb2).1; omega, (hb b hb2).2⟩⟩
/-- A call of add, of new slices. -/
theorem addB {rb B N k : Nat} {Φ : (Nat → Prop) → Prop} {M : Nat → Prop} {V1 V2 : Value} {nl gl : List Nat} {w w' : World} (hR : RuB rb B N k Φ M w) (q : Below w.heap.size w w') (hN : N ≤ 1000000) (hk : k ≤ 900000) (h1 : IntsV .i64 V1 w' nl) (h2 : IntsV .i64 V2 w' gl) (hb1 : ∀ b, blkOf V1 = some b → w.heap.size ≤ b ∧ b < w'.heap.size) (hb2 : ∀ b, blkOf V2 = some b → w.heap.size ≤ b ∧ b < w'.heap.size) (hn : ∀ x ∈ nl, x < N) (hg : ∀ y ∈ gl, y < N) (hnl : nl.length ≤ 1000000) (hgl : gl.length ≤ 1000000) :
    Calls Tryd.prog 52 #[.pointer (some ⟨rb, 0, none⟩), V1, V2] w' fun e w2 => e = .returned (.tuple #[]) ∧ ∃ M', RuB rb B N (k + 1) (fun H => Φ H ∧ ((∀ x ∈ nl, H x) → ∀ y ∈ gl, H y)) M' w2 ∧ Turn M w M' w2 := by
  have g1 := hR.giv h1 hb1
  have g2 := hR.giv h2 hb2
  obtain ⟨s, R, r1, r2, r3⟩ := hR
  have hkn := r2.built.rel.kn
  obtain ⟨R', b1, b2⟩ := r2.add hn hg hnl hgl
  have hfr : s.fr.length ≤ 1000000 := by
    have := nodup_len N s.fr (by have := r2.built.had.nod; simpa using this) r2.built.rel.fr
    omega
  refine (addD (r1.under q) g1 g2 (by rw [hkn]; exact hn) (by rw [hkn]; exact hg) (by rw [hkn]; exact r2.built.rel.wl) (by omega) hfr hnl hgl (fun l hl => by have := r2.wl l hl; omega) (by rw [r2.built.rel.cl]; have := r2.rl; omega)).mono ?_
  rintro e w2 ⟨rfl, M', h3, h4⟩
  refine ⟨rfl, M', ⟨_, R', h3, b1, fun H => ?_⟩, (Turn.of_below q).trans h4⟩
  rw [b2 H, r3 H]
theorem todo_known {ts : List TermL} {ll : List (List Nat)} {ns : List Nat} (h : ∀ n, n ∈ ns ↔ TodoL ts ll n) (H : Nat → Prop) : (∀ n ∈ ns, H n) ↔ ∀ l ∈ ll, KnownS ts H l :=
  ⟨fun h1 l hl n hn => h1 n ((h n).2 ⟨l, hl, hn⟩), fun h1 n hn => by
    obtain ⟨l, hl, h2⟩ := (h n).1 hn
    exact h1 l hl n h2⟩
theorem todo_lt {ts : List TermL} {ll : List (List Nat)} {ns : List Nat} (h : ∀ n, n ∈ ns ↔ TodoL ts ll n) : ∀ n ∈ ns, n < ts.length := fun n hn => by
  obtain ⟨l, _, h2⟩ := (h n).1 hn
  exact leaf_lt h2
theorem run_eqU8 {o : Oper} {a : Act} {x : Operand} {m : Nat} {b : Bool} (c : Nat) (ho : o.op = .binOp .eql 5 x (.const (.int .u8 (c : Int))) 5) (hx : a.eval x = .int .u8 (m : Int)) (hb : b = decide (m = c)) (w : World) : (execOp a.eval o).run Tryd.prog w = .ok (.value (.bool b)) w := by
  have e3 : a.eval (.const (.int .u8 (c : Int))) = .int .u8 (c : Int) := rfl
  unfold execOp
  simp only [ho, hx, e3]
  rw [hb]
  by_cases h : m = c
  · subst h; simp [go_sem]
  · have h2 : ¬ (m : Int) = (c : Int) := by omega
    simp [go_sem, h, h2]
set_option maxRecDepth 100000 in
set_option maxHeartbeats 4000000 in
theorem pubsOfD {tb B : Nat} {ts : List TermL} {M : Nat → Prop} {V : Value} {w : World} (hT : Tab tb B ts M w) (hV : ValsV V w (strs (namesL ts.length))) (hts : ts.length < 1000000) :
    Calls Tryd.prog 51 #[.pointer (some ⟨tb, 0, none⟩), V] w fun e w' => (∃ pb, e = .returned (.map (some pb)) ∧ w.heap.size ≤ pb ∧ MapI (pubR ts ts.length) pb ts.length w') ∧ Below w.heap.size w w' := by
  obtain ⟨N, hN⟩ : ∃ N, N = ts.length := ⟨_, rfl⟩
  rw [← hN] at hV ⊢
  obtain ⟨p, c, rfl, hc⟩ := vals_form hV (show (strs (namesL N)).length = N by rw [strs_len, namesL_len])
  have hN6 : N < 1000000 := by omega
  have hmm := @run_makeMap Tryd.prog
  obtain ⟨Hs, hH⟩ : ∃ H, H = w.heap.size := ⟨_, rfl⟩
  have KH : Kept _ := ⟨hH⟩
  have KV : Kept _ := ⟨hV⟩
  have KT : Kept _ := ⟨hT⟩
  have KN : Kept _ := ⟨hN⟩
  have Kts : Kept _ := ⟨hts⟩
  rw [← hH]
  have fin : ∀ w2, w2 = w.alloc (.map #[] 0) → MapI (pubR ts 0) Hs 0 w2 ∧ Below Hs w w2 := fun w2 h => by
    subst h
    rw [hH]
    exact ⟨World.ownsMap_made w _ _ _, (Below.refl _ _).alloc (Nat.le_refl _) _⟩
  have KF : Kept _ := ⟨fin⟩
  clear hV hH fin hT hN hts
  go_enter Tryd.func51, Tryd.ntmps51
  go_wp2_with fail
  rw [← KH.out]
  go_loopg [14] N (fun g s14 wr => ∃ i : Nat, i + g = N ∧ s14 = .int .i64 (i : Int) ∧ MapI (pubR ts i) Hs i wr ∧ Below Hs w wr)
  case atStart => exact ⟨0, by omega, rfl, KF.out _ rfl⟩
  case round =>
    rename World => wz
    obtain ⟨i, hik, rfl, hbi, hqi⟩ := hrel
    by_cases hk0 : gk = 0
    · obtain rfl : N = i := by omega
      go_wp2_with fail
      go_ret
      exact ⟨⟨_, rfl, Nat.le_refl _, hbi⟩, hqi⟩
    · have hin : i < N := by omega
      have hin' : (i : Int) < (N : Int) := by omega
      have hi1 : (i : Int) + 1 ≤ 9223372036854775807 := by omega
      have hx : (strs (namesL N))[i]? = some (.string (strOf (termN (i + 1)))) := strs_get (namesL_get hin)
      have hqw : Below w.heap.size w wz := by rw [← KH.out]; exact hqi
      obtain ⟨A, rfl, hA, hcell⟩ := vals_at (KV.out.under hqw) hx
      obtain ⟨t, ht⟩ : ∃ t, ts[i]? = some t := ⟨_, List.getElem?_eq_getElem (by rw [← KN.out]; exact hin)⟩
      have htF := KT.out.terms.2 t (List.mem_of_getElem? ht)
      have htC := KT.out.terms.1.2 t (List.mem_of_getElem? ht)
      have hPx := partX_name (ts := ts) (i := i) (by rw [← KN.out]; exact hin) Kts.out
      rw [ht] at hPx
      obtain ⟨k, ll⟩ := t
      have CP := PartsE (k := k) (ll := ll) (KT.out.under hqw) (termN_bytes _) (termN_max (i + 1)) Kts.out hPx
      have KC : Kept _ := ⟨hcell⟩
      have KB : Kept _ := ⟨hbi⟩
      have KQ : Kept _ := ⟨hqi⟩
      have KP : Kept _ := ⟨CP⟩
      obtain ⟨T, hT⟩ : ∃ T, T = termN (i + 1) := ⟨_, rfl⟩
      rw [← hT] at KC KP
      have hi6 : i < 1000001 := by omega
      have KHz : Kept (Hs ≤ wz.heap.size) := ⟨by have := hqw.size; rw [KH.out]; exact this⟩
      by_cases hk2 : k = 2
      case neg =>
        have Bk : Kept (false = decide (k = 2)) := ⟨(decide_eq_false hk2).symm⟩
        have Kpub : Kept (pubR ts (i + 1) = pubR ts i) := ⟨pubR_not ht hk2⟩
        clear hx hcell hbi hqi hqw hT ht htF htC hPx CP hk2
        go_wp2_with (first | ((with_reducible refine wv_val (d := 17) ?hd ?hw (.pointer (some (A.add i))) ?hr ?_); (case hd => rfl); (case hw => kernel_rfl); (case hr => intro w; exact run_idxS (c := c) rfl (by kernel_rfl) (by kernel_rfl) Tryd.underlying29 hin Tryd.sizeOf9 w); simp only [Act.put, List.setIfInBounds_toArray, List.set_cons_succ, List.set_cons_zero]) | ((with_reducible refine wv_elem (d := 18) ?hd ?hw 9 ag_str (.tmp 17) ?ho (A.add i) ?hx (.string (strOf T)) ?hc ?_); (case hd => rfl); (case hw => kernel_rfl); (case ho => rfl); (case hx => kernel_rfl); (case hc => exact KC.out); simp only [Act.put, List.setIfInBounds_toArray, List.set_cons_succ, List.set_cons_zero]))
        refine KP.out.mono ?_
        rintro e w2 ⟨⟨V2, rfl, hV2⟩, q2⟩
        go_wp2_with (first | ((with_reducible refine wv_val (d := 27) ?hd ?hw (.bool false) ?hr ?_); (case hd => rfl); (case hw => kernel_rfl); (case hr => intro w; exact run_eqU8 2 rfl (by kernel_rfl) Bk.out w); simp only [Act.put, List.setIfInBounds_toArray, List.set_cons_succ, List.set_cons_zero]))
        go_roundg (gk - 1)
        case measure => omega
        case rel =>
          refine ⟨i + 1, by omega, by simp, ?_, KQ.out.trans (q2.mono KHz.out)⟩
          rw [Kpub.out]
          exact World.ownsMap.mono (MapI.under KB.out q2) (Nat.le_succ _)
      case pos =>
        subst hk2
        obtain ⟨y, rfl⟩ : ∃ y, ll = [y] := by
          rcases htF.2 with ⟨e, _⟩ | ⟨_, h⟩ | ⟨e, _⟩ | e | e <;> first | exact h | (cases e)
        have hyy : Bytes y := htF.1 y (by simp)
        have hyl : Kept (y.length ≤ maxLen) := ⟨by have := htC.2.1 y (by simp); unfold maxLen; omega⟩
        have Kpub : Kept _ := ⟨pubR_pub ht⟩
        obtain ⟨two, h22⟩ : ∃ k, k = 2 := ⟨_, rfl⟩
        rw [← h22] at KP
        have Bk : Kept (true = decide (two = 2)) := ⟨by rw [h22]; rfl⟩
        clear hx hcell hbi hqi hqw hT ht htF htC hPx CP hyy h22
        have hlt : 0 < 1 := by decide
        go_wp2_with (first | ((with_reducible refine wv_val (d := 17) ?hd ?hw (.pointer (some (A.add i))) ?hr ?_); (case hd => rfl); (case hw => kernel_rfl); (case hr => intro w; exact run_idxS (c := c) rfl (by kernel_rfl) (by kernel_rfl) Tryd.underlying29 hin Tryd.sizeOf9 w); simp only [Act.put, List.setIfInBounds_toArray, List.set_cons_succ, List.set_cons_zero]) | ((with_reducible refine wv_elem (d := 18) ?hd ?hw 9 ag_str (.tmp 17) ?ho (A.add i) ?hx (.string (strOf T)) ?hc ?_); (case hd => rfl); (case hw => kernel_rfl); (case ho => rfl); (case hx => kernel_rfl); (case hc => exact KC.out); simp only [Act.put, List.setIfInBounds_toArray, List.set_cons_succ, List.set_cons_zero]))
        refine KP.out.mono ?_
        rintro e w2 ⟨⟨V2, rfl, hV2⟩, q2⟩
        obtain ⟨p2, c2, rfl, _⟩ := vals_form (vrow_vals hV2) (show (strs [y]).length = 1 from rfl)
        obtain ⟨A2, rfl, hA2, hc2⟩ := vals_at (vrow_vals hV2) (show (strs [y])[0]? = some (.string (strOf y)) from rfl)
        have KC2 : Kept _ := ⟨hc2⟩
        have KB2 : Kept _ := ⟨MapI.under KB.out q2⟩
        have KQ2 : Kept _ := ⟨KQ.out.trans (q2.mono KHz.out)⟩
        have KHz2 : Kept _ := ⟨Nat.le_trans KHz.out q2.size⟩
        clear hV2 hc2 q2
        go_wp2_with (first | ((with_reducible refine wv_val (d := 27) ?hd ?hw (.bool true) ?hr ?_); (case hd => rfl); (case hw => kernel_rfl); (case hr => intro w; exact run_eqU8 2 rfl (by kernel_rfl) Bk.out w); simp only [Act.put, List.setIfInBounds_toArray, List.set_cons_succ, List.set_cons_zero]) | ((with_reducible refine wv_val (d := 30) ?hd ?hw (.pointer (some (A2.add 0))) ?hr ?_); (case hd => rfl); (case hw => kernel_rfl); (case hr => intro w; exact run_idxS (c := c2) (i := 0) (l := 1) rfl (by kernel_rfl) rfl Tryd.underlying29 hlt Tryd.sizeOf9 w); simp only [Act.put, List.setIfInBounds_toArray, List.set_cons_succ, List.set_cons_zero]) | ((with_reducible refine wv_elem (d := 31) ?hd ?hw 9 ag_str (.tmp 30) ?ho (A2.add 0) ?hx (.string (strOf y)) ?hc ?_); (case hd => rfl); (case hw => kernel_rfl); (case ho => rfl); (case hx => kernel_rfl); (case hc => exact KC2.out); simp only [Act.put, List.setIfInBounds_toArray, List.set_cons_succ, List.set_cons_zero]) | (at_mapUpdate; (refine wl_updI rfl (.tmp 28) (.tmp 31) (.tmp 32) rfl Hs _ _ (by kernel_rfl) KB2.out hi6 y (by kernel_rfl) hyl.out i (by kernel_rfl) hi6 ?_); intro w4 ho4 hg4 hs4; clear hs4; simp only [Act.put, List.setIfInBounds_toArray, List.set_cons_succ, List.set_cons_zero]))
        go_roundg (gk - 1)
        case measure => omega
        case rel =>
          refine ⟨i + 1, by omega, by simp, ?_, KQ2.out.trans (grown_mono hg4 KHz2.out (fun b hb => by cases hb; exact Nat.le_refl _))⟩
          rw [Kpub.out]
          exact ho4
end Go.Proofs.YtniogaimhkcedaaDoor.sh
