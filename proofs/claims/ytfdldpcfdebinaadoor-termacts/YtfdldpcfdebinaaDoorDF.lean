/-
  (*Table).name: what a table has behind it, and what it answers.
-/
import Derived.Test.YtfdldpcfdebinaaDoorDE
namespace Go.Proofs.YtfdldpcfdebinaaDoor.sh
open Go Go.RowKit Go.Maps
set_option linter.unusedVariables false
set_option linter.unusedSimpArgs false

theorem Turn.grown {M : Nat → Prop} {w w' : World} {r : Option Nat} (h : w.grownBy w' r) (hr : ∀ b, r = some b → M b) : Turn M w M w' :=
  ⟨⟨h.os, h.tape, h.output, h.size, fun k hk hM => h.block k hk (fun e => hM (hr k e.symm))⟩, fun b hb => .inl hb⟩
theorem Turn.swap {M M1 M' : Nat → Prop} {w w' : World} (h : Turn M w M1 w') (hM : ∀ b, M' b → M b ∨ w.heap.size ≤ b) : Turn M w M' w' := ⟨h.1, hM⟩
theorem kind_lt {t : TermL} (h : Formed t) : t.1 < 256 := by
  rcases h.2 with ⟨e, _⟩ | ⟨e, _⟩ | ⟨e, _⟩ | e | e <;> omega
/-- What a call of name, or of what stands on it, leaves. -/
def Puts (tb B : Nat) (ts : List TermL) (M : Nat → Prop) (w : World) (us : List TermL) (w' : World) : Prop := ∃ M', Tab tb B us M' w' ∧ Turn M w M' w'
theorem keys_len (ts : List TermL) : (strs (ts.map keyL)).length = ts.length := by rw [strs_len, List.length_map]
theorem one_new (J : List Nat) (w : World) : ValsV (.slice (some ⟨w.heap.size, 0, none⟩) 1 1) (w.alloc (.cells #[.string (strOf J)] 9)) [.string (strOf J)] := vrow_vals (vrow_lit (base := 0) w #[.string (strOf J)] 1 rfl (Nat.zero_le _) (by decide))
/-- The table with one term more, from its pieces. -/
theorem tab_more {tb B mb n : Nat} {p : Option Addr} {c : Nat} {V' : Value} {ts : List TermL} {t : TermL} {M : Nat → Prop} {w w1 w2 w3 w4 w5 : World} (hT : Terms ts) (ht : Formed t) (hF : Fits t.2) (hm : t ∉ ts) (q1 : Below w.heap.size w w1) (hA : TabAt tb B mb (.slice p n c) ts M w1) (hlt : ∀ b, M b → b < w.heap.size)
    (hr : VRow B 9 (strs (ts.map keyL) ++ [.string (strOf (keyL t))]) V' w2) (hg : (w1.alloc (.cells #[.string (strOf (keyL t))] 9)).grownBy w2 (blkOf (.slice p n c))) (hne : blkOf V' = blkOf (.slice p n c) ∨ blkOf V' = some (w1.alloc (.cells #[.string (strOf (keyL t))] 9)).heap.size)
    (hb : Blk w3 tb 53 #[.map (some mb), V']) (hp : Put w2 w3 tb) (ho : w4.ownsMap Tryd.prog 9 (plainElem (H := Unit) Tryd.prog 28) mb (ts.length + 1) ((numD ts).put (litL (keyL t)) (.lit (.int .u64 ((ts.length + 1 : Nat) : Int))))) (hg4 : w3.grownBy w4 (some mb)) (q5 : Below w4.heap.size w4 w5) : Puts tb B ts M w (putL ts t).1 w5 := by
  obtain ⟨a1, a2, a3, a4, a5, a6⟩ := hA
  have hs1 : (w1.alloc (.cells #[.string (strOf (keyL t))] 9)).heap.size = w1.heap.size + 1 := by simp
  have hM : ∀ b, blkOf (.slice p n c) = some b → M b := fun b h => (a6 b).2 (.inr (.inr h))
  have hmb : mb < w.heap.size := hlt mb ((a6 mb).2 (.inr (.inl rfl)))
  have htb : tb < w.heap.size := hlt tb ((a6 tb).2 (.inl rfl))
  have hsz := q1.size
  have n1 : blkOf V' ≠ some tb := fun h => by
    rcases hne with e | e
    · rw [e] at h; exact a5.1 h
    · rw [e, hs1] at h; simp at h; omega
  have n2 : blkOf V' ≠ some mb := fun h => by
    rcases hne with e | e
    · rw [e] at h; exact a5.2 h
    · rw [e, hs1] at h; simp at h; omega
  have hT3 : Turn M w M w4 := (((Turn.of_below q1).trans (Turn.of_below ((Below.refl _ _).alloc (Nat.le_refl _) _))).trans (Turn.grown hg hM)).trans ((Turn.grown hp.grown (fun b h => by cases h; exact (a6 _).2 (.inl rfl))).trans (Turn.grown hg4 (fun b h => by cases h; exact (a6 _).2 (.inr (.inl rfl)))))
  refine ⟨fun b => b = tb ∨ b = mb ∨ blkOf V' = some b, ⟨⟨mb, V', ?_, a2, ?_, ?_, ⟨n1, n2⟩, fun b => Iff.rfl⟩, putL_terms hT ht⟩, ?_⟩
  · exact Blk.under (blk_grown hg4 hb (by simpa using fun e => a2.2.2 e)) q5
  · rw [putL_new hF hm, numD_snoc, List.length_append]
    exact ho.kept (row := none) (grown_none q5) (by simp)
  · rw [putL_new hF hm, List.map_append, strs_append]
    exact ((hr.keeps hp.grown (.inr n1)).keeps hg4 (.inr n2)).under q5
  · refine (hT3.swap fun b h => ?_).trans (Turn.of_below q5)
    rcases h with h | h | h
    · exact .inl ((a6 b).2 (.inl h))
    · exact .inl ((a6 b).2 (.inr (.inl h)))
    · rcases hne with e | e
      · exact .inl ((a6 b).2 (.inr (.inr (e ▸ h))))
      · rw [e, hs1] at h; simp at h; exact .inr (by omega)

set_option maxRecDepth 100000 in
set_option maxHeartbeats 4000000 in
theorem nameD {tb B k : Nat} {ts : List TermL} {M : Nat → Prop} {ll : List (List Nat)} {V : Value} {w : World} (hT : Tab tb B ts M w) (hk : Formed (k, ll)) (hV : ValsV V w (strs ll)) (hl : ∀ l ∈ ll, l.length ≤ maxLen) (hn : ts.length < 1000000) :
    Calls Tryd.prog 33 #[.pointer (some ⟨tb, 0, none⟩), .int .u8 (k : Int), V] w fun e w' => e = .returned (.string (strOf (putL ts (k, ll)).2)) ∧ Puts tb B ts M w (putL ts (k, ll)).1 w' := by
  have hk8 : k < 256 := kind_lt hk
  obtain ⟨mb, v, hA⟩ := hT.at'
  have CM := madeD hA.1
  have CJ := JoinD hk8 hV (fun l h => ⟨hk.1 l h, hl l h⟩)
  obtain ⟨N, hN⟩ : ∃ N, N = (putL ts (k, ll)).2 := ⟨_, rfl⟩
  rw [← hN]
  obtain ⟨us, hus⟩ : ∃ us, us = (putL ts (k, ll)).1 := ⟨_, rfl⟩
  rw [← hus]
  have hV' := hV
  obtain ⟨pV, cV, rfl, _⟩ := vals_form hV' (strs_len ll)
  obtain ⟨nV, hnV⟩ : ∃ n, n = ll.length := ⟨_, rfl⟩
  rw [← hnV] at CJ ⊢
  clear hnV
  by_cases hF : Fits ll
  case neg =>
    rw [joinS_not hF, joinE_not hF] at CJ
    have hP := putL_not (ts := ts) (t := (k, ll)) hF
    rw [hP] at hN hus
    subst hN hus
    have KT : Kept _ := ⟨hT⟩
    have KCM : Kept _ := ⟨CM⟩
    have KCJ : Kept _ := ⟨CJ⟩
    clear hT CM CJ hA hP hV hV' hk hl hF
    go_enter Tryd.func33, Tryd.ntmps33
    go_wp2_with fail
    refine KCM.out.mono ?_
    rintro e w1 ⟨rfl, hw⟩
    obtain rfl := hw.symm
    go_wp2_with fail
    refine KCJ.out.mono ?_
    rintro e w1 ⟨rfl, q1⟩
    go_wp2_with fail
    go_ret
    exact ⟨rfl, M, KT.out.under q1, Turn.of_below q1⟩
  case pos =>
    rw [joinS_fits hF, joinE_fits hF] at CJ
    have hJL := join_lenB (k := k) hF
    have hG : GoodT (k, ll) := good_of hk hF
    have hhas := numD_has hT.terms hG
    have hgot := fun h => numD_at hT.terms (u := (k, ll)) h (.lit (.int .u64 0))
    have hlt : ∀ b, M b → b < w.heap.size := fun b h => (hT.range h).2
    have e1 : keyL (k, ll) = joinL k ll := rfl
    rw [e1] at hhas hgot
    obtain ⟨J, hJ⟩ : ∃ J, J = joinL k ll := ⟨_, rfl⟩
    rw [← hJ] at CJ hJL hhas hgot
    have KJ : Kept _ := ⟨hJ⟩
    have KJL : Kept _ := ⟨hJL⟩
    have KCM : Kept _ := ⟨CM⟩
    have KCJ : Kept _ := ⟨CJ⟩
    have KT : Kept _ := ⟨hT⟩
    have KLT : Kept _ := ⟨hlt⟩
    have KF : Kept _ := ⟨hF⟩
    have KK : Kept _ := ⟨hk⟩
    by_cases hm : (k, ll) ∈ ts
    case pos =>
      rw [decide_eq_true hm] at hhas
      have hgot' := hgot hm
      obtain ⟨c, hc⟩ : ∃ c, c = ts.idxOf (k, ll) + 1 := ⟨_, rfl⟩
      have hcl : c < 18446744073709551616 := by have := List.idxOf_lt_length_of_mem hm; omega
      have CN := fun w1 : World => nameOfD (w := w1) hcl
      have hP := putL_old (ts := ts) (t := (k, ll)) hF hm
      rw [hP] at hN hus
      rw [← hc] at hN hgot'
      have hN' : N = termN c := hN
      subst hus
      rw [← hN'] at CN
      have KH : Kept _ := ⟨hhas⟩
      have KG : Kept _ := ⟨hgot'⟩
      have KCN : Kept _ := ⟨CN⟩
      have KA : Kept _ := ⟨hA⟩
      clear hT CM CJ hA hP hV hV' hk hl hF hm hgot hgot' hhas CN hN hN' hc hJ hJL hlt hG e1 hcl
      go_enter Tryd.func33, Tryd.ntmps33
      go_wp2_with fail
      refine KCM.out.mono ?_
      rintro e w1 ⟨rfl, hw⟩
      obtain rfl := hw.symm
      go_wp2_with fail
      refine KCJ.out.mono ?_
      rintro e w1 ⟨rfl, q1⟩
      have A1 := KA.out.under q1
      have c0 : Kept (w1.cell? ⟨tb, 0, none⟩ = some (.map (some mb))) := ⟨A1.1.cell rfl⟩
      have KO : Kept _ := ⟨A1.2.2.1⟩
      clear A1
      go_wp2_with (first | ((with_reducible refine wv_elem (d := 26) ?hd ?hw 51 ag_map (.tmp 25) ?ho (⟨tb, 0, none⟩) ?hx (.map (some mb)) ?hc ?_); (case hd => rfl); (case hw => kernel_rfl); (case ho => rfl); (case hx => kernel_rfl); (case hc => exact c0.out); simp only [Act.put, List.setIfInBounds_toArray, List.set_cons_succ, List.set_cons_zero]) | (at_lookup; refine wl_lookT rfl (.tmp 26) (.tmp 27) rfl mb _ _ (by kernel_rfl) KO.out J (by kernel_rfl) KJL.out c true KH.out KG.out ?_; simp only [Act.put, List.setIfInBounds_toArray, List.set_cons_succ, List.set_cons_zero]))
      refine (KCN.out w1).mono ?_
      rintro e w2 ⟨rfl, q2⟩
      replace q2 := q1.trans (q2.mono q1.size)
      go_wp2_with fail
      go_ret
      exact ⟨rfl, M, KT.out.under q2, Turn.of_below q2⟩
    case neg =>
      rw [decide_eq_false hm] at hhas
      have hgot' := atKey_of_not_has hhas (.lit (.int .u64 0))
      obtain ⟨m, hmm⟩ : ∃ m, m = ts.length := ⟨_, rfl⟩
      obtain ⟨c, hc⟩ : ∃ c, c = m + 1 := ⟨_, rfl⟩
      have hcl : c < 18446744073709551616 := by omega
      have CN := fun w1 : World => nameOfD (w := w1) hcl
      have hP := putL_new (ts := ts) (t := (k, ll)) hF hm
      rw [hP] at hN
      have hN' : N = termN c := by rw [hN, hc, hmm]
      rw [← hN'] at CN
      have hA' := hA
      obtain ⟨_, _, _, hr0, _⟩ := hA'
      obtain ⟨p, cc, rfl, hcc⟩ := vals_form (vrow_vals hr0) (keys_len ts)
      rw [← hmm] at hA hcc
      have KH : Kept _ := ⟨hhas⟩
      have KG : Kept (_ = DataW.lit (.int .u64 ((0 : Nat) : Int))) := ⟨hgot'⟩
      have KCN : Kept _ := ⟨CN⟩
      have KA : Kept _ := ⟨hA⟩
      have KM : Kept _ := ⟨hm⟩
      have Kmm : Kept _ := ⟨hmm⟩
      have Kc : Kept _ := ⟨hc⟩
      have Kus : Kept _ := ⟨hus⟩
      have hc6 : c < 1000001 := by omega
      have hcI : c < 4611686018427387904 := by omega
      have hm6 : m < 1000001 := by omega
      have Kap : Kept ((strs (ts.map keyL)).length + ([Value.string (strOf J)] : List Value).length ≤ 1099511627776) := ⟨by rw [keys_len, ← hmm]; simp; omega⟩
      have Kap2 : Kept ((strs (ts.map keyL) ++ [Value.string (strOf J)]).length = c) := ⟨by rw [List.length_append, keys_len, ← hmm, hc]; rfl⟩
      have K1c : Kept (∀ x ∈ ([Value.string (strOf J)] : List Value), x.oneCell' = true) := ⟨fun x hx => by simp at hx; subst hx; rfl⟩
      have hB : Kept (B ≤ w.heap.size) := ⟨by have := hA.2.1.1; have := hlt tb ((hA.2.2.2.2.2 tb).2 (.inl rfl)); omega⟩
      clear hT CM CJ hA hP hV hV' hk hl hF hm hgot hgot' hhas CN hN hN' hJ hJL hlt hG e1 hr0 hus hmm hc
      go_enter Tryd.func33, Tryd.ntmps33
      go_wp2_with fail
      refine KCM.out.mono ?_
      rintro e w1 ⟨rfl, hw⟩
      obtain rfl := hw.symm
      go_wp2_with fail
      refine KCJ.out.mono ?_
      rintro e w1 ⟨rfl, q1⟩
      have A1 := KA.out.under q1
      have c0 : Kept (w1.cell? ⟨tb, 0, none⟩ = some (.map (some mb))) := ⟨A1.1.cell rfl⟩
      have c1 : Kept (w1.cell? ⟨tb, 1, none⟩ = some (.slice p m cc)) := ⟨A1.1.cell rfl⟩
      have KO : Kept _ := ⟨A1.2.2.1⟩
      have KR : Kept _ := ⟨A1.2.2.2.1⟩
      have KA1 : Kept _ := ⟨A1⟩
      have hB1 : Kept (B ≤ (w1.alloc (.cells #[.string (strOf J)] 9)).heap.size) := ⟨by have := hB.out; have := q1.size; simp; omega⟩
      clear A1
      go_wp2_with (first | ((with_reducible refine wv_elem (d := 26) ?hd ?hw 51 ag_map (.tmp 25) ?ho (⟨tb, 0, none⟩) ?hx (.map (some mb)) ?hc ?_); (case hd => rfl); (case hw => kernel_rfl); (case ho => rfl); (case hx => kernel_rfl); (case hc => exact c0.out); simp only [Act.put, List.setIfInBounds_toArray, List.set_cons_succ, List.set_cons_zero]) | (at_lookup; refine wl_lookT rfl (.tmp 26) (.tmp 27) rfl mb _ _ (by kernel_rfl) KO.out J (by kernel_rfl) KJL.out 0 false KH.out KG.out ?_; simp only [Act.put, List.setIfInBounds_toArray, List.set_cons_succ, List.set_cons_zero]) | ((with_reducible refine wv_elem (d := 37) ?hd ?hw 35 ag_strs (.tmp 36) ?ho (⟨tb, 1, none⟩) ?hx (.slice p m cc) ?hc ?_); (case hd => rfl); (case hw => kernel_rfl); (case ho => rfl); (case hx => kernel_rfl); (case hc => exact c1.out); simp only [Act.put, List.setIfInBounds_toArray, List.set_cons_succ, List.set_cons_zero]) | (refine wl_build1S rfl (.tmp 38) rfl J (by kernel_rfl) ?_; simp only [Act.put, List.setIfInBounds_toArray, List.set_cons_succ, List.set_cons_zero]) | ((refine wl_appV (by kernel_rfl) (.tmp 37) (.tmp 39) 35 9 (.string .empty) 16 rfl Tryd.underlying35 inf_str rfl (by decide) B _ [.string (strOf J)] _ _ (by kernel_rfl) (by kernel_rfl) (KR.out.alloc _) (one_new J w1) K1c.out Kap.out hB1.out ?_); intro v' w2 hr' hg' hne'; obtain ⟨p2, c2, rfl, hc2⟩ := vals_form (vrow_vals hr') Kap2.out; have hbT := KA1.out.1.alloc (.cells #[.string (strOf J)] 9); have hbT2 := blk_grown hg' hbT (fun e => KA1.out.2.2.2.2.1.1 e.symm); simp only [Act.put, List.setIfInBounds_toArray, List.set_cons_succ, List.set_cons_zero]) | ((refine wl_set1 rfl 35 sz_strs (.tmp 42) (.tmp 40) rfl tb 1 (.slice p2 c c2) (by kernel_rfl) (by kernel_rfl) rfl _ hbT2 (by simp) ?_); intro w3 hb3 hp3; have ho3 := ((KO.out.alloc (.cells #[.string (strOf J)] 9)).kept hg' (fun e => KA1.out.2.2.2.2.1.2 e.symm)).kept hp3.grown (fun e => KA1.out.2.1.2.2 (by simpa using e.symm)); simp only [Act.put, List.setIfInBounds_toArray, List.set_cons_succ, List.set_cons_zero]) | ((with_reducible refine wv_elem (d := 46) ?hd ?hw 35 ag_strs (.tmp 45) ?ho (⟨tb, 1, none⟩) ?hx (.slice p2 c c2) ?hc ?_); (case hd => rfl); (case hw => kernel_rfl); (case ho => rfl); (case hx => kernel_rfl); (case hc => exact (hb3.cell rfl)); simp only [Act.put, List.setIfInBounds_toArray, List.set_cons_succ, List.set_cons_zero]) | ((with_reducible refine wv_val (d := 48) ?hd ?hw (.int .u64 (c : Int)) ?hr ?_); (case hd => rfl); (case hw => kernel_rfl); (case hr => intro w; exact run_c3U rfl (by kernel_rfl) hcI w); simp only [Act.put, List.setIfInBounds_toArray, List.set_cons_succ, List.set_cons_zero]) | ((with_reducible refine wv_elem (d := 52) ?hd ?hw 51 ag_map (.tmp 51) ?ho (⟨tb, 0, none⟩) ?hx (.map (some mb)) ?hc ?_); (case hd => rfl); (case hw => kernel_rfl); (case ho => rfl); (case hx => kernel_rfl); (case hc => exact (hb3.cell rfl)); simp only [Act.put, List.setIfInBounds_toArray, List.set_cons_succ, List.set_cons_zero]) | (at_mapUpdate; (refine wl_updT rfl (.tmp 52) (.tmp 53) (.tmp 54) rfl mb _ _ (by kernel_rfl) ho3 (by rw [← Kmm.out]; exact hm6) J (by kernel_rfl) KJL.out c (by kernel_rfl) hc6 ?_); intro w4 ho4 hg4 hs4; simp only [Act.put, List.setIfInBounds_toArray, List.set_cons_succ, List.set_cons_zero]))
      refine (KCN.out w4).mono ?_
      rintro e w5 ⟨rfl, q5⟩
      go_wp2_with fail
      go_ret
      refine ⟨rfl, ?_⟩
      rw [Kus.out]
      refine tab_more KT.out.terms KK.out KF.out KM.out q1 KA1.out KLT.out (V' := .slice p2 c c2) (w2 := w2) (w3 := w3) (w4 := w4) ?_ ?_ ?_ hb3 hp3 ?_ hg4 q5
      · rw [show keyL (k, ll) = J from KJ.out.symm]; exact hr'
      · rw [show keyL (k, ll) = J from KJ.out.symm]; exact hg'
      · rw [show keyL (k, ll) = J from KJ.out.symm]; exact hne'
      · rw [show keyL (k, ll) = J from KJ.out.symm]
        rw [show c = ts.length + 1 by rw [Kc.out, Kmm.out]] at ho4
        exact ho4
end Go.Proofs.YtfdldpcfdebinaaDoor.sh
