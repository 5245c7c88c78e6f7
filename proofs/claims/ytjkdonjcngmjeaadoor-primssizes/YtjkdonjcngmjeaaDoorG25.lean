/-
  General pieces, joined: DF DG DH DI DJ DK DL XV DM DN.
-/
import Derived.Test.YtjkdonjcngmjeaaDoorG24
/-
  (*Table).name: what a table has behind it, and what it answers.
-/
namespace Go.Proofs.YtjkdonjcngmjeaaDoor.sh
open Go Go.RowKit Go.Maps
set_option linter.unusedVariables false
set_option linter.unusedSimpArgs false

theorem Turn.grown {M : Nat → Prop} {w w' : World} {r : Option Nat} (h : w.grownBy w' r) (hr : ∀ b, r = some b → M b) : Turn M w M w' :=
  ⟨⟨h.os, h.tape, h.output, h.size, fun k hk hM => h.block k hk (fun e => hM (hr k e.symm))⟩, fun b hb => .inl hb⟩
theorem Turn.swap {M M1 M' : Nat → Prop} {w w' : World} (h : Turn M w M1 w') (hM : ∀ b, M' b → M b ∨ w.heap.size ≤ b) : Turn M w M' w' := ⟨h.1, hM⟩
theorem kind_lt {t : TermL} (h : Formed t) : t.1 < 256 := by
  rcases h.2 with ⟨e, _⟩ | ⟨e, _⟩ | ⟨e, _⟩ | e | e <;> omega
/-- What a call of name, or of what stands on it, leaves. -/
def Puts (tb B : Nat) (ts : List TermL) (M : Nat → Prop) (w : World) (us : List TermL) (w' : World) : Prop := ∃ M', Tab tb B us M' w' ∧ Turn M w M' w'
theorem keys_len (ts : List TermL) : (strs (ts.map keyL)).length = ts.length := by rw [strs_len, List.length_map]
theorem one_new (J : List Nat) (w : World) : ValsV (.slice (some ⟨w.heap.size, 0, none⟩) 1 1) (w.alloc (.cells #[.string (strOf J)] 9)) [.string (strOf J)] := vrow_vals (vrow_lit (base := 0) w #[.string (strOf J)] 1 rfl (Nat.zero_le _) (by decide))
/-- The table with one term more, from its pieces. -/
theorem tab_more {tb B mb n : Nat} {p : Option Addr} {c : Nat} {V' : Value} {ts : List TermL} {t : TermL} {M : Nat → Prop} {w w1 w2 w3 w4 w5 : World} (hT : Terms ts) (ht : Formed t) (hF : Fits t.2) (hm : t ∉ ts) (q1 : Below w.heap.size w w1) (hA : TabAt tb B mb (.slice p n c) ts M w1) (hlt : ∀ b, M b → b < w.heap.size)
    (hr : VRow B 9 (strs (ts.map keyL) ++ [.string (strOf (keyL t))]) V' w2) (hg : (w1.alloc (.cells #[.string (strOf (keyL t))] 9)).grownBy w2 (blkOf (.slice p n c))) (hne : blkOf V' = blkOf (.slice p n c) ∨ blkOf V' = some (w1.alloc (.cells #[.string (strOf (keyL t))] 9)).heap.size)
    (hb : Blk w3 tb 44 #[.map (some mb), V']) (hp : Put w2 w3 tb) (ho : w4.ownsMap Tryd.prog 9 (plainElem (H := Unit) Tryd.prog 49) mb (ts.length + 1) ((numD ts).put (litL (keyL t)) (.lit (.int .u64 ((ts.length + 1 : Nat) : Int))))) (hg4 : w3.grownBy w4 (some mb)) (q5 : Below w4.heap.size w4 w5) : Puts tb B ts M w (putL ts t).1 w5 := by
  obtain ⟨a1, a2, a3, a4, a5, a6⟩ := hA
  have hs1 : (w1.alloc (.cells #[.string (strOf (keyL t))] 9)).heap.size = w1.heap.size + 1 := by simp
  have hM : ∀ b, blkOf (.slice p n c) = some b → M b := fun b h => (a6 b).2 (.inr (.inr h))
  have hmb : mb < w.heap.size := hlt mb ((a6 mb).2 (.inr (.inl rfl)))
  have htb : tb < w.heap.size := hlt tb ((a6 tb).2 (.inl rfl))
  have hsz := q1.size
  have n1 : blkOf V' ≠ some tb := fun h => by
    rcases hne with e | e
    · rw [e] at h; exact a5.1 h
    · rw [e, hs1] at h; simp at h; omega
  have n2 : blkOf V' ≠ some mb := fun h => by
    rcases hne with e | e
    · rw [e] at h; exact a5.2 h
    · rw [e, hs1] at h; simp at h; omega
  have hT3 : Turn M w M w4 := (((Turn.of_below q1).trans (Turn.of_below ((Below.refl _ _).alloc (Nat.le_refl _) _))).trans (Turn.grown hg hM)).trans ((Turn.grown hp.grown (fun b h => by cases h; exact (a6 _).2 (.inl rfl))).trans (Turn.grown hg4 (fun b h => by cases h; exact (a6 _).2 (.inr (.inl rfl)))))
  refine ⟨fun b => b = tb ∨ b = mb ∨ blkOf V' = some b, ⟨⟨mb, V', ?_, a2, ?_, ?_, ⟨n1, n2⟩, fun b => Iff.rfl⟩, putL_terms hT ht⟩, ?_⟩
  · exact Blk.under (blk_grown hg4 hb (by simpa using fun e => a2.2.2 e)) q5
  · rw [putL_new hF hm, numD_snoc, List.length_append]
    exact ho.kept (row := none) (grown_none q5) (by simp)
  · rw [putL_new hF hm, List.map_append, strs_append]
    exact ((hr.keeps hp.grown (.inr n1)).keeps hg4 (.inr n2)).under q5
  · refine (hT3.swap fun b h => ?_).trans (Turn.of_below q5)
    rcases h with h | h | h
    · exact .inl ((a6 b).2 (.inl h))
    · exact .inl ((a6 b).2 (.inr (.inl h)))
    · rcases hne with e | e
      · exact .inl ((a6 b).2 (.inr (.inr (e ▸ h))))
      · rw [e, hs1] at h; simp at h; exact .inr (by omega)

set_option maxRecDepth 100000 in
set_option maxHeartbeats 4000000 in
theorem nameD {tb B k : Nat} {ts : List TermL} {M : Nat → Prop} {ll : List (List Nat)} {V : Value} {w : World} (hT : Tab tb B ts M w) (hk : Formed (k, ll)) (hV : ValsV V w (strs ll)) (hl : ∀ l ∈ ll, l.length ≤ maxLen) (hn : ts.length < 1000000) :
    Calls Tryd.prog 40 #[.pointer (some ⟨tb, 0, none⟩), .int .u8 (k : Int), V] w fun e w' => e = .returned (.string (strOf (putL ts (k, ll)).2)) ∧ Puts tb B ts M w (putL ts (k, ll)).1 w' := by
  have hk8 : k < 256 := kind_lt hk
  obtain ⟨mb, v, hA⟩ := hT.at'
  have CM := madeD hA.1
  have CJ := JoinD hk8 hV (fun l h => ⟨hk.1 l h, hl l h⟩)
  obtain ⟨N, hN⟩ : ∃ N, N = (putL ts (k, ll)).2 := ⟨_, rfl⟩
  rw [← hN]
  obtain ⟨us, hus⟩ : ∃ us, us = (putL ts (k, ll)).1 := ⟨_, rfl⟩
  rw [← hus]
  have hV' := hV
  obtain ⟨pV, cV, rfl, _⟩ := vals_form hV' (strs_len ll)
  obtain ⟨nV, hnV⟩ : ∃ n, n = ll.length := ⟨_, rfl⟩
  rw [← hnV] at CJ ⊢
  clear hnV
  by_cases hF : Fits ll
  case neg =>
    rw [joinS_not hF, joinE_not hF] at CJ
    have hP := putL_not (ts := ts) (t := (k, ll)) hF
    rw [hP] at hN hus
    subst hN hus
    have KT : Kept _ := ⟨hT⟩
    have KCM : Kept _ := ⟨CM⟩
    have KCJ : Kept _ := ⟨CJ⟩
    clear hT CM CJ hA hP hV hV' hk hl hF
    go_enter Tryd.func40, Tryd.ntmps40
    go_wp2_with fail
    refine KCM.out.mono ?_
    rintro e w1 ⟨rfl, hw⟩
    obtain rfl := hw.symm
    go_wp2_with fail
    refine KCJ.out.mono ?_
    rintro e w1 ⟨rfl, q1⟩
    go_wp2_with fail
    go_ret
    exact ⟨rfl, M, KT.out.under q1, Turn.of_below q1⟩
  case pos =>
    rw [joinS_fits hF, joinE_fits hF] at CJ
    have hJL := join_lenB (k := k) hF
    have hG : GoodT (k, ll) := good_of hk hF
    have hhas := numD_has hT.terms hG
    have hgot := fun h => numD_at hT.terms (u := (k, ll)) h (.lit (.int .u64 0))
    have hlt : ∀ b, M b → b < w.heap.size := fun b h => (hT.range h).2
    have e1 : keyL (k, ll) = joinL k ll := rfl
    rw [e1] at hhas hgot
    obtain ⟨J, hJ⟩ : ∃ J, J = joinL k ll := ⟨_, rfl⟩
    rw [← hJ] at CJ hJL hhas hgot
    have KJ : Kept _ := ⟨hJ⟩
    have KJL : Kept _ := ⟨hJL⟩
    have KCM : Kept _ := ⟨CM⟩
    have KCJ : Kept _ := ⟨CJ⟩
    have KT : Kept _ := ⟨hT⟩
    have KLT : Kept _ := ⟨hlt⟩
    have KF : Kept _ := ⟨hF⟩
    have KK : Kept _ := ⟨hk⟩
    by_cases hm : (k, ll) ∈ ts
    case pos =>
      rw [decide_eq_true hm] at hhas
      have hgot' := hgot hm
      obtain ⟨c, hc⟩ : ∃ c, c = ts.idxOf (k, ll) + 1 := ⟨_, rfl⟩
      have hcl : c < 18446744073709551616 := by have := List.idxOf_lt_length_of_mem hm; omega
      have CN := fun w1 : World => nameOfD (w := w1) hcl
      have hP := putL_old (ts := ts) (t := (k, ll)) hF hm
      rw [hP] at hN hus
      rw [← hc] at hN hgot'
      have hN' : N = termN c := hN
      subst hus
      rw [← hN'] at CN
      have KH : Kept _ := ⟨hhas⟩
      have KG : Kept _ := ⟨hgot'⟩
      have KCN : Kept _ := ⟨CN⟩
      have KA : Kept _ := ⟨hA⟩
      clear hT CM CJ hA hP hV hV' hk hl hF hm hgot hgot' hhas CN hN hN' hc hJ hJL hlt hG e1 hcl
      go_enter Tryd.func40, Tryd.ntmps40
      go_wp2_with fail
      refine KCM.out.mono ?_
      rintro e w1 ⟨rfl, hw⟩
      obtain rfl := hw.symm
      go_wp2_with fail
      refine KCJ.out.mono ?_
      rintro e w1 ⟨rfl, q1⟩
      have A1 := KA.out.under q1
      have c0 : Kept (w1.cell? ⟨tb, 0, none⟩ = some (.map (some mb))) := ⟨A1.1.cell rfl⟩
      have KO : Kept _ := ⟨A1.2.2.1⟩
      clear A1
      go_wp2_with (first | ((with_reducible refine wv_elem (d := 26) ?hd ?hw 42 ag_map (.tmp 25) ?ho (⟨tb, 0, none⟩) ?hx (.map (some mb)) ?hc ?_); (case hd => rfl); (case hw => kernel_rfl); (case ho => rfl); (case hx => kernel_rfl); (case hc => exact c0.out); simp only [Act.put, List.setIfInBounds_toArray, List.set_cons_succ, List.set_cons_zero]) | (at_lookup; refine wl_lookT rfl (.tmp 26) (.tmp 27) rfl mb _ _ (by kernel_rfl) KO.out J (by kernel_rfl) KJL.out c true KH.out KG.out ?_; simp only [Act.put, List.setIfInBounds_toArray, List.set_cons_succ, List.set_cons_zero]))
      refine (KCN.out w1).mono ?_
      rintro e w2 ⟨rfl, q2⟩
      replace q2 := q1.trans (q2.mono q1.size)
      go_wp2_with fail
      go_ret
      exact ⟨rfl, M, KT.out.under q2, Turn.of_below q2⟩
    case neg =>
      rw [decide_eq_false hm] at hhas
      have hgot' := atKey_of_not_has hhas (.lit (.int .u64 0))
      obtain ⟨m, hmm⟩ : ∃ m, m = ts.length := ⟨_, rfl⟩
      obtain ⟨c, hc⟩ : ∃ c, c = m + 1 := ⟨_, rfl⟩
      have hcl : c < 18446744073709551616 := by omega
      have CN := fun w1 : World => nameOfD (w := w1) hcl
      have hP := putL_new (ts := ts) (t := (k, ll)) hF hm
      rw [hP] at hN
      have hN' : N = termN c := by rw [hN, hc, hmm]
      rw [← hN'] at CN
      have hA' := hA
      obtain ⟨_, _, _, hr0, _⟩ := hA'
      obtain ⟨p, cc, rfl, hcc⟩ := vals_form (vrow_vals hr0) (keys_len ts)
      rw [← hmm] at hA hcc
      have KH : Kept _ := ⟨hhas⟩
      have KG : Kept (_ = DataW.lit (.int .u64 ((0 : Nat) : Int))) := ⟨hgot'⟩
      have KCN : Kept _ := ⟨CN⟩
      have KA : Kept _ := ⟨hA⟩
      have KM : Kept _ := ⟨hm⟩
      have Kmm : Kept _ := ⟨hmm⟩
      have Kc : Kept _ := ⟨hc⟩
      have Kus : Kept _ := ⟨hus⟩
      have hc6 : c < 1000001 := by omega
      have hcI : c < 4611686018427387904 := by omega
      have hm6 : m < 1000001 := by omega
      have Kap : Kept ((strs (ts.map keyL)).length + ([Value.string (strOf J)] : List Value).length ≤ 1099511627776) := ⟨by rw [keys_len, ← hmm]; simp; omega⟩
      have Kap2 : Kept ((strs (ts.map keyL) ++ [Value.string (strOf J)]).length = c) := ⟨by rw [List.length_append, keys_len, ← hmm, hc]; rfl⟩
      have K1c : Kept (∀ x ∈ ([Value.string (strOf J)] : List Value), x.oneCell' = true) := ⟨fun x hx => by simp at hx; subst hx; rfl⟩
      have hB : Kept (B ≤ w.heap.size) := ⟨by have := hA.2.1.1; have := hlt tb ((hA.2.2.2.2.2 tb).2 (.inl rfl)); omega⟩
      clear hT CM CJ hA hP hV hV' hk hl hF hm hgot hgot' hhas CN hN hN' hJ hJL hlt hG e1 hr0 hus hmm hc
      go_enter Tryd.func40, Tryd.ntmps40
      go_wp2_with fail
      refine KCM.out.mono ?_
      rintro e w1 ⟨rfl, hw⟩
      obtain rfl := hw.symm
      go_wp2_with fail
      refine KCJ.out.mono ?_
      rintro e w1 ⟨rfl, q1⟩
      have A1 := KA.out.under q1
      have c0 : Kept (w1.cell? ⟨tb, 0, none⟩ = some (.map (some mb))) := ⟨A1.1.cell rfl⟩
      have c1 : Kept (w1.cell? ⟨tb, 1, none⟩ = some (.slice p m cc)) := ⟨A1.1.cell rfl⟩
      have KO : Kept _ := ⟨A1.2.2.1⟩
      have KR : Kept _ := ⟨A1.2.2.2.1⟩
      have KA1 : Kept _ := ⟨A1⟩
      have hB1 : Kept (B ≤ (w1.alloc (.cells #[.string (strOf J)] 9)).heap.size) := ⟨by have := hB.out; have := q1.size; simp; omega⟩
      clear A1
      go_wp2_with (first | ((with_reducible refine wv_elem (d := 26) ?hd ?hw 42 ag_map (.tmp 25) ?ho (⟨tb, 0, none⟩) ?hx (.map (some mb)) ?hc ?_); (case hd => rfl); (case hw => kernel_rfl); (case ho => rfl); (case hx => kernel_rfl); (case hc => exact c0.out); simp only [Act.put, List.setIfInBounds_toArray, List.set_cons_succ, List.set_cons_zero]) | (at_lookup; refine wl_lookT rfl (.tmp 26) (.tmp 27) rfl mb _ _ (by kernel_rfl) KO.out J (by kernel_rfl) KJL.out 0 false KH.out KG.out ?_; simp only [Act.put, List.setIfInBounds_toArray, List.set_cons_succ, List.set_cons_zero]) | ((with_reducible refine wv_elem (d := 37) ?hd ?hw 34 ag_strs (.tmp 36) ?ho (⟨tb, 1, none⟩) ?hx (.slice p m cc) ?hc ?_); (case hd => rfl); (case hw => kernel_rfl); (case ho => rfl); (case hx => kernel_rfl); (case hc => exact c1.out); simp only [Act.put, List.setIfInBounds_toArray, List.set_cons_succ, List.set_cons_zero]) | (refine wl_build1S rfl (.tmp 38) rfl J (by kernel_rfl) ?_; simp only [Act.put, List.setIfInBounds_toArray, List.set_cons_succ, List.set_cons_zero]) | ((refine wl_appV (by kernel_rfl) (.tmp 37) (.tmp 39) 34 9 (.string .empty) 16 rfl Tryd.underlying34 inf_str rfl (by decide) B _ [.string (strOf J)] _ _ (by kernel_rfl) (by kernel_rfl) (KR.out.alloc _) (one_new J w1) K1c.out Kap.out hB1.out ?_); intro v' w2 hr' hg' hne'; obtain ⟨p2, c2, rfl, hc2⟩ := vals_form (vrow_vals hr') Kap2.out; have hbT := KA1.out.1.alloc (.cells #[.string (strOf J)] 9); have hbT2 := blk_grown hg' hbT (fun e => KA1.out.2.2.2.2.1.1 e.symm); simp only [Act.put, List.setIfInBounds_toArray, List.set_cons_succ, List.set_cons_zero]) | ((refine wl_set1 rfl 34 sz_strs (.tmp 42) (.tmp 40) rfl tb 1 (.slice p2 c c2) (by kernel_rfl) (by kernel_rfl) rfl _ hbT2 (by simp) ?_); intro w3 hb3 hp3; have ho3 := ((KO.out.alloc (.cells #[.string (strOf J)] 9)).kept hg' (fun e => KA1.out.2.2.2.2.1.2 e.symm)).kept hp3.grown (fun e => KA1.out.2.1.2.2 (by simpa using e.symm)); simp only [Act.put, List.setIfInBounds_toArray, List.set_cons_succ, List.set_cons_zero]) | ((with_reducible refine wv_elem (d := 46) ?hd ?hw 34 ag_strs (.tmp 45) ?ho (⟨tb, 1, none⟩) ?hx (.slice p2 c c2) ?hc ?_); (case hd => rfl); (case hw => kernel_rfl); (case ho => rfl); (case hx => kernel_rfl); (case hc => exact (hb3.cell rfl)); simp only [Act.put, List.setIfInBounds_toArray, List.set_cons_succ, List.set_cons_zero]) | ((with_reducible refine wv_val (d := 48) ?hd ?hw (.int .u64 (c : Int)) ?hr ?_); (case hd => rfl); (case hw => kernel_rfl); (case hr => intro w; exact run_c3U rfl (by kernel_rfl) hcI w); simp only [Act.put, List.setIfInBounds_toArray, List.set_cons_succ, List.set_cons_zero]) | ((with_reducible refine wv_elem (d := 52) ?hd ?hw 42 ag_map (.tmp 51) ?ho (⟨tb, 0, none⟩) ?hx (.map (some mb)) ?hc ?_); (case hd => rfl); (case hw => kernel_rfl); (case ho => rfl); (case hx => kernel_rfl); (case hc => exact (hb3.cell rfl)); simp only [Act.put, List.setIfInBounds_toArray, List.set_cons_succ, List.set_cons_zero]) | (at_mapUpdate; (refine wl_updT rfl (.tmp 52) (.tmp 53) (.tmp 54) rfl mb _ _ (by kernel_rfl) ho3 (by rw [← Kmm.out]; exact hm6) J (by kernel_rfl) KJL.out c (by kernel_rfl) hc6 ?_); intro w4 ho4 hg4 hs4; simp only [Act.put, List.setIfInBounds_toArray, List.set_cons_succ, List.set_cons_zero]))
      refine (KCN.out w4).mono ?_
      rintro e w5 ⟨rfl, q5⟩
      go_wp2_with fail
      go_ret
      refine ⟨rfl, ?_⟩
      rw [Kus.out]
      refine tab_more KT.out.terms KK.out KF.out KM.out q1 KA1.out KLT.out (V' := .slice p2 c c2) (w2 := w2) (w3 := w3) (w4 := w4) ?_ ?_ ?_ hb3 hp3 ?_ hg4 q5
      · rw [show keyL (k, ll) = J from KJ.out.symm]; exact hr'
      · rw [show keyL (k, ll) = J from KJ.out.symm]; exact hg'
      · rw [show keyL (k, ll) = J from KJ.out.symm]; exact hne'
      · rw [show keyL (k, ll) = J from KJ.out.symm]
        rw [show c = ts.length + 1 by rw [Kc.out, Kmm.out]] at ho4
        exact ho4
end Go.Proofs.YtjkdonjcngmjeaaDoor.sh
/-
  What a table answers: Atom, Pub, Hash, Seal, Parts; of a table that no call made, nothing.
-/
namespace Go.Proofs.YtjkdonjcngmjeaaDoor.sh
open Go Go.RowKit Go.Maps
set_option linter.unusedVariables false
set_option linter.unusedSimpArgs false

section
variable {ops : Array Oper} {rest : List Oper} {o : Oper} {a : Act} {w : World} {Q : Exit → Act → World → Prop}
theorem run_bs1 (s0 : List Nat) (w : World) : (Instr.buildSlice 34 1 #[(0, .string (strOf s0))]).run Tryd.prog w = .ok (.slice (some ⟨w.heap.size, 0, none⟩) 1 1) (w.alloc (.cells #[.string (strOf s0)] 9)) := by kernel_rfl
/-- A slice of 1 texts is built. -/
theorem wl_bs1 (hw : Region.wanted o (yielded ops a.tmps) = true) (x0 : Operand) (ho : o.op = .buildSlice 34 1 #[(0, x0)]) (s0 : List Nat) (h0 : a.eval x0 = .string (strOf s0))
    (h : wpList Tryd.prog ops Q rest (a.put o.dst (.slice (some ⟨w.heap.size, 0, none⟩) 1 1)) (w.alloc (.cells #[.string (strOf s0)] 9))) : wpList Tryd.prog ops Q (o :: rest) a w :=
  BigFrame.wpList_want hw fun K hK => by
    have hrun : (execOp a.eval o).run Tryd.prog w = .ok (.value (.slice (some ⟨w.heap.size, 0, none⟩) 1 1)) (w.alloc (.cells #[.string (strOf s0)] 9)) := by
      unfold execOp
      simp only [ho]
      simp [h0, run_bs1]
    unfold Oper.wp
    rw [hrun]
    exact hK _ _ h
theorem new1 (s0 : List Nat) (w : World) : ValsV (.slice (some ⟨w.heap.size, 0, none⟩) 1 1) (w.alloc (.cells #[.string (strOf s0)] 9)) (strs [s0]) := vrow_vals (vrow_lit (base := 0) w #[.string (strOf s0)] 1 rfl (Nat.zero_le _) (by decide))

theorem run_bs3 (s0 s1 s2 : List Nat) (w : World) : (Instr.buildSlice 34 3 #[(0, .string (strOf s0)), (1, .string (strOf s1)), (2, .string (strOf s2))]).run Tryd.prog w = .ok (.slice (some ⟨w.heap.size, 0, none⟩) 3 3) (w.alloc (.cells #[.string (strOf s0), .string (strOf s1), .string (strOf s2)] 9)) := by kernel_rfl
/-- A slice of 3 texts is built. -/
theorem wl_bs3 (hw : Region.wanted o (yielded ops a.tmps) = true) (x0 x1 x2 : Operand) (ho : o.op = .buildSlice 34 3 #[(0, x0), (1, x1), (2, x2)]) (s0 s1 s2 : List Nat) (h0 : a.eval x0 = .string (strOf s0)) (h1 : a.eval x1 = .string (strOf s1)) (h2 : a.eval x2 = .string (strOf s2))
    (h : wpList Tryd.prog ops Q rest (a.put o.dst (.slice (some ⟨w.heap.size, 0, none⟩) 3 3)) (w.alloc (.cells #[.string (strOf s0), .string (strOf s1), .string (strOf s2)] 9))) : wpList Tryd.prog ops Q (o :: rest) a w :=
  BigFrame.wpList_want hw fun K hK => by
    have hrun : (execOp a.eval o).run Tryd.prog w = .ok (.value (.slice (some ⟨w.heap.size, 0, none⟩) 3 3)) (w.alloc (.cells #[.string (strOf s0), .string (strOf s1), .string (strOf s2)] 9)) := by
      unfold execOp
      simp only [ho]
      simp [h0, h1, h2, run_bs3]
    unfold Oper.wp
    rw [hrun]
    exact hK _ _ h
theorem new3 (s0 s1 s2 : List Nat) (w : World) : ValsV (.slice (some ⟨w.heap.size, 0, none⟩) 3 3) (w.alloc (.cells #[.string (strOf s0), .string (strOf s1), .string (strOf s2)] 9)) (strs [s0, s1, s2]) := vrow_vals (vrow_lit (base := 0) w #[.string (strOf s0), .string (strOf s1), .string (strOf s2)] 3 rfl (Nat.zero_le _) (by decide))

theorem run_bs4 (s0 s1 s2 s3 : List Nat) (w : World) : (Instr.buildSlice 34 4 #[(0, .string (strOf s0)), (1, .string (strOf s1)), (2, .string (strOf s2)), (3, .string (strOf s3))]).run Tryd.prog w = .ok (.slice (some ⟨w.heap.size, 0, none⟩) 4 4) (w.alloc (.cells #[.string (strOf s0), .string (strOf s1), .string (strOf s2), .string (strOf s3)] 9)) := by kernel_rfl
theorem new4 (s0 s1 s2 s3 : List Nat) (w : World) : ValsV (.slice (some ⟨w.heap.size, 0, none⟩) 4 4) (w.alloc (.cells #[.string (strOf s0), .string (strOf s1), .string (strOf s2), .string (strOf s3)] 9)) (strs [s0, s1, s2, s3]) := vrow_vals (vrow_lit (base := 0) w #[.string (strOf s0), .string (strOf s1), .string (strOf s2), .string (strOf s3)] 4 rfl (Nat.zero_le _) (by decide))

end
theorem Puts.from {tb B : Nat} {ts us : List TermL} {M : Nat → Prop} {w w1 w2 : World} (h : Puts tb B ts M w1 us w2) (q : Below w.heap.size w w1) : Puts tb B ts M w us w2 := by
  obtain ⟨M', h1, h2⟩ := h
  exact ⟨M', h1, (Turn.of_below q).trans h2⟩
set_option maxRecDepth 100000 in
set_option maxHeartbeats 1000000 in
theorem PubD {tb B : Nat} {ts : List TermL} {M : Nat → Prop} {s : List Nat} {w : World} (hT : Tab tb B ts M w) (hs : Bytes s) (hl : s.length ≤ maxLen) (hn : ts.length < 1000000) :
    Calls Tryd.prog 37 #[.pointer (some ⟨tb, 0, none⟩), .string (strOf s)] w fun e w' => e = .returned (.string (strOf (putL ts (2, [s])).2)) ∧ Puts tb B ts M w (putL ts (2, [s])).1 w' := by
  have q1 := (Below.refl w.heap.size w).alloc (Nat.le_refl _) (.cells #[.string (strOf s)] 9)
  have CN := nameD (k := 2) (hT.under q1) ⟨fun p hp => by simp at hp; subst hp; exact hs, by simp⟩ (new1 s w) (fun l h => by simp at h; subst h; exact hl) hn
  have KC : Kept _ := ⟨CN⟩
  have KQ : Kept _ := ⟨q1⟩
  clear hT hs hl hn q1 CN
  go_enter Tryd.func37, Tryd.ntmps37
  go_wp2_with (first | (refine wl_bs1 (by kernel_rfl) (.tmp 6) rfl (s) (by kernel_rfl) ?_; simp only [Act.put, List.setIfInBounds_toArray, List.set_cons_succ, List.set_cons_zero]))
  refine KC.out.mono ?_
  rintro e w2 ⟨rfl, hP⟩
  go_wp2_with fail
  go_ret
  exact ⟨rfl, hP.from KQ.out⟩
set_option maxRecDepth 100000 in
set_option maxHeartbeats 1000000 in
theorem HashD {tb B : Nat} {ts : List TermL} {M : Nat → Prop} {ll : List (List Nat)} {V : Value} {w : World} (hT : Tab tb B ts M w) (hy : ∀ l ∈ ll, Bytes l) (hV : ValsV V w (strs ll)) (hl : ∀ l ∈ ll, l.length ≤ maxLen) (hn : ts.length < 1000000) :
    Calls Tryd.prog 36 #[.pointer (some ⟨tb, 0, none⟩), V] w fun e w' => e = .returned (.string (strOf (putL ts (4, ll)).2)) ∧ Puts tb B ts M w (putL ts (4, ll)).1 w' := by
  have CN := nameD (k := 4) hT ⟨hy, by simp⟩ hV hl hn
  obtain ⟨p, c, rfl, _⟩ := vals_form hV (strs_len ll)
  have KC : Kept _ := ⟨CN⟩
  obtain ⟨m, hm⟩ : ∃ m, m = ll.length := ⟨_, rfl⟩
  rw [← hm] at KC ⊢
  clear hT hV hl hn CN hm
  go_enter Tryd.func36, Tryd.ntmps36
  go_wp2_with fail
  refine KC.out.mono ?_
  rintro e w2 ⟨rfl, hP⟩
  go_wp2_with fail
  go_ret
  exact ⟨rfl, hP⟩
end Go.Proofs.YtjkdonjcngmjeaaDoor.sh
/-
  (*Table).All, (*Table).Dh.
-/
namespace Go.Proofs.YtjkdonjcngmjeaaDoor.sh
open Go Go.RowKit Go.Maps
set_option linter.unusedVariables false
set_option linter.unusedSimpArgs false

theorem putL_bytes (ts : List TermL) (t : TermL) : Bytes (putL ts t).2 := by
  by_cases hF : Fits t.2
  · by_cases hm : t ∈ ts
    · rw [putL_old hF hm]; exact termN_bytes _
    · rw [putL_new hF hm]; exact termN_bytes _
  · rw [putL_not hF]; exact nil_bytes
end Go.Proofs.YtjkdonjcngmjeaaDoor.sh
/-
  Acts among the arguments; heavy; the reference's Name.
-/
namespace Go.Proofs.YtjkdonjcngmjeaaDoor.sh
open Go Go.ChangeShapes Go.WideShapes Go.ChangeAt Go.RowKit
set_option linter.unusedVariables false
set_option linter.unusedSimpArgs false

/-- An act's cells. -/
def actA (x : ActL) : Array Value := #[.int .u8 (x.kind : Int), .int .u8 (x.a : Int), .int .u8 (x.b : Int), .int .u64 (x.n : Int), .string (strOf x.s), .bool x.raw]
/-- Acts that a slice holds. -/
def ActsV (v : Value) (w : World) (l : List ActL) : Prop := ∃ p c, v = .slice p l.length c ∧ l.length ≤ c ∧ (l ≠ [] → ∃ A, p = some A ∧ A.block < w.heap.size ∧ ∀ (j : Nat) (x : ActL), l[j]? = some x → ∀ (f : Nat) (u : Value), (actA x)[f]? = some u → w.cell? (A.add (j * 6 + f)) = some u)
theorem ActsV.under {v : Value} {w w' : World} {l : List ActL} (h : ActsV v w l) (hb : Below w.heap.size w w') : ActsV v w' l := by
  obtain ⟨p, c, rfl, hlc, hp⟩ := h
  refine ⟨p, c, rfl, hlc, fun hne => ?_⟩
  obtain ⟨A, rfl, hA, hc⟩ := hp hne
  exact ⟨A, rfl, Nat.lt_of_lt_of_le hA hb.size, fun j x hx f u hu => (hb.cell (by rw [add_block]; exact hA)).trans (hc j x hx f u hu)⟩
section
variable {ops : Array Oper} {rest : List Oper} {o : Oper} {a : Act} {w : World} {Q : Exit → Act → World → Prop} {d : Nat}
end
end Go.Proofs.YtjkdonjcngmjeaaDoor.sh
/-
  What the document fixes of tables: alive of law 9.
-/
namespace Go.Proofs.YtjkdonjcngmjeaaDoor.sh
open Go Go.RowKit
set_option linter.unusedVariables false
set_option linter.unusedSimpArgs false

theorem PubE {tb B : Nat} {ts us : List TermL} {N s : List Nat} {M : Nat → Prop} {S : ByteArray} {w : World} (hT : Tab tb B ts M w) (hs : Bytes s) (hl : s.length ≤ maxLen) (hn : ts.length < 1000000) (hp : putL ts (2, [s]) = (us, N)) (hS : S = strOf s) :
    Calls Tryd.prog 37 #[.pointer (some ⟨tb, 0, none⟩), .string S] w fun e w' => e = .returned (.string (strOf N)) ∧ Puts tb B ts M w us w' := by
  have h := PubD hT hs hl hn
  rw [hp] at h
  rw [hS]
  exact h

theorem Tab.apart {tb B : Nat} {ts : List TermL} {M : Nat → Prop} {w : World} (h : Tab tb B ts M w) {base : Nat} {e : TypeId} {vs : List Value} {v : Value} {w' : World} (hr : VRow base e vs v w') (hb : w.heap.size ≤ base) : ∀ b, blkOf v = some b → ¬ M b := fun b hb2 hM => by
  have := (hr.range b hb2).1
  have := (h.range hM).2
  omega
def T1 : List TermL := [(1, [[97]])]
def T2 : List TermL := [(1, [[97]]), (1, [[98]])]
end Go.Proofs.YtjkdonjcngmjeaaDoor.sh
/-
  TermNobody.
-/
namespace Go.Proofs.YtjkdonjcngmjeaaDoor.sh
open Go Go.RowKit
set_option linter.unusedVariables false
set_option linter.unusedSimpArgs false

end Go.Proofs.YtjkdonjcngmjeaaDoor.sh
/-
  What an act picks: made$1; calls of a closure.
-/
namespace Go.Proofs.YtjkdonjcngmjeaaDoor.sh
open Go Go.RowKit
set_option linter.unusedVariables false
set_option linter.unusedSimpArgs false

section
variable {P : Program} {ops : Array Oper} {Q : Exit → Act → World → Prop} {a : Act} {w : World} {rest : List Oper} {o : Oper}
end
section
variable {P : Program} {h : List Oper} {A0 A : Act} {W0 : World} {S : Nat → Option (Value → World → Prop)} {sp O : List Nat} {E : List (Nat × Nat)} {i : Nat} {o : Oper}
end
end Go.Proofs.YtjkdonjcngmjeaaDoor.sh
/-
  Regions that draw their order, whose last operations come in more than one order too: behind the head they are walked order by order.
-/
namespace Go.Proofs.YtjkdonjcngmjeaaDoor
open Go Go.RowKit
set_option linter.unusedVariables false
set_option linter.unusedSimpArgs false
section
variable {P : Program} {Q : Exit → Act → World → Prop} {h t : List Oper}
end
end Go.Proofs.YtjkdonjcngmjeaaDoor
namespace Go.Proofs.YtjkdonjcngmjeaaDoor.sh
open Go Go.RowKit
set_option linter.unusedVariables false
set_option linter.unusedSimpArgs false
end Go.Proofs.YtjkdonjcngmjeaaDoor.sh
/-
  What an act makes of a table.
-/
namespace Go.Proofs.YtjkdonjcngmjeaaDoor.sh
open Go Go.RowKit
set_option linter.unusedVariables false
set_option linter.unusedSimpArgs false

section
variable {h : List Oper} {A0 A : Act} {W0 : World} {S : Nat → Option (Value → World → Prop)} {sp O : List Nat} {E : List (Nat × Nat)} {i : Nat} {o : Oper}
end
theorem HashE {tb B : Nat} {ts us : List TermL} {N : List Nat} {M : Nat → Prop} {ll : List (List Nat)} {V : Value} {w : World} (hT : Tab tb B ts M w) (hy : ∀ l ∈ ll, Bytes l) (hV : ValsV V w (strs ll)) (hl : ∀ l ∈ ll, l.length ≤ maxLen) (hn : ts.length < 1000000) (hp : putL ts (4, ll) = (us, N)) :
    Calls Tryd.prog 36 #[.pointer (some ⟨tb, 0, none⟩), V] w fun e w' => e = .returned (.string (strOf N)) ∧ Puts tb B ts M w us w' := by
  have h := HashD hT hy hV hl hn
  rw [hp] at h
  exact h
end Go.Proofs.YtjkdonjcngmjeaaDoor.sh
/-
  The reference's Find; slices of terms made; TermRefused.
-/
namespace Go.Proofs.YtjkdonjcngmjeaaDoor.sh
open Go Go.RowKit
set_option linter.unusedVariables false
set_option linter.unusedSimpArgs false

end Go.Proofs.YtjkdonjcngmjeaaDoor.sh
