/-
  What the reference's folded does: the same number modulo 2^130 - 5, below 2^130.
-/
import Derived.Test.YtpamcmhfimnfbaaBase
namespace Go.Proofs.Ytpamcmhfimnfbaa.sh
open Go Go.RowKit
set_option linter.unusedVariables false
set_option linter.unusedSimpArgs false

def foldN (V : Nat) : Nat := V % 1361129467683753853853498429727072845824 + 5 * (V / 1361129467683753853853498429727072845824)
theorem foldN_mod (V : Nat) : foldN V % 1361129467683753853853498429727072845819 = V % 1361129467683753853853498429727072845819 := by unfold foldN; omega
theorem foldN_less (V : Nat) (h : 1361129467683753853853498429727072845824 ≤ V) : foldN V < V := by unfold foldN; omega
theorem p130_pow : (1361129467683753853853498429727072845824 : Nat) = 4 * 256 ^ 16 := by decide
theorem high_digit (V k : Nat) : V / 1361129467683753853853498429727072845824 / 256 ^ k % 256 = V / 256 ^ (k + 16) % 256 / 4 + V / 256 ^ (k + 16 + 1) % 256 % 4 * 64 := by
  have e1 : V / 1361129467683753853853498429727072845824 / 256 ^ k = V / 256 ^ (k + 16) / 4 := by
    rw [p130_pow, Nat.div_div_eq_div_mul, Nat.div_div_eq_div_mul, Nat.mul_assoc, Nat.mul_comm 4, ← Nat.pow_add, Nat.add_comm 16 k]
  have e2 : V / 256 ^ (k + 16 + 1) = V / 256 ^ (k + 16) / 256 := by rw [Nat.pow_succ, Nat.div_div_eq_div_mul]
  rw [e1, e2]
  generalize V / 256 ^ (k + 16) = T
  omega
theorem digs_take (V m k : Nat) (h : k ≤ m) : (digs V m).take k = digs V k := by
  apply List.ext_getElem?
  intro i
  by_cases hi : i < k
  · rw [List.getElem?_take_of_lt hi, digs_get V m i (by omega), digs_get V k i hi]
  · rw [List.getElem?_eq_none (by rw [List.length_take, digs_len]; omega), List.getElem?_eq_none (by rw [digs_len]; omega)]
theorem fold_start (V r : Nat) (hr : r = V / 256 ^ 16 % 256 % 4) : val ((digs V 17).set 16 r) = V % 1361129467683753853853498429727072845824 := by
  have e : (digs V 17).set 16 r = digs V 16 ++ [r] := by
    rw [digs_succ, List.set_append_right _ _ (by rw [digs_len]; exact Nat.le_refl _), digs_len]
    rfl
  rw [e, val_append, val_digs, digs_len, p130_pow, hr]
  simp only [val]
  rw [show (4 * 256 ^ 16 : Nat) = 256 ^ 16 * 4 by decide, Nat.mod_mul]
  omega
theorem fold_end (V m j : Nat) (hm : V < 256 ^ m) (hV : V < 115792089237316195423570985008687907853269984665640564039457584007913129639936) (h17 : 17 ≤ m) (hj : m ≤ j) : V % 1361129467683753853853498429727072845824 + 5 * (V / 1361129467683753853853498429727072845824 % 256 ^ min (j - 16) 17) = foldN V := by
  unfold foldN
  congr 2
  refine Nat.mod_eq_of_lt ?_
  by_cases h : j - 16 ≤ 17
  · rw [Nat.min_eq_left h, Nat.div_lt_iff_lt_mul (by decide)]
    have h1 : 256 ^ m ≤ 256 ^ (j - 16) * 256 ^ 16 := by rw [← Nat.pow_add]; exact Nat.pow_le_pow_right (by decide) (by omega)
    have h2 : 256 ^ (j - 16) * 256 ^ 16 ≤ 256 ^ (j - 16) * 1361129467683753853853498429727072845824 := Nat.mul_le_mul_left _ (by decide)
    omega
  · rw [Nat.min_eq_right (by omega)]
    have e : (256 : Nat) ^ 17 = 87112285931760246646623899502532662132736 := by decide
    rw [e]
    omega
theorem high17 (V m : Nat) (hm : V < 256 ^ m) (h17 : 17 ≤ m) (h : ∀ i, 17 ≤ i → i < m → V / 256 ^ i % 256 = 0) : V < 256 ^ 17 := by
  have : ∀ j, j ≤ m - 17 → V % 256 ^ (17 + j) = V % 256 ^ 17 := by
    intro j
    induction j with
    | zero => intro _; rfl
    | succ j ih => intro hj; rw [← Nat.add_assoc, mod_succ, h (17 + j) (by omega) (by omega), ih (by omega)]; simp
  have h2 := this (m - 17) (by omega)
  rw [show 17 + (m - 17) = m from by omega, Nat.mod_eq_of_lt hm] at h2
  rw [h2]
  exact Nat.mod_lt _ (Nat.pow_pos (by decide))
theorem small_iff (V m d : Nat) (hm : V < 256 ^ m) (h17 : 17 ≤ m) (hd : d = V / 256 ^ 16 % 256) : V < 1361129467683753853853498429727072845824 ↔ (∀ i, 17 ≤ i → i < m → V / 256 ^ i % 256 = 0) ∧ d < 4 := by
  have e16 : (256 : Nat) ^ 16 = 340282366920938463463374607431768211456 := by decide
  have e17 : (256 : Nat) ^ 17 = 87112285931760246646623899502532662132736 := by decide
  constructor
  · intro h
    refine ⟨fun i hi _ => ?_, by rw [hd, e16]; omega⟩
    have : V / 256 ^ i = 0 := Nat.div_eq_of_lt (by
      have h1 : 256 ^ 17 ≤ 256 ^ i := Nat.pow_le_pow_right (by decide) hi
      omega)
    rw [this]
  · rintro ⟨h1, h2⟩
    have h3 := high17 V m hm h17 h1
    rw [hd, e16] at h2
    omega
theorem OI.take {base g n cap : Nat} {l : List Nat} {w : World} (h : OI base g n cap l w) (m : Nat) (hm : m ≤ n) : OI base g m cap (l.take m) w := by
  obtain ⟨h1, h2, h3, h4, cur, hB, hs, hc⟩ := h
  refine ⟨h1, by rw [List.length_take]; omega, by omega, h4, cur, hB, hs, fun i x hx => hc i x ?_⟩
  rw [List.getElem?_take] at hx
  split at hx
  · exact hx
  · cases hx
theorem run_idxO {o : Oper} {a : Act} {x y : Operand} {g i l c : Nat} {t e : TypeId} (ho : o.op = .indexAddr t x y) (hx : a.eval x = .slice (some ⟨g, 0, none⟩) l c) (hy : a.eval y = .int .i64 (i : Int)) (ht : Try.prog.underlying t = some (.slice e)) (hi : i < l) (sz : ∀ w, (sizeOf e).run Try.prog w = .ok 1 w) (w : World) : (execOp a.eval o).run Try.prog w = .ok (.value (.pointer (some ⟨g, i, none⟩))) w := by
  have h := run_idxS (A := ⟨g, 0, none⟩) ho hx hy ht hi sz w
  rw [addr_add, Nat.zero_add] at h
  exact h
theorem run_addVZ {o : Oper} {a : Act} {x y : Operand} {i j z : Nat} (ho : o.op = .binOp .add 3 x y 3) (hx : a.eval x = .int .i64 (i : Int)) (hy : a.eval y = .int .i64 (j : Int)) (hz : z = i + j) (hi : z < 4611686018427387904) (w : World) : (execOp a.eval o).run Try.prog w = .ok (.value (.int .i64 (z : Int))) w := by
  subst hz
  exact run_addV ho hx hy hi w

set_option maxRecDepth 100000 in
set_option maxHeartbeats 8000000 in
theorem folded6 (l : List Nat) (g0 n0 cap0 : Nat) (w : World) (hn : l.length = n0) (h64 : n0 ≤ 64) (hM : ∀ j, l.getD j 0 ≤ 1099511627776) (hh : Holds w g0 l) (hV0 : val l < 115792089237316195423570985008687907853269984665640564039457584007913129639936) :
    Calls Try.prog 45 #[.slice (some ⟨g0, 0, none⟩) n0 cap0] w fun e w' => ∃ g cap V, e = .returned (.slice (some ⟨g, 0, none⟩) 17 cap) ∧ OI w.heap.size g 17 cap (digs V 17) w' ∧ V < 1361129467683753853853498429727072845824 ∧ V % 1361129467683753853853498429727072845819 = val l % 1361129467683753853853498429727072845819 ∧ Below w.heap.size w w' := by
  have CC : Kept _ := ⟨carry6 l g0 n0 cap0 17 w hn h64 (by decide) (by decide) hM hh⟩
  obtain ⟨V0, hV⟩ : ∃ V, V = val l := ⟨_, rfl⟩
  rw [← hV] at CC hV0 ⊢
  clear hn h64 hM hh hV
  have L17 : Kept (∀ V, ([] : List Nat).length + (digs V 17).length ≤ 8796093022208) := ⟨fun V => by rw [digs_len]; decide⟩
  go_enter Try.func45, Try.ntmps45
  go_wp2_with fail
  refine CC.out.mono ?_
  rintro e w1 ⟨g1, cap1, m1, rfl, O1, h17, h70, hV1, hb1⟩
  clear CC
  go_wp2_with fail
  go_loopg [3] V0 (fun k s3 wr => ∃ V g m cap, Kept (V = k) ∧ s3 = .slice (some ⟨g, 0, none⟩) m cap ∧ OI w.heap.size g m cap (digs V m) wr ∧ 17 ≤ m ∧ m ≤ 70 ∧ Kept (V < 256 ^ m) ∧ Kept (V < 115792089237316195423570985008687907853269984665640564039457584007913129639936) ∧ Kept (V % 1361129467683753853853498429727072845819 = V0 % 1361129467683753853853498429727072845819) ∧ Below w.heap.size w wr)
  case atStart => exact ⟨V0, g1, m1, cap1, ⟨rfl⟩, rfl, O1, h17, h70, ⟨hV1⟩, ⟨hV0⟩, ⟨rfl⟩, hb1⟩
  case round =>
    clear O1 hV1 hb1 hV0 h17 h70
    obtain ⟨V, g, m, cap, VK, rfl, OD, hm17, hm70, VM, VB, VP, HB⟩ := hrel
    have hmc : m ≤ cap := OD.2.2.1
    rename World => wz
    have HBz := HB
    clear HB
    go_wp2_with fail
    go_loopg [4, 5] (m - 17) (fun k s4 s5 wr => ∃ i h : Nat, 17 ≤ i ∧ i + k = m ∧ s4 = .int .i64 (h : Int) ∧ s5 = .int .i64 (i : Int) ∧ h < 256 ∧ Kept (h = 0 ↔ ∀ j, 17 ≤ j → j < i → V / 256 ^ j % 256 = 0) ∧ wr = wz)
    case atStart => exact ⟨17, 0, by omega, by omega, rfl, rfl, by omega, ⟨by simp; omega⟩, rfl⟩
    case round =>
      obtain ⟨i, h, hi17, hik, rfl, rfl, hB, HH, hww⟩ := hrel
      obtain rfl := hww
      by_cases him : i < m
      case pos =>
        have himi : (i : Int) < (m : Int) := by omega
        obtain ⟨d, hd⟩ : ∃ d, d = V / 256 ^ i % 256 := ⟨_, rfl⟩
        obtain ⟨z, hz⟩ : ∃ z, z = max h d := ⟨_, rfl⟩
        obtain ⟨i1, hi1⟩ : ∃ z, z = i + 1 := ⟨_, rfl⟩
        have dB : d < 256 := by rw [hd]; exact Nat.mod_lt _ (by decide)
        have KD : Kept (wr.cell? ⟨g, i, none⟩ = some (.int .i64 ((d : Nat) : Int))) := ⟨OD.cell (by rw [hd]; exact digs_get V m i him)⟩
        have HH2 : Kept (z = 0 ↔ ∀ j, 17 ≤ j → j < i + 1 → V / 256 ^ j % 256 = 0) := ⟨by
          have e : z = 0 ↔ h = 0 ∧ d = 0 := by omega
          rw [e, HH.out]
          constructor
          · rintro ⟨h1, h2⟩ j hj1 hj2
            by_cases hji : j < i
            · exact h1 j hj1 hji
            · rw [show j = i by omega, ← hd]; exact h2
          · exact fun h1 => ⟨fun j hj1 hj2 => h1 j hj1 (by omega), by rw [hd]; exact h1 i hi17 (by omega)⟩⟩
        have zB : z < 256 := by omega
        have Hz : Kept _ := ⟨hz⟩
        have Hi1 : Kept _ := ⟨hi1⟩
        clear hd hz HH hi1
        go_wp2_with (first | ((with_reducible refine wv_val (d := 21) ?hd ?hw (.pointer (some ⟨g, i, none⟩)) ?hr ?_); (case hd => rfl); (case hw => kernel_rfl); (case hr => intro w; exact run_idxO (i := i) (l := m) rfl (by kernel_rfl) (by kernel_rfl) Try.underlying78 him sz_int w); simp only [Act.put, List.setIfInBounds_toArray, List.set_cons_succ, List.set_cons_zero]) | ((with_reducible refine wv_elem (d := 22) ?hd ?hw 3 ag_int (.tmp 21) ?ho (⟨g, i, none⟩) ?hx (.int .i64 ((d : Nat) : Int)) ?hc ?_); (case hd => rfl); (case hw => kernel_rfl); (case ho => rfl); (case hx => kernel_rfl); (case hc => exact KD.out); simp only [Act.put, List.setIfInBounds_toArray, List.set_cons_succ, List.set_cons_zero]) | ((with_reducible refine wv_val (d := 23) ?hd ?hw (.int .i64 ((z : Nat) : Int)) ?hr ?_); (case hd => rfl); (case hw => kernel_rfl); (case hr => intro w; exact run_maxI h d _ rfl (by kernel_rfl) (by kernel_rfl) Hz.out w); simp only [Act.put, List.setIfInBounds_toArray, List.set_cons_succ, List.set_cons_zero]) | ((with_reducible refine wv_val (d := 17) ?hd ?hw (.int .i64 ((i1 : Nat) : Int)) ?hr ?_); (case hd => rfl); (case hw => kernel_rfl); (case hr => intro w; exact run_addZ 1 rfl (by kernel_rfl) Hi1.out (by omega) w); simp only [Act.put, List.setIfInBounds_toArray, List.set_cons_succ, List.set_cons_zero]))
        go_roundg (gk - 1)
        case measure => omega
        case rel => exact ⟨i + 1, z, by omega, by omega, rfl, by first | (simp; done) | rw [← Hi1.out], zB, HH2, rfl⟩
      case neg =>
        have himi : ¬ (i : Int) < (m : Int) := by omega
        obtain ⟨d16, hd16⟩ : ∃ d, d = V / 256 ^ 16 % 256 := ⟨_, rfl⟩
        have hs := small_iff V m d16 VM.out hm17 hd16
        have d16B : d16 < 256 := by rw [hd16]; exact Nat.mod_lt _ (by decide)
        have E16 : Kept _ := ⟨hd16⟩
        have hh := HH.out
        rw [show i = m by omega] at hh
        rw [← hh] at hs
        clear hh HH
        have KD16 : Kept (wr.cell? ⟨g, 16, none⟩ = some (.int .i64 ((d16 : Nat) : Int))) := ⟨OD.cell (by rw [hd16]; exact digs_get V m 16 (by omega))⟩
        have m16 : 16 < m := by omega
        clear hd16
        by_cases hsm : V < 1361129467683753853853498429727072845824
        case pos =>
          obtain ⟨eh, h4⟩ := hs.1 hsm
          subst eh
          have h4i : (d16 : Int) < 4 := by omega
          have OR := OD.take 17 hm17
          rw [digs_take V m 17 hm17] at OR
          clear hs
          go_wp2_with (first | ((with_reducible refine wv_val (d := 28) ?hd ?hw (.pointer (some ⟨g, 16, none⟩)) ?hr ?_); (case hd => rfl); (case hw => kernel_rfl); (case hr => intro w; exact run_idxO (i := 16) (l := m) rfl (by kernel_rfl) (by kernel_rfl) Try.underlying78 m16 sz_int w); simp only [Act.put, List.setIfInBounds_toArray, List.set_cons_succ, List.set_cons_zero]) | ((with_reducible refine wv_elem (d := 29) ?hd ?hw 3 ag_int (.tmp 28) ?ho (⟨g, 16, none⟩) ?hx (.int .i64 ((d16 : Nat) : Int)) ?hc ?_); (case hd => rfl); (case hw => kernel_rfl); (case ho => rfl); (case hx => kernel_rfl); (case hc => exact KD16.out); simp only [Act.put, List.setIfInBounds_toArray, List.set_cons_succ, List.set_cons_zero]) | ((with_reducible refine wv_val (d := 33) ?hd ?hw (.slice (some ⟨g, 0, none⟩) 17 cap) ?hr ?_); (case hd => rfl); (case hw => kernel_rfl); (case hr => intro w; exact cutTo_run (l := m) (m := 17) rfl (by kernel_rfl) (by kernel_rfl) Try.underlying78 sz_int (by omega) w); simp only [Act.put, List.setIfInBounds_toArray, List.set_cons_succ, List.set_cons_zero]))
          go_ret
          exact ⟨g, cap, rfl, V, OR, hsm, VP.out, HBz⟩
        case neg =>
          have hbig : 1361129467683753853853498429727072845824 ≤ V := by omega
          obtain ⟨r16, hr16⟩ : ∃ r, r = d16 % 4 := ⟨_, rfl⟩
          have H16 : Kept _ := ⟨hr16⟩
          have r16B : r16 < 4 := by omega
          have L17 : Kept (([] : List Nat).length + (digs V 17).length ≤ 8796093022208) := ⟨L17.out V⟩
          clear hr16
          rename World => wz
          by_cases hh0 : h = 0
          case neg =>
            have hhi : ¬ (h : Int) = 0 := by omega
            clear hs hsm
            have R34 := row_emptyI (base := wz.heap.size) wz (Nat.le_refl _)
            have QE : Below w.heap.size w (wz.alloc (.cells #[] 3)) := HBz.alloc HBz.size _
            have V36 : Kept (IntsV .i64 (.slice (some ⟨g, 0, none⟩) 17 cap) (wz.alloc (.cells #[] 3)) (digs V 17)) := ⟨by
              have h := (OD.alloc (.cells #[] 3)).ints.take (m := 17) (by rw [digs_len]; omega)
              rw [digs_take V m 17 hm17] at h
              exact h⟩
            go_wp2_with (first | ((with_reducible refine wv_val (d := 36) ?hd ?hw (.slice (some ⟨g, 0, none⟩) 17 cap) ?hr ?_); (case hd => rfl); (case hw => kernel_rfl); (case hr => intro w; exact cutTo_run (l := m) (m := 17) rfl (by kernel_rfl) (by kernel_rfl) Try.underlying78 sz_int (by omega) w); simp only [Act.put, List.setIfInBounds_toArray, List.set_cons_succ, List.set_cons_zero]) | (at_builtin; go_must (refine wl_app (by kernel_rfl) (.tmp 34) (.tmp 36) 78 3 .i64 8 rfl Try.underlying78 inf_int (by decide) (wz.heap.size) ([]) (digs V 17) (.slice (some ⟨wz.heap.size, 0, none⟩) 0 0) (.slice (some ⟨g, 0, none⟩) 17 cap) (by kernel_rfl) (by kernel_rfl) R34 V36.out L17.out (by simp) ?_)))
            intro v6 w1 R6 G6 _
            have B6 : Below wz.heap.size wz w1 := ((Below.refl _ _).alloc (Nat.le_refl _) _).trans (grown_mono G6 (by simp) (fun b hb => by cases hb; exact Nat.le_refl _))
            have R6 : Row wz.heap.size 3 .i64 (digs V 17) v6 w1 := R6
            obtain ⟨g6, cap6, ev6, O6⟩ := oi_row R6 (by rw [digs_len]; decide)
            rw [digs_len] at ev6 O6
            subst ev6
            have gne : g ≠ g6 := by have := O6.1; have := OD.lt; omega
            have g6w : w.heap.size ≤ g6 := Nat.le_trans HBz.size O6.1
            have OD1 := OD.under B6
            have HB1 := HBz.trans (B6.mono HBz.size)
            have K16 : Kept (w1.cell? ⟨g6, 16, none⟩ = some (.int .i64 ((d16 : Nat) : Int))) := ⟨O6.cell (by rw [E16.out]; exact digs_get V 17 16 (by decide))⟩
            clear R34 QE V36 R6 G6 B6
            go_wp2_with (first | ((with_reducible refine wv_val (d := 40) ?hd ?hw (.pointer (some ⟨g6, 16, none⟩)) ?hr ?_); (case hd => rfl); (case hw => kernel_rfl); (case hr => intro w; exact run_idxO (i := 16) (l := 17) rfl (by kernel_rfl) (by kernel_rfl) Try.underlying78 (by decide) sz_int w); simp only [Act.put, List.setIfInBounds_toArray, List.set_cons_succ, List.set_cons_zero]) | ((with_reducible refine wv_elem (d := 41) ?hd ?hw 3 ag_int (.tmp 40) ?ho (⟨g6, 16, none⟩) ?hx (.int .i64 ((d16 : Nat) : Int)) ?hc ?_); (case hd => rfl); (case hw => kernel_rfl); (case ho => rfl); (case hx => kernel_rfl); (case hc => exact K16.out); simp only [Act.put, List.setIfInBounds_toArray, List.set_cons_succ, List.set_cons_zero]) | ((with_reducible refine wv_val (d := 42) ?hd ?hw (.int .i64 ((r16 : Nat) : Int)) ?hr ?_); (case hd => rfl); (case hw => kernel_rfl); (case hr => intro w; exact run_rem4 rfl (by kernel_rfl) H16.out (by omega) w); simp only [Act.put, List.setIfInBounds_toArray, List.set_cons_succ, List.set_cons_zero]) | ((with_reducible refine wv_val (d := 43) ?hd ?hw (.pointer (some ⟨g6, 16, none⟩)) ?hr ?_); (case hd => rfl); (case hw => kernel_rfl); (case hr => intro w; exact run_idxO (i := 16) (l := 17) rfl (by kernel_rfl) (by kernel_rfl) Try.underlying78 (by decide) sz_int w); simp only [Act.put, List.setIfInBounds_toArray, List.set_cons_succ, List.set_cons_zero]) | (refine wl_setOI rfl (.tmp 43) (.tmp 42) rfl wz.heap.size g6 17 cap6 16 r16 (digs V 17) rfl rfl O6 (by decide) ?_))
            intro w2 O62 P2
            have OD2 := OD1.put P2 gne
            have HB2 := HB1.trans (P2.below g6w)
            clear OD1 HB1 O6 P2 K16
            have EV0 : Kept (val ((digs V 17).set 16 r16) = V % 1361129467683753853853498429727072845824 + 5 * (V / 1361129467683753853853498429727072845824 % 256 ^ min (16 - 16) 17)) := ⟨by
              rw [fold_start V r16 (by rw [H16.out, E16.out])]
              simp [Nat.mod_one]⟩
            have BX0 : Kept (∀ j, ((digs V 17).set 16 r16).getD j 0 ≤ if j < 16 - 16 then 1600 else 255) := ⟨fun j => by
              rw [if_neg (by omega)]
              exact Nat.le_of_lt_succ (getD_lt ((digs_bytes V 17).set 16 r16 (by omega)) j)⟩
            go_wp2_with fail
            go_loopg [7] (m - 16) (fun k s7 wr => ∃ (i : Nat) (X : List Nat), 16 ≤ i ∧ i + k = m ∧ s7 = .int .i64 (i : Int) ∧ OI wz.heap.size g6 17 cap6 X wr ∧ OI w.heap.size g m cap (digs V m) wr ∧ Kept (val X = V % 1361129467683753853853498429727072845824 + 5 * (V / 1361129467683753853853498429727072845824 % 256 ^ min (i - 16) 17)) ∧ Kept (∀ j, X.getD j 0 ≤ if j < i - 16 then 1600 else 255) ∧ Below w.heap.size w wr)
            case atStart => exact ⟨16, _, by omega, by omega, rfl, O62, OD2, EV0, BX0, HB2⟩
            case round =>
              clear O62 OD2 EV0 BX0 HB2 OD
              obtain ⟨i, X, hi16, hik, rfl, OX, OD, EV, BX, HB⟩ := hrel
              by_cases him : i < m
              case pos =>
                have himi : (i : Int) < (m : Int) := by omega
                obtain ⟨di, hdi⟩ : ∃ x, x = V / 256 ^ i % 256 := ⟨_, rfl⟩
                obtain ⟨dn, hdn⟩ : ∃ x, x = V / 256 ^ (i + 1) % 256 := ⟨_, rfl⟩
                obtain ⟨q, hq⟩ : ∃ x, x = di / 4 := ⟨_, rfl⟩
                obtain ⟨i1, hi1⟩ : ∃ x, x = i + 1 := ⟨_, rfl⟩
                obtain ⟨k, hk⟩ : ∃ k, i = k + 16 := ⟨i - 16, by omega⟩
                obtain ⟨yk, hyk⟩ : ∃ y, y = V / 1361129467683753853853498429727072845824 / 256 ^ k % 256 := ⟨_, rfl⟩
                have dB : di < 256 := by rw [hdi]; exact Nat.mod_lt _ (by decide)
                have dnB : dn < 256 := by rw [hdn]; exact Nat.mod_lt _ (by decide)
                have ykB : yk < 256 := by rw [hyk]; exact Nat.mod_lt _ (by decide)
                have hyd : yk = di / 4 + dn % 4 * 64 := by rw [hyk, hdi, hdn, hk]; exact high_digit V k
                have KDi : Kept (wr.cell? ⟨g, i, none⟩ = some (.int .i64 ((di : Nat) : Int))) := ⟨OD.cell (by rw [hdi]; exact digs_get V m i him)⟩
                have Hq : Kept _ := ⟨hq⟩
                have Hi1 : Kept _ := ⟨hi1⟩
                have Hk : Kept _ := ⟨hk⟩
                have i1B : i1 ≤ 71 := by omega
                have kB : k ≤ 70 := by omega
                have qB : q < 64 := by omega
                have Eyk : Kept _ := ⟨hyk⟩
                by_cases him1 : i1 < m
                case pos =>
                  have him1i : (i1 : Int) < (m : Int) := by omega
                  have KDn : Kept (wr.cell? ⟨g, i1, none⟩ = some (.int .i64 ((dn : Nat) : Int))) := ⟨OD.cell (by rw [hdn, ← hi1]; exact digs_get V m i1 him1)⟩
                  obtain ⟨r4, hr4⟩ : ∃ x, x = dn % 4 := ⟨_, rfl⟩
                  obtain ⟨r64, hr64⟩ : ∃ x, x = r4 * 64 := ⟨_, rfl⟩
                  have Hr4 : Kept _ := ⟨hr4⟩
                  have Hr64 : Kept _ := ⟨hr64⟩
                  have Hyk : Kept (yk = q + r64) := ⟨by rw [hyd, hq, hr64, hr4]⟩
                  have r4B : r4 < 4 := by omega
                  have r64B : r64 < 256 := by omega
                  clear hdi hdn hq hi1 hk hyk hyd hr4
                  by_cases hk17 : k < 17
                  case pos =>
                    have hk17i : (k : Int) < 17 := by omega
                    obtain ⟨xk, hxk⟩ : ∃ x, X[k]? = some x := ⟨_, List.getElem?_eq_getElem (by rw [OX.len]; exact hk17)⟩
                    have hk_ := Hk.out
                    have hi1_ := Hi1.out
                    have xkB : xk ≤ 255 := by
                      have := BX.out k
                      rw [List.getD_eq_getElem?_getD, hxk, if_neg (by omega)] at this
                      exact this
                    obtain ⟨y5, hy5⟩ : ∃ y, y = 5 * yk := ⟨_, rfl⟩
                    obtain ⟨z, hz⟩ : ∃ z, z = xk + y5 := ⟨_, rfl⟩
                    have KXk : Kept _ := ⟨OX.cell hxk⟩
                    have Hy5 : Kept _ := ⟨hy5⟩
                    have Hz : Kept _ := ⟨hz⟩
                    have EV2 : Kept (val (X.set k z) = V % 1361129467683753853853498429727072845824 + 5 * (V / 1361129467683753853853498429727072845824 % 256 ^ min (i + 1 - 16) 17)) := ⟨by
                      have h1 := val_set X y5 k (by rw [OX.len]; exact hk17)
                      rw [List.getD_eq_getElem?_getD, hxk, Option.getD_some, ← hz] at h1
                      rw [h1, EV.out, show min (i - 16) 17 = k by omega, show min (i + 1 - 16) 17 = k + 1 by omega, mod_succ, ← Eyk.out, hy5, Nat.mul_add, Nat.mul_assoc, Nat.add_assoc]⟩
                    have BX2 : Kept (∀ j, (X.set k z).getD j 0 ≤ if j < i + 1 - 16 then 1600 else 255) := ⟨fun j => by
                      rw [List.getD_eq_getElem?_getD, List.getElem?_set]
                      split
                      · rename_i e
                        subst e
                        rw [if_pos (by rw [OX.len]; exact hk17), if_pos (by omega)]
                        show z ≤ 1600
                        omega
                      · have := BX.out j
                        rw [List.getD_eq_getElem?_getD] at this
                        split
                        · split at this <;> omega
                        · rw [if_neg (by omega)] at this
                          exact this⟩
                    have y5B : y5 ≤ 1275 := by omega
                    have zB : z < 2000 := by omega
                    clear hxk hy5 hz EV BX Eyk hk_ hi1_
                    go_wp2_with (first | ((with_reducible refine wv_val (d := 52) ?hd ?hw (.pointer (some ⟨g, i, none⟩)) ?hr ?_); (case hd => rfl); (case hw => kernel_rfl); (case hr => intro w; exact run_idxO (i := i) (l := m) rfl (by kernel_rfl) (by kernel_rfl) Try.underlying78 him sz_int w); simp only [Act.put, List.setIfInBounds_toArray, List.set_cons_succ, List.set_cons_zero]) | ((with_reducible refine wv_elem (d := 53) ?hd ?hw 3 ag_int (.tmp 52) ?ho (⟨g, i, none⟩) ?hx (.int .i64 ((di : Nat) : Int)) ?hc ?_); (case hd => rfl); (case hw => kernel_rfl); (case ho => rfl); (case hx => kernel_rfl); (case hc => exact KDi.out); simp only [Act.put, List.setIfInBounds_toArray, List.set_cons_succ, List.set_cons_zero]) | ((with_reducible refine wv_val (d := 54) ?hd ?hw (.int .i64 ((q : Nat) : Int)) ?hr ?_); (case hd => rfl); (case hw => kernel_rfl); (case hr => intro w; exact run_quo4 rfl (by kernel_rfl) Hq.out (by omega) w); simp only [Act.put, List.setIfInBounds_toArray, List.set_cons_succ, List.set_cons_zero]) | ((with_reducible refine wv_val (d := 56) ?hd ?hw (.int .i64 ((i1 : Nat) : Int)) ?hr ?_); (case hd => rfl); (case hw => kernel_rfl); (case hr => intro w; exact run_addZ 1 rfl (by kernel_rfl) Hi1.out (by omega) w); simp only [Act.put, List.setIfInBounds_toArray, List.set_cons_succ, List.set_cons_zero]) | ((with_reducible refine wv_val (d := 63) ?hd ?hw (.int .i64 ((i1 : Nat) : Int)) ?hr ?_); (case hd => rfl); (case hw => kernel_rfl); (case hr => intro w; exact run_addZ 1 rfl (by kernel_rfl) Hi1.out (by omega) w); simp only [Act.put, List.setIfInBounds_toArray, List.set_cons_succ, List.set_cons_zero]) | ((with_reducible refine wv_val (d := 64) ?hd ?hw (.pointer (some ⟨g, i1, none⟩)) ?hr ?_); (case hd => rfl); (case hw => kernel_rfl); (case hr => intro w; exact run_idxO (i := i1) (l := m) rfl (by kernel_rfl) (by kernel_rfl) Try.underlying78 him1 sz_int w); simp only [Act.put, List.setIfInBounds_toArray, List.set_cons_succ, List.set_cons_zero]) | ((with_reducible refine wv_elem (d := 65) ?hd ?hw 3 ag_int (.tmp 64) ?ho (⟨g, i1, none⟩) ?hx (.int .i64 ((dn : Nat) : Int)) ?hc ?_); (case hd => rfl); (case hw => kernel_rfl); (case ho => rfl); (case hx => kernel_rfl); (case hc => exact KDn.out); simp only [Act.put, List.setIfInBounds_toArray, List.set_cons_succ, List.set_cons_zero]) | ((with_reducible refine wv_val (d := 66) ?hd ?hw (.int .i64 ((r4 : Nat) : Int)) ?hr ?_); (case hd => rfl); (case hw => kernel_rfl); (case hr => intro w; exact run_rem4 rfl (by kernel_rfl) Hr4.out (by omega) w); simp only [Act.put, List.setIfInBounds_toArray, List.set_cons_succ, List.set_cons_zero]) | ((with_reducible refine wv_val (d := 67) ?hd ?hw (.int .i64 ((r64 : Nat) : Int)) ?hr ?_); (case hd => rfl); (case hw => kernel_rfl); (case hr => intro w; exact run_mulK 64 rfl (by kernel_rfl) Hr64.out (by omega) w); simp only [Act.put, List.setIfInBounds_toArray, List.set_cons_succ, List.set_cons_zero]) | ((with_reducible refine wv_val (d := 68) ?hd ?hw (.int .i64 ((yk : Nat) : Int)) ?hr ?_); (case hd => rfl); (case hw => kernel_rfl); (case hr => intro w; exact run_addVZ rfl (by kernel_rfl) (by kernel_rfl) Hyk.out (by omega) w); simp only [Act.put, List.setIfInBounds_toArray, List.set_cons_succ, List.set_cons_zero]) | ((with_reducible refine wv_val (d := 70) ?hd ?hw (.int .i64 ((k : Nat) : Int)) ?hr ?_); (case hd => rfl); (case hw => kernel_rfl); (case hr => intro w; exact run_subZ 16 rfl (by kernel_rfl) Hk.out (by omega) w); simp only [Act.put, List.setIfInBounds_toArray, List.set_cons_succ, List.set_cons_zero]) | ((with_reducible refine wv_val (d := 73) ?hd ?hw (.int .i64 ((k : Nat) : Int)) ?hr ?_); (case hd => rfl); (case hw => kernel_rfl); (case hr => intro w; exact run_subZ 16 rfl (by kernel_rfl) Hk.out (by omega) w); simp only [Act.put, List.setIfInBounds_toArray, List.set_cons_succ, List.set_cons_zero]) | ((with_reducible refine wv_val (d := 78) ?hd ?hw (.pointer (some ⟨g6, k, none⟩)) ?hr ?_); (case hd => rfl); (case hw => kernel_rfl); (case hr => intro w; exact run_idxO (i := k) (l := 17) rfl (by kernel_rfl) (by kernel_rfl) Try.underlying78 hk17 sz_int w); simp only [Act.put, List.setIfInBounds_toArray, List.set_cons_succ, List.set_cons_zero]) | ((with_reducible refine wv_elem (d := 79) ?hd ?hw 3 ag_int (.tmp 78) ?ho (⟨g6, k, none⟩) ?hx (.int .i64 ((xk : Nat) : Int)) ?hc ?_); (case hd => rfl); (case hw => kernel_rfl); (case ho => rfl); (case hx => kernel_rfl); (case hc => exact KXk.out); simp only [Act.put, List.setIfInBounds_toArray, List.set_cons_succ, List.set_cons_zero]) | ((with_reducible refine wv_val (d := 81) ?hd ?hw (.int .i64 ((y5 : Nat) : Int)) ?hr ?_); (case hd => rfl); (case hw => kernel_rfl); (case hr => intro w; exact run_mulC 5 rfl (by kernel_rfl) Hy5.out (by omega) w); simp only [Act.put, List.setIfInBounds_toArray, List.set_cons_succ, List.set_cons_zero]) | ((with_reducible refine wv_val (d := 82) ?hd ?hw (.int .i64 ((z : Nat) : Int)) ?hr ?_); (case hd => rfl); (case hw => kernel_rfl); (case hr => intro w; exact run_addVZ rfl (by kernel_rfl) (by kernel_rfl) Hz.out (by omega) w); simp only [Act.put, List.setIfInBounds_toArray, List.set_cons_succ, List.set_cons_zero]) | ((with_reducible refine wv_val (d := 83) ?hd ?hw (.pointer (some ⟨g6, k, none⟩)) ?hr ?_); (case hd => rfl); (case hw => kernel_rfl); (case hr => intro w; exact run_idxO (i := k) (l := 17) rfl (by kernel_rfl) (by kernel_rfl) Try.underlying78 hk17 sz_int w); simp only [Act.put, List.setIfInBounds_toArray, List.set_cons_succ, List.set_cons_zero]) | (refine wl_setOI rfl (.tmp 83) (.tmp 82) rfl wz.heap.size g6 17 cap6 k z X rfl rfl OX hk17 ?_))
                    intro w4 OX4 P4
                    have OD4 := OD.put P4 (by omega)
                    have HB4 := HB.trans (P4.below (by omega))
                    clear OX OD HB P4 KXk Hy5 Hz KDi KDn
                    go_wp2_with (first | ((with_reducible refine wv_val (d := 49) ?hd ?hw (.int .i64 ((i1 : Nat) : Int)) ?hr ?_); (case hd => rfl); (case hw => kernel_rfl); (case hr => intro w; exact run_addZ 1 rfl (by kernel_rfl) Hi1.out (by omega) w); simp only [Act.put, List.setIfInBounds_toArray, List.set_cons_succ, List.set_cons_zero]))
                    go_roundg (gk - 1)
                    case measure => omega
                    case rel => exact ⟨i + 1, _, by omega, by omega, by first | (simp; done) | rw [← Hi1.out], OX4, OD4, EV2, BX2, HB4⟩
                  case neg =>
                    have hk17i : ¬ (k : Int) < 17 := by omega
                    have hk_ := Hk.out
                    have hi1_ := Hi1.out
                    have EV2 : Kept (val X = V % 1361129467683753853853498429727072845824 + 5 * (V / 1361129467683753853853498429727072845824 % 256 ^ min (i + 1 - 16) 17)) := ⟨by rw [EV.out, show min (i - 16) 17 = 17 by omega, show min (i + 1 - 16) 17 = 17 by omega]⟩
                    have BX2 : Kept (∀ j, X.getD j 0 ≤ if j < i + 1 - 16 then 1600 else 255) := ⟨fun j => by
                      have := BX.out j
                      split
                      · split at this <;> omega
                      · rw [if_neg (by omega)] at this
                        exact this⟩
                    clear EV BX Eyk hk_ hi1_
                    go_wp2_with (first | ((with_reducible refine wv_val (d := 52) ?hd ?hw (.pointer (some ⟨g, i, none⟩)) ?hr ?_); (case hd => rfl); (case hw => kernel_rfl); (case hr => intro w; exact run_idxO (i := i) (l := m) rfl (by kernel_rfl) (by kernel_rfl) Try.underlying78 him sz_int w); simp only [Act.put, List.setIfInBounds_toArray, List.set_cons_succ, List.set_cons_zero]) | ((with_reducible refine wv_elem (d := 53) ?hd ?hw 3 ag_int (.tmp 52) ?ho (⟨g, i, none⟩) ?hx (.int .i64 ((di : Nat) : Int)) ?hc ?_); (case hd => rfl); (case hw => kernel_rfl); (case ho => rfl); (case hx => kernel_rfl); (case hc => exact KDi.out); simp only [Act.put, List.setIfInBounds_toArray, List.set_cons_succ, List.set_cons_zero]) | ((with_reducible refine wv_val (d := 54) ?hd ?hw (.int .i64 ((q : Nat) : Int)) ?hr ?_); (case hd => rfl); (case hw => kernel_rfl); (case hr => intro w; exact run_quo4 rfl (by kernel_rfl) Hq.out (by omega) w); simp only [Act.put, List.setIfInBounds_toArray, List.set_cons_succ, List.set_cons_zero]) | ((with_reducible refine wv_val (d := 56) ?hd ?hw (.int .i64 ((i1 : Nat) : Int)) ?hr ?_); (case hd => rfl); (case hw => kernel_rfl); (case hr => intro w; exact run_addZ 1 rfl (by kernel_rfl) Hi1.out (by omega) w); simp only [Act.put, List.setIfInBounds_toArray, List.set_cons_succ, List.set_cons_zero]) | ((with_reducible refine wv_val (d := 63) ?hd ?hw (.int .i64 ((i1 : Nat) : Int)) ?hr ?_); (case hd => rfl); (case hw => kernel_rfl); (case hr => intro w; exact run_addZ 1 rfl (by kernel_rfl) Hi1.out (by omega) w); simp only [Act.put, List.setIfInBounds_toArray, List.set_cons_succ, List.set_cons_zero]) | ((with_reducible refine wv_val (d := 64) ?hd ?hw (.pointer (some ⟨g, i1, none⟩)) ?hr ?_); (case hd => rfl); (case hw => kernel_rfl); (case hr => intro w; exact run_idxO (i := i1) (l := m) rfl (by kernel_rfl) (by kernel_rfl) Try.underlying78 him1 sz_int w); simp only [Act.put, List.setIfInBounds_toArray, List.set_cons_succ, List.set_cons_zero]) | ((with_reducible refine wv_elem (d := 65) ?hd ?hw 3 ag_int (.tmp 64) ?ho (⟨g, i1, none⟩) ?hx (.int .i64 ((dn : Nat) : Int)) ?hc ?_); (case hd => rfl); (case hw => kernel_rfl); (case ho => rfl); (case hx => kernel_rfl); (case hc => exact KDn.out); simp only [Act.put, List.setIfInBounds_toArray, List.set_cons_succ, List.set_cons_zero]) | ((with_reducible refine wv_val (d := 66) ?hd ?hw (.int .i64 ((r4 : Nat) : Int)) ?hr ?_); (case hd => rfl); (case hw => kernel_rfl); (case hr => intro w; exact run_rem4 rfl (by kernel_rfl) Hr4.out (by omega) w); simp only [Act.put, List.setIfInBounds_toArray, List.set_cons_succ, List.set_cons_zero]) | ((with_reducible refine wv_val (d := 67) ?hd ?hw (.int .i64 ((r64 : Nat) : Int)) ?hr ?_); (case hd => rfl); (case hw => kernel_rfl); (case hr => intro w; exact run_mulK 64 rfl (by kernel_rfl) Hr64.out (by omega) w); simp only [Act.put, List.setIfInBounds_toArray, List.set_cons_succ, List.set_cons_zero]) | ((with_reducible refine wv_val (d := 68) ?hd ?hw (.int .i64 ((yk : Nat) : Int)) ?hr ?_); (case hd => rfl); (case hw => kernel_rfl); (case hr => intro w; exact run_addVZ rfl (by kernel_rfl) (by kernel_rfl) Hyk.out (by omega) w); simp only [Act.put, List.setIfInBounds_toArray, List.set_cons_succ, List.set_cons_zero]) | ((with_reducible refine wv_val (d := 70) ?hd ?hw (.int .i64 ((k : Nat) : Int)) ?hr ?_); (case hd => rfl); (case hw => kernel_rfl); (case hr => intro w; exact run_subZ 16 rfl (by kernel_rfl) Hk.out (by omega) w); simp only [Act.put, List.setIfInBounds_toArray, List.set_cons_succ, List.set_cons_zero]) | ((with_reducible refine wv_val (d := 73) ?hd ?hw (.int .i64 ((k : Nat) : Int)) ?hr ?_); (case hd => rfl); (case hw => kernel_rfl); (case hr => intro w; exact run_subZ 16 rfl (by kernel_rfl) Hk.out (by omega) w); simp only [Act.put, List.setIfInBounds_toArray, List.set_cons_succ, List.set_cons_zero]) | ((with_reducible refine wv_val (d := 49) ?hd ?hw (.int .i64 ((i1 : Nat) : Int)) ?hr ?_); (case hd => rfl); (case hw => kernel_rfl); (case hr => intro w; exact run_addZ 1 rfl (by kernel_rfl) Hi1.out (by omega) w); simp only [Act.put, List.setIfInBounds_toArray, List.set_cons_succ, List.set_cons_zero]))
                    go_roundg (gk - 1)
                    case measure => omega
                    case rel => exact ⟨i + 1, _, by omega, by omega, by first | (simp; done) | rw [← Hi1.out], OX, OD, EV2, BX2, HB⟩
                case neg =>
                  have him1i : ¬ (i1 : Int) < (m : Int) := by omega
                  have edn : dn = 0 := by
                    rw [hdn]
                    have : V / 256 ^ (i + 1) = 0 := Nat.div_eq_of_lt (Nat.lt_of_lt_of_le VM.out (Nat.pow_le_pow_right (by decide) (by omega)))
                    rw [this]
                  have eyq : yk = q := by rw [hyd, edn, hq]; omega
                  have KDn : Kept True := ⟨trivial⟩
                  clear hdi hdn hi1 hk hyk hyd edn hq
                  subst eyq
                  by_cases hk17 : k < 17
                  case pos =>
                    have hk17i : (k : Int) < 17 := by omega
                    obtain ⟨xk, hxk⟩ : ∃ x, X[k]? = some x := ⟨_, List.getElem?_eq_getElem (by rw [OX.len]; exact hk17)⟩
                    have hk_ := Hk.out
                    have hi1_ := Hi1.out
                    have xkB : xk ≤ 255 := by
                      have := BX.out k
                      rw [List.getD_eq_getElem?_getD, hxk, if_neg (by omega)] at this
                      exact this
                    obtain ⟨y5, hy5⟩ : ∃ y, y = 5 * yk := ⟨_, rfl⟩
                    obtain ⟨z, hz⟩ : ∃ z, z = xk + y5 := ⟨_, rfl⟩
                    have KXk : Kept _ := ⟨OX.cell hxk⟩
                    have Hy5 : Kept _ := ⟨hy5⟩
                    have Hz : Kept _ := ⟨hz⟩
                    have EV2 : Kept (val (X.set k z) = V % 1361129467683753853853498429727072845824 + 5 * (V / 1361129467683753853853498429727072845824 % 256 ^ min (i + 1 - 16) 17)) := ⟨by
                      have h1 := val_set X y5 k (by rw [OX.len]; exact hk17)
                      rw [List.getD_eq_getElem?_getD, hxk, Option.getD_some, ← hz] at h1
                      rw [h1, EV.out, show min (i - 16) 17 = k by omega, show min (i + 1 - 16) 17 = k + 1 by omega, mod_succ, ← Eyk.out, hy5, Nat.mul_add, Nat.mul_assoc, Nat.add_assoc]⟩
                    have BX2 : Kept (∀ j, (X.set k z).getD j 0 ≤ if j < i + 1 - 16 then 1600 else 255) := ⟨fun j => by
                      rw [List.getD_eq_getElem?_getD, List.getElem?_set]
                      split
                      · rename_i e
                        subst e
                        rw [if_pos (by rw [OX.len]; exact hk17), if_pos (by omega)]
                        show z ≤ 1600
                        omega
                      · have := BX.out j
                        rw [List.getD_eq_getElem?_getD] at this
                        split
                        · split at this <;> omega
                        · rw [if_neg (by omega)] at this
                          exact this⟩
                    have y5B : y5 ≤ 1275 := by omega
                    have zB : z < 2000 := by omega
                    clear hxk hy5 hz EV BX Eyk hk_ hi1_
                    go_wp2_with (first | ((with_reducible refine wv_val (d := 52) ?hd ?hw (.pointer (some ⟨g, i, none⟩)) ?hr ?_); (case hd => rfl); (case hw => kernel_rfl); (case hr => intro w; exact run_idxO (i := i) (l := m) rfl (by kernel_rfl) (by kernel_rfl) Try.underlying78 him sz_int w); simp only [Act.put, List.setIfInBounds_toArray, List.set_cons_succ, List.set_cons_zero]) | ((with_reducible refine wv_elem (d := 53) ?hd ?hw 3 ag_int (.tmp 52) ?ho (⟨g, i, none⟩) ?hx (.int .i64 ((di : Nat) : Int)) ?hc ?_); (case hd => rfl); (case hw => kernel_rfl); (case ho => rfl); (case hx => kernel_rfl); (case hc => exact KDi.out); simp only [Act.put, List.setIfInBounds_toArray, List.set_cons_succ, List.set_cons_zero]) | ((with_reducible refine wv_val (d := 54) ?hd ?hw (.int .i64 ((yk : Nat) : Int)) ?hr ?_); (case hd => rfl); (case hw => kernel_rfl); (case hr => intro w; exact run_quo4 rfl (by kernel_rfl) Hq.out (by omega) w); simp only [Act.put, List.setIfInBounds_toArray, List.set_cons_succ, List.set_cons_zero]) | ((with_reducible refine wv_val (d := 56) ?hd ?hw (.int .i64 ((i1 : Nat) : Int)) ?hr ?_); (case hd => rfl); (case hw => kernel_rfl); (case hr => intro w; exact run_addZ 1 rfl (by kernel_rfl) Hi1.out (by omega) w); simp only [Act.put, List.setIfInBounds_toArray, List.set_cons_succ, List.set_cons_zero]) | ((with_reducible refine wv_val (d := 70) ?hd ?hw (.int .i64 ((k : Nat) : Int)) ?hr ?_); (case hd => rfl); (case hw => kernel_rfl); (case hr => intro w; exact run_subZ 16 rfl (by kernel_rfl) Hk.out (by omega) w); simp only [Act.put, List.setIfInBounds_toArray, List.set_cons_succ, List.set_cons_zero]) | ((with_reducible refine wv_val (d := 73) ?hd ?hw (.int .i64 ((k : Nat) : Int)) ?hr ?_); (case hd => rfl); (case hw => kernel_rfl); (case hr => intro w; exact run_subZ 16 rfl (by kernel_rfl) Hk.out (by omega) w); simp only [Act.put, List.setIfInBounds_toArray, List.set_cons_succ, List.set_cons_zero]) | ((with_reducible refine wv_val (d := 78) ?hd ?hw (.pointer (some ⟨g6, k, none⟩)) ?hr ?_); (case hd => rfl); (case hw => kernel_rfl); (case hr => intro w; exact run_idxO (i := k) (l := 17) rfl (by kernel_rfl) (by kernel_rfl) Try.underlying78 hk17 sz_int w); simp only [Act.put, List.setIfInBounds_toArray, List.set_cons_succ, List.set_cons_zero]) | ((with_reducible refine wv_elem (d := 79) ?hd ?hw 3 ag_int (.tmp 78) ?ho (⟨g6, k, none⟩) ?hx (.int .i64 ((xk : Nat) : Int)) ?hc ?_); (case hd => rfl); (case hw => kernel_rfl); (case ho => rfl); (case hx => kernel_rfl); (case hc => exact KXk.out); simp only [Act.put, List.setIfInBounds_toArray, List.set_cons_succ, List.set_cons_zero]) | ((with_reducible refine wv_val (d := 81) ?hd ?hw (.int .i64 ((y5 : Nat) : Int)) ?hr ?_); (case hd => rfl); (case hw => kernel_rfl); (case hr => intro w; exact run_mulC 5 rfl (by kernel_rfl) Hy5.out (by omega) w); simp only [Act.put, List.setIfInBounds_toArray, List.set_cons_succ, List.set_cons_zero]) | ((with_reducible refine wv_val (d := 82) ?hd ?hw (.int .i64 ((z : Nat) : Int)) ?hr ?_); (case hd => rfl); (case hw => kernel_rfl); (case hr => intro w; exact run_addVZ rfl (by kernel_rfl) (by kernel_rfl) Hz.out (by omega) w); simp only [Act.put, List.setIfInBounds_toArray, List.set_cons_succ, List.set_cons_zero]) | ((with_reducible refine wv_val (d := 83) ?hd ?hw (.pointer (some ⟨g6, k, none⟩)) ?hr ?_); (case hd => rfl); (case hw => kernel_rfl); (case hr => intro w; exact run_idxO (i := k) (l := 17) rfl (by kernel_rfl) (by kernel_rfl) Try.underlying78 hk17 sz_int w); simp only [Act.put, List.setIfInBounds_toArray, List.set_cons_succ, List.set_cons_zero]) | (refine wl_setOI rfl (.tmp 83) (.tmp 82) rfl wz.heap.size g6 17 cap6 k z X rfl rfl OX hk17 ?_))
                    intro w4 OX4 P4
                    have OD4 := OD.put P4 (by omega)
                    have HB4 := HB.trans (P4.below (by omega))
                    clear OX OD HB P4 KXk Hy5 Hz KDi KDn
                    go_wp2_with (first | ((with_reducible refine wv_val (d := 49) ?hd ?hw (.int .i64 ((i1 : Nat) : Int)) ?hr ?_); (case hd => rfl); (case hw => kernel_rfl); (case hr => intro w; exact run_addZ 1 rfl (by kernel_rfl) Hi1.out (by omega) w); simp only [Act.put, List.setIfInBounds_toArray, List.set_cons_succ, List.set_cons_zero]))
                    go_roundg (gk - 1)
                    case measure => omega
                    case rel => exact ⟨i + 1, _, by omega, by omega, by first | (simp; done) | rw [← Hi1.out], OX4, OD4, EV2, BX2, HB4⟩
                  case neg =>
                    have hk17i : ¬ (k : Int) < 17 := by omega
                    have hk_ := Hk.out
                    have hi1_ := Hi1.out
                    have EV2 : Kept (val X = V % 1361129467683753853853498429727072845824 + 5 * (V / 1361129467683753853853498429727072845824 % 256 ^ min (i + 1 - 16) 17)) := ⟨by rw [EV.out, show min (i - 16) 17 = 17 by omega, show min (i + 1 - 16) 17 = 17 by omega]⟩
                    have BX2 : Kept (∀ j, X.getD j 0 ≤ if j < i + 1 - 16 then 1600 else 255) := ⟨fun j => by
                      have := BX.out j
                      split
                      · split at this <;> omega
                      · rw [if_neg (by omega)] at this
                        exact this⟩
                    clear EV BX Eyk hk_ hi1_
                    go_wp2_with (first | ((with_reducible refine wv_val (d := 52) ?hd ?hw (.pointer (some ⟨g, i, none⟩)) ?hr ?_); (case hd => rfl); (case hw => kernel_rfl); (case hr => intro w; exact run_idxO (i := i) (l := m) rfl (by kernel_rfl) (by kernel_rfl) Try.underlying78 him sz_int w); simp only [Act.put, List.setIfInBounds_toArray, List.set_cons_succ, List.set_cons_zero]) | ((with_reducible refine wv_elem (d := 53) ?hd ?hw 3 ag_int (.tmp 52) ?ho (⟨g, i, none⟩) ?hx (.int .i64 ((di : Nat) : Int)) ?hc ?_); (case hd => rfl); (case hw => kernel_rfl); (case ho => rfl); (case hx => kernel_rfl); (case hc => exact KDi.out); simp only [Act.put, List.setIfInBounds_toArray, List.set_cons_succ, List.set_cons_zero]) | ((with_reducible refine wv_val (d := 54) ?hd ?hw (.int .i64 ((yk : Nat) : Int)) ?hr ?_); (case hd => rfl); (case hw => kernel_rfl); (case hr => intro w; exact run_quo4 rfl (by kernel_rfl) Hq.out (by omega) w); simp only [Act.put, List.setIfInBounds_toArray, List.set_cons_succ, List.set_cons_zero]) | ((with_reducible refine wv_val (d := 56) ?hd ?hw (.int .i64 ((i1 : Nat) : Int)) ?hr ?_); (case hd => rfl); (case hw => kernel_rfl); (case hr => intro w; exact run_addZ 1 rfl (by kernel_rfl) Hi1.out (by omega) w); simp only [Act.put, List.setIfInBounds_toArray, List.set_cons_succ, List.set_cons_zero]) | ((with_reducible refine wv_val (d := 70) ?hd ?hw (.int .i64 ((k : Nat) : Int)) ?hr ?_); (case hd => rfl); (case hw => kernel_rfl); (case hr => intro w; exact run_subZ 16 rfl (by kernel_rfl) Hk.out (by omega) w); simp only [Act.put, List.setIfInBounds_toArray, List.set_cons_succ, List.set_cons_zero]) | ((with_reducible refine wv_val (d := 73) ?hd ?hw (.int .i64 ((k : Nat) : Int)) ?hr ?_); (case hd => rfl); (case hw => kernel_rfl); (case hr => intro w; exact run_subZ 16 rfl (by kernel_rfl) Hk.out (by omega) w); simp only [Act.put, List.setIfInBounds_toArray, List.set_cons_succ, List.set_cons_zero]) | ((with_reducible refine wv_val (d := 49) ?hd ?hw (.int .i64 ((i1 : Nat) : Int)) ?hr ?_); (case hd => rfl); (case hw => kernel_rfl); (case hr => intro w; exact run_addZ 1 rfl (by kernel_rfl) Hi1.out (by omega) w); simp only [Act.put, List.setIfInBounds_toArray, List.set_cons_succ, List.set_cons_zero]))
                    go_roundg (gk - 1)
                    case measure => omega
                    case rel => exact ⟨i + 1, _, by omega, by omega, by first | (simp; done) | rw [← Hi1.out], OX, OD, EV2, BX2, HB⟩
              case neg =>
                have himi : ¬ (i : Int) < (m : Int) := by omega
                have eV : val X = foldN V := by
                  rw [EV.out]
                  exact fold_end V m _ VM.out VB.out hm17 (by omega)
                have HM : ∀ j, X.getD j 0 ≤ 1099511627776 := fun j => by
                  have := BX.out j
                  split at this <;> omega
                have CC : Kept _ := ⟨carry6 X g6 17 cap6 17 wr OX.len (by decide) (by decide) (by decide) HM OX.holds⟩
                rw [eV] at CC
                clear EV BX HM eV
                go_wp2_with fail
                refine CC.out.mono ?_
                rintro e w5 ⟨g', cap', m', rfl, O5, h17', h70', hV5, hb5⟩
                have HB5 := HB.trans (hb5.mono HB.size)
                have O5' := O5.mono HB.size
                clear OX OD HB CC O5 hb5
                go_wp2_with fail
                go_roundg (foldN V)
                case measure => rw [← VK.out]; exact foldN_less V hbig
                case rel => exact ⟨foldN V, g', m', cap', ⟨rfl⟩, rfl, O5', h17', h70', ⟨hV5⟩, ⟨Nat.lt_trans (foldN_less V hbig) VB.out⟩, ⟨by rw [foldN_mod]; exact VP.out⟩, HB5⟩
          case pos =>
            have h4 : ¬ d16 < 4 := fun h => hsm (hs.2 ⟨hh0, h⟩)
            have h4i : ¬ (d16 : Int) < 4 := by omega
            subst hh0
            clear hs hsm
            have R34 := row_emptyI (base := wz.heap.size) wz (Nat.le_refl _)
            have QE : Below w.heap.size w (wz.alloc (.cells #[] 3)) := HBz.alloc HBz.size _
            have V36 : Kept (IntsV .i64 (.slice (some ⟨g, 0, none⟩) 17 cap) (wz.alloc (.cells #[] 3)) (digs V 17)) := ⟨by
              have h := (OD.alloc (.cells #[] 3)).ints.take (m := 17) (by rw [digs_len]; omega)
              rw [digs_take V m 17 hm17] at h
              exact h⟩
            go_wp2_with (first | ((with_reducible refine wv_val (d := 28) ?hd ?hw (.pointer (some ⟨g, 16, none⟩)) ?hr ?_); (case hd => rfl); (case hw => kernel_rfl); (case hr => intro w; exact run_idxO (i := 16) (l := m) rfl (by kernel_rfl) (by kernel_rfl) Try.underlying78 m16 sz_int w); simp only [Act.put, List.setIfInBounds_toArray, List.set_cons_succ, List.set_cons_zero]) | ((with_reducible refine wv_elem (d := 29) ?hd ?hw 3 ag_int (.tmp 28) ?ho (⟨g, 16, none⟩) ?hx (.int .i64 ((d16 : Nat) : Int)) ?hc ?_); (case hd => rfl); (case hw => kernel_rfl); (case ho => rfl); (case hx => kernel_rfl); (case hc => exact KD16.out); simp only [Act.put, List.setIfInBounds_toArray, List.set_cons_succ, List.set_cons_zero]) | ((with_reducible refine wv_val (d := 36) ?hd ?hw (.slice (some ⟨g, 0, none⟩) 17 cap) ?hr ?_); (case hd => rfl); (case hw => kernel_rfl); (case hr => intro w; exact cutTo_run (l := m) (m := 17) rfl (by kernel_rfl) (by kernel_rfl) Try.underlying78 sz_int (by omega) w); simp only [Act.put, List.setIfInBounds_toArray, List.set_cons_succ, List.set_cons_zero]) | (at_builtin; go_must (refine wl_app (by kernel_rfl) (.tmp 34) (.tmp 36) 78 3 .i64 8 rfl Try.underlying78 inf_int (by decide) (wz.heap.size) ([]) (digs V 17) (.slice (some ⟨wz.heap.size, 0, none⟩) 0 0) (.slice (some ⟨g, 0, none⟩) 17 cap) (by kernel_rfl) (by kernel_rfl) R34 V36.out L17.out (by simp) ?_)))
            intro v6 w1 R6 G6 _
            have B6 : Below wz.heap.size wz w1 := ((Below.refl _ _).alloc (Nat.le_refl _) _).trans (grown_mono G6 (by simp) (fun b hb => by cases hb; exact Nat.le_refl _))
            have R6 : Row wz.heap.size 3 .i64 (digs V 17) v6 w1 := R6
            obtain ⟨g6, cap6, ev6, O6⟩ := oi_row R6 (by rw [digs_len]; decide)
            rw [digs_len] at ev6 O6
            subst ev6
            have gne : g ≠ g6 := by have := O6.1; have := OD.lt; omega
            have g6w : w.heap.size ≤ g6 := Nat.le_trans HBz.size O6.1
            have OD1 := OD.under B6
            have HB1 := HBz.trans (B6.mono HBz.size)
            have K16 : Kept (w1.cell? ⟨g6, 16, none⟩ = some (.int .i64 ((d16 : Nat) : Int))) := ⟨O6.cell (by rw [E16.out]; exact digs_get V 17 16 (by decide))⟩
            clear R34 QE V36 R6 G6 B6
            go_wp2_with (first | ((with_reducible refine wv_val (d := 40) ?hd ?hw (.pointer (some ⟨g6, 16, none⟩)) ?hr ?_); (case hd => rfl); (case hw => kernel_rfl); (case hr => intro w; exact run_idxO (i := 16) (l := 17) rfl (by kernel_rfl) (by kernel_rfl) Try.underlying78 (by decide) sz_int w); simp only [Act.put, List.setIfInBounds_toArray, List.set_cons_succ, List.set_cons_zero]) | ((with_reducible refine wv_elem (d := 41) ?hd ?hw 3 ag_int (.tmp 40) ?ho (⟨g6, 16, none⟩) ?hx (.int .i64 ((d16 : Nat) : Int)) ?hc ?_); (case hd => rfl); (case hw => kernel_rfl); (case ho => rfl); (case hx => kernel_rfl); (case hc => exact K16.out); simp only [Act.put, List.setIfInBounds_toArray, List.set_cons_succ, List.set_cons_zero]) | ((with_reducible refine wv_val (d := 42) ?hd ?hw (.int .i64 ((r16 : Nat) : Int)) ?hr ?_); (case hd => rfl); (case hw => kernel_rfl); (case hr => intro w; exact run_rem4 rfl (by kernel_rfl) H16.out (by omega) w); simp only [Act.put, List.setIfInBounds_toArray, List.set_cons_succ, List.set_cons_zero]) | ((with_reducible refine wv_val (d := 43) ?hd ?hw (.pointer (some ⟨g6, 16, none⟩)) ?hr ?_); (case hd => rfl); (case hw => kernel_rfl); (case hr => intro w; exact run_idxO (i := 16) (l := 17) rfl (by kernel_rfl) (by kernel_rfl) Try.underlying78 (by decide) sz_int w); simp only [Act.put, List.setIfInBounds_toArray, List.set_cons_succ, List.set_cons_zero]) | (refine wl_setOI rfl (.tmp 43) (.tmp 42) rfl wz.heap.size g6 17 cap6 16 r16 (digs V 17) rfl rfl O6 (by decide) ?_))
            intro w2 O62 P2
            have OD2 := OD1.put P2 gne
            have HB2 := HB1.trans (P2.below g6w)
            clear OD1 HB1 O6 P2 K16
            have EV0 : Kept (val ((digs V 17).set 16 r16) = V % 1361129467683753853853498429727072845824 + 5 * (V / 1361129467683753853853498429727072845824 % 256 ^ min (16 - 16) 17)) := ⟨by
              rw [fold_start V r16 (by rw [H16.out, E16.out])]
              simp [Nat.mod_one]⟩
            have BX0 : Kept (∀ j, ((digs V 17).set 16 r16).getD j 0 ≤ if j < 16 - 16 then 1600 else 255) := ⟨fun j => by
              rw [if_neg (by omega)]
              exact Nat.le_of_lt_succ (getD_lt ((digs_bytes V 17).set 16 r16 (by omega)) j)⟩
            go_wp2_with fail
            go_loopg [7] (m - 16) (fun k s7 wr => ∃ (i : Nat) (X : List Nat), 16 ≤ i ∧ i + k = m ∧ s7 = .int .i64 (i : Int) ∧ OI wz.heap.size g6 17 cap6 X wr ∧ OI w.heap.size g m cap (digs V m) wr ∧ Kept (val X = V % 1361129467683753853853498429727072845824 + 5 * (V / 1361129467683753853853498429727072845824 % 256 ^ min (i - 16) 17)) ∧ Kept (∀ j, X.getD j 0 ≤ if j < i - 16 then 1600 else 255) ∧ Below w.heap.size w wr)
            case atStart => exact ⟨16, _, by omega, by omega, rfl, O62, OD2, EV0, BX0, HB2⟩
            case round =>
              clear O62 OD2 EV0 BX0 HB2 OD
              obtain ⟨i, X, hi16, hik, rfl, OX, OD, EV, BX, HB⟩ := hrel
              by_cases him : i < m
              case pos =>
                have himi : (i : Int) < (m : Int) := by omega
                obtain ⟨di, hdi⟩ : ∃ x, x = V / 256 ^ i % 256 := ⟨_, rfl⟩
                obtain ⟨dn, hdn⟩ : ∃ x, x = V / 256 ^ (i + 1) % 256 := ⟨_, rfl⟩
                obtain ⟨q, hq⟩ : ∃ x, x = di / 4 := ⟨_, rfl⟩
                obtain ⟨i1, hi1⟩ : ∃ x, x = i + 1 := ⟨_, rfl⟩
                obtain ⟨k, hk⟩ : ∃ k, i = k + 16 := ⟨i - 16, by omega⟩
                obtain ⟨yk, hyk⟩ : ∃ y, y = V / 1361129467683753853853498429727072845824 / 256 ^ k % 256 := ⟨_, rfl⟩
                have dB : di < 256 := by rw [hdi]; exact Nat.mod_lt _ (by decide)
                have dnB : dn < 256 := by rw [hdn]; exact Nat.mod_lt _ (by decide)
                have ykB : yk < 256 := by rw [hyk]; exact Nat.mod_lt _ (by decide)
                have hyd : yk = di / 4 + dn % 4 * 64 := by rw [hyk, hdi, hdn, hk]; exact high_digit V k
                have KDi : Kept (wr.cell? ⟨g, i, none⟩ = some (.int .i64 ((di : Nat) : Int))) := ⟨OD.cell (by rw [hdi]; exact digs_get V m i him)⟩
                have Hq : Kept _ := ⟨hq⟩
                have Hi1 : Kept _ := ⟨hi1⟩
                have Hk : Kept _ := ⟨hk⟩
                have i1B : i1 ≤ 71 := by omega
                have kB : k ≤ 70 := by omega
                have qB : q < 64 := by omega
                have Eyk : Kept _ := ⟨hyk⟩
                by_cases him1 : i1 < m
                case pos =>
                  have him1i : (i1 : Int) < (m : Int) := by omega
                  have KDn : Kept (wr.cell? ⟨g, i1, none⟩ = some (.int .i64 ((dn : Nat) : Int))) := ⟨OD.cell (by rw [hdn, ← hi1]; exact digs_get V m i1 him1)⟩
                  obtain ⟨r4, hr4⟩ : ∃ x, x = dn % 4 := ⟨_, rfl⟩
                  obtain ⟨r64, hr64⟩ : ∃ x, x = r4 * 64 := ⟨_, rfl⟩
                  have Hr4 : Kept _ := ⟨hr4⟩
                  have Hr64 : Kept _ := ⟨hr64⟩
                  have Hyk : Kept (yk = q + r64) := ⟨by rw [hyd, hq, hr64, hr4]⟩
                  have r4B : r4 < 4 := by omega
                  have r64B : r64 < 256 := by omega
                  clear hdi hdn hq hi1 hk hyk hyd hr4
                  by_cases hk17 : k < 17
                  case pos =>
                    have hk17i : (k : Int) < 17 := by omega
                    obtain ⟨xk, hxk⟩ : ∃ x, X[k]? = some x := ⟨_, List.getElem?_eq_getElem (by rw [OX.len]; exact hk17)⟩
                    have hk_ := Hk.out
                    have hi1_ := Hi1.out
                    have xkB : xk ≤ 255 := by
                      have := BX.out k
                      rw [List.getD_eq_getElem?_getD, hxk, if_neg (by omega)] at this
                      exact this
                    obtain ⟨y5, hy5⟩ : ∃ y, y = 5 * yk := ⟨_, rfl⟩
                    obtain ⟨z, hz⟩ : ∃ z, z = xk + y5 := ⟨_, rfl⟩
                    have KXk : Kept _ := ⟨OX.cell hxk⟩
                    have Hy5 : Kept _ := ⟨hy5⟩
                    have Hz : Kept _ := ⟨hz⟩
                    have EV2 : Kept (val (X.set k z) = V % 1361129467683753853853498429727072845824 + 5 * (V / 1361129467683753853853498429727072845824 % 256 ^ min (i + 1 - 16) 17)) := ⟨by
                      have h1 := val_set X y5 k (by rw [OX.len]; exact hk17)
                      rw [List.getD_eq_getElem?_getD, hxk, Option.getD_some, ← hz] at h1
                      rw [h1, EV.out, show min (i - 16) 17 = k by omega, show min (i + 1 - 16) 17 = k + 1 by omega, mod_succ, ← Eyk.out, hy5, Nat.mul_add, Nat.mul_assoc, Nat.add_assoc]⟩
                    have BX2 : Kept (∀ j, (X.set k z).getD j 0 ≤ if j < i + 1 - 16 then 1600 else 255) := ⟨fun j => by
                      rw [List.getD_eq_getElem?_getD, List.getElem?_set]
                      split
                      · rename_i e
                        subst e
                        rw [if_pos (by rw [OX.len]; exact hk17), if_pos (by omega)]
                        show z ≤ 1600
                        omega
                      · have := BX.out j
                        rw [List.getD_eq_getElem?_getD] at this
                        split
                        · split at this <;> omega
                        · rw [if_neg (by omega)] at this
                          exact this⟩
                    have y5B : y5 ≤ 1275 := by omega
                    have zB : z < 2000 := by omega
                    clear hxk hy5 hz EV BX Eyk hk_ hi1_
                    go_wp2_with (first | ((with_reducible refine wv_val (d := 52) ?hd ?hw (.pointer (some ⟨g, i, none⟩)) ?hr ?_); (case hd => rfl); (case hw => kernel_rfl); (case hr => intro w; exact run_idxO (i := i) (l := m) rfl (by kernel_rfl) (by kernel_rfl) Try.underlying78 him sz_int w); simp only [Act.put, List.setIfInBounds_toArray, List.set_cons_succ, List.set_cons_zero]) | ((with_reducible refine wv_elem (d := 53) ?hd ?hw 3 ag_int (.tmp 52) ?ho (⟨g, i, none⟩) ?hx (.int .i64 ((di : Nat) : Int)) ?hc ?_); (case hd => rfl); (case hw => kernel_rfl); (case ho => rfl); (case hx => kernel_rfl); (case hc => exact KDi.out); simp only [Act.put, List.setIfInBounds_toArray, List.set_cons_succ, List.set_cons_zero]) | ((with_reducible refine wv_val (d := 54) ?hd ?hw (.int .i64 ((q : Nat) : Int)) ?hr ?_); (case hd => rfl); (case hw => kernel_rfl); (case hr => intro w; exact run_quo4 rfl (by kernel_rfl) Hq.out (by omega) w); simp only [Act.put, List.setIfInBounds_toArray, List.set_cons_succ, List.set_cons_zero]) | ((with_reducible refine wv_val (d := 56) ?hd ?hw (.int .i64 ((i1 : Nat) : Int)) ?hr ?_); (case hd => rfl); (case hw => kernel_rfl); (case hr => intro w; exact run_addZ 1 rfl (by kernel_rfl) Hi1.out (by omega) w); simp only [Act.put, List.setIfInBounds_toArray, List.set_cons_succ, List.set_cons_zero]) | ((with_reducible refine wv_val (d := 63) ?hd ?hw (.int .i64 ((i1 : Nat) : Int)) ?hr ?_); (case hd => rfl); (case hw => kernel_rfl); (case hr => intro w; exact run_addZ 1 rfl (by kernel_rfl) Hi1.out (by omega) w); simp only [Act.put, List.setIfInBounds_toArray, List.set_cons_succ, List.set_cons_zero]) | ((with_reducible refine wv_val (d := 64) ?hd ?hw (.pointer (some ⟨g, i1, none⟩)) ?hr ?_); (case hd => rfl); (case hw => kernel_rfl); (case hr => intro w; exact run_idxO (i := i1) (l := m) rfl (by kernel_rfl) (by kernel_rfl) Try.underlying78 him1 sz_int w); simp only [Act.put, List.setIfInBounds_toArray, List.set_cons_succ, List.set_cons_zero]) | ((with_reducible refine wv_elem (d := 65) ?hd ?hw 3 ag_int (.tmp 64) ?ho (⟨g, i1, none⟩) ?hx (.int .i64 ((dn : Nat) : Int)) ?hc ?_); (case hd => rfl); (case hw => kernel_rfl); (case ho => rfl); (case hx => kernel_rfl); (case hc => exact KDn.out); simp only [Act.put, List.setIfInBounds_toArray, List.set_cons_succ, List.set_cons_zero]) | ((with_reducible refine wv_val (d := 66) ?hd ?hw (.int .i64 ((r4 : Nat) : Int)) ?hr ?_); (case hd => rfl); (case hw => kernel_rfl); (case hr => intro w; exact run_rem4 rfl (by kernel_rfl) Hr4.out (by omega) w); simp only [Act.put, List.setIfInBounds_toArray, List.set_cons_succ, List.set_cons_zero]) | ((with_reducible refine wv_val (d := 67) ?hd ?hw (.int .i64 ((r64 : Nat) : Int)) ?hr ?_); (case hd => rfl); (case hw => kernel_rfl); (case hr => intro w; exact run_mulK 64 rfl (by kernel_rfl) Hr64.out (by omega) w); simp only [Act.put, List.setIfInBounds_toArray, List.set_cons_succ, List.set_cons_zero]) | ((with_reducible refine wv_val (d := 68) ?hd ?hw (.int .i64 ((yk : Nat) : Int)) ?hr ?_); (case hd => rfl); (case hw => kernel_rfl); (case hr => intro w; exact run_addVZ rfl (by kernel_rfl) (by kernel_rfl) Hyk.out (by omega) w); simp only [Act.put, List.setIfInBounds_toArray, List.set_cons_succ, List.set_cons_zero]) | ((with_reducible refine wv_val (d := 70) ?hd ?hw (.int .i64 ((k : Nat) : Int)) ?hr ?_); (case hd => rfl); (case hw => kernel_rfl); (case hr => intro w; exact run_subZ 16 rfl (by kernel_rfl) Hk.out (by omega) w); simp only [Act.put, List.setIfInBounds_toArray, List.set_cons_succ, List.set_cons_zero]) | ((with_reducible refine wv_val (d := 73) ?hd ?hw (.int .i64 ((k : Nat) : Int)) ?hr ?_); (case hd => rfl); (case hw => kernel_rfl); (case hr => intro w; exact run_subZ 16 rfl (by kernel_rfl) Hk.out (by omega) w); simp only [Act.put, List.setIfInBounds_toArray, List.set_cons_succ, List.set_cons_zero]) | ((with_reducible refine wv_val (d := 78) ?hd ?hw (.pointer (some ⟨g6, k, none⟩)) ?hr ?_); (case hd => rfl); (case hw => kernel_rfl); (case hr => intro w; exact run_idxO (i := k) (l := 17) rfl (by kernel_rfl) (by kernel_rfl) Try.underlying78 hk17 sz_int w); simp only [Act.put, List.setIfInBounds_toArray, List.set_cons_succ, List.set_cons_zero]) | ((with_reducible refine wv_elem (d := 79) ?hd ?hw 3 ag_int (.tmp 78) ?ho (⟨g6, k, none⟩) ?hx (.int .i64 ((xk : Nat) : Int)) ?hc ?_); (case hd => rfl); (case hw => kernel_rfl); (case ho => rfl); (case hx => kernel_rfl); (case hc => exact KXk.out); simp only [Act.put, List.setIfInBounds_toArray, List.set_cons_succ, List.set_cons_zero]) | ((with_reducible refine wv_val (d := 81) ?hd ?hw (.int .i64 ((y5 : Nat) : Int)) ?hr ?_); (case hd => rfl); (case hw => kernel_rfl); (case hr => intro w; exact run_mulC 5 rfl (by kernel_rfl) Hy5.out (by omega) w); simp only [Act.put, List.setIfInBounds_toArray, List.set_cons_succ, List.set_cons_zero]) | ((with_reducible refine wv_val (d := 82) ?hd ?hw (.int .i64 ((z : Nat) : Int)) ?hr ?_); (case hd => rfl); (case hw => kernel_rfl); (case hr => intro w; exact run_addVZ rfl (by kernel_rfl) (by kernel_rfl) Hz.out (by omega) w); simp only [Act.put, List.setIfInBounds_toArray, List.set_cons_succ, List.set_cons_zero]) | ((with_reducible refine wv_val (d := 83) ?hd ?hw (.pointer (some ⟨g6, k, none⟩)) ?hr ?_); (case hd => rfl); (case hw => kernel_rfl); (case hr => intro w; exact run_idxO (i := k) (l := 17) rfl (by kernel_rfl) (by kernel_rfl) Try.underlying78 hk17 sz_int w); simp only [Act.put, List.setIfInBounds_toArray, List.set_cons_succ, List.set_cons_zero]) | (refine wl_setOI rfl (.tmp 83) (.tmp 82) rfl wz.heap.size g6 17 cap6 k z X rfl rfl OX hk17 ?_))
                    intro w4 OX4 P4
                    have OD4 := OD.put P4 (by omega)
                    have HB4 := HB.trans (P4.below (by omega))
                    clear OX OD HB P4 KXk Hy5 Hz KDi KDn
                    go_wp2_with (first | ((with_reducible refine wv_val (d := 49) ?hd ?hw (.int .i64 ((i1 : Nat) : Int)) ?hr ?_); (case hd => rfl); (case hw => kernel_rfl); (case hr => intro w; exact run_addZ 1 rfl (by kernel_rfl) Hi1.out (by omega) w); simp only [Act.put, List.setIfInBounds_toArray, List.set_cons_succ, List.set_cons_zero]))
                    go_roundg (gk - 1)
                    case measure => omega
                    case rel => exact ⟨i + 1, _, by omega, by omega, by first | (simp; done) | rw [← Hi1.out], OX4, OD4, EV2, BX2, HB4⟩
                  case neg =>
                    have hk17i : ¬ (k : Int) < 17 := by omega
                    have hk_ := Hk.out
                    have hi1_ := Hi1.out
                    have EV2 : Kept (val X = V % 1361129467683753853853498429727072845824 + 5 * (V / 1361129467683753853853498429727072845824 % 256 ^ min (i + 1 - 16) 17)) := ⟨by rw [EV.out, show min (i - 16) 17 = 17 by omega, show min (i + 1 - 16) 17 = 17 by omega]⟩
                    have BX2 : Kept (∀ j, X.getD j 0 ≤ if j < i + 1 - 16 then 1600 else 255) := ⟨fun j => by
                      have := BX.out j
                      split
                      · split at this <;> omega
                      · rw [if_neg (by omega)] at this
                        exact this⟩
                    clear EV BX Eyk hk_ hi1_
                    go_wp2_with (first | ((with_reducible refine wv_val (d := 52) ?hd ?hw (.pointer (some ⟨g, i, none⟩)) ?hr ?_); (case hd => rfl); (case hw => kernel_rfl); (case hr => intro w; exact run_idxO (i := i) (l := m) rfl (by kernel_rfl) (by kernel_rfl) Try.underlying78 him sz_int w); simp only [Act.put, List.setIfInBounds_toArray, List.set_cons_succ, List.set_cons_zero]) | ((with_reducible refine wv_elem (d := 53) ?hd ?hw 3 ag_int (.tmp 52) ?ho (⟨g, i, none⟩) ?hx (.int .i64 ((di : Nat) : Int)) ?hc ?_); (case hd => rfl); (case hw => kernel_rfl); (case ho => rfl); (case hx => kernel_rfl); (case hc => exact KDi.out); simp only [Act.put, List.setIfInBounds_toArray, List.set_cons_succ, List.set_cons_zero]) | ((with_reducible refine wv_val (d := 54) ?hd ?hw (.int .i64 ((q : Nat) : Int)) ?hr ?_); (case hd => rfl); (case hw => kernel_rfl); (case hr => intro w; exact run_quo4 rfl (by kernel_rfl) Hq.out (by omega) w); simp only [Act.put, List.setIfInBounds_toArray, List.set_cons_succ, List.set_cons_zero]) | ((with_reducible refine wv_val (d := 56) ?hd ?hw (.int .i64 ((i1 : Nat) : Int)) ?hr ?_); (case hd => rfl); (case hw => kernel_rfl); (case hr => intro w; exact run_addZ 1 rfl (by kernel_rfl) Hi1.out (by omega) w); simp only [Act.put, List.setIfInBounds_toArray, List.set_cons_succ, List.set_cons_zero]) | ((with_reducible refine wv_val (d := 63) ?hd ?hw (.int .i64 ((i1 : Nat) : Int)) ?hr ?_); (case hd => rfl); (case hw => kernel_rfl); (case hr => intro w; exact run_addZ 1 rfl (by kernel_rfl) Hi1.out (by omega) w); simp only [Act.put, List.setIfInBounds_toArray, List.set_cons_succ, List.set_cons_zero]) | ((with_reducible refine wv_val (d := 64) ?hd ?hw (.pointer (some ⟨g, i1, none⟩)) ?hr ?_); (case hd => rfl); (case hw => kernel_rfl); (case hr => intro w; exact run_idxO (i := i1) (l := m) rfl (by kernel_rfl) (by kernel_rfl) Try.underlying78 him1 sz_int w); simp only [Act.put, List.setIfInBounds_toArray, List.set_cons_succ, List.set_cons_zero]) | ((with_reducible refine wv_elem (d := 65) ?hd ?hw 3 ag_int (.tmp 64) ?ho (⟨g, i1, none⟩) ?hx (.int .i64 ((dn : Nat) : Int)) ?hc ?_); (case hd => rfl); (case hw => kernel_rfl); (case ho => rfl); (case hx => kernel_rfl); (case hc => exact KDn.out); simp only [Act.put, List.setIfInBounds_toArray, List.set_cons_succ, List.set_cons_zero]) | ((with_reducible refine wv_val (d := 66) ?hd ?hw (.int .i64 ((r4 : Nat) : Int)) ?hr ?_); (case hd => rfl); (case hw => kernel_rfl); (case hr => intro w; exact run_rem4 rfl (by kernel_rfl) Hr4.out (by omega) w); simp only [Act.put, List.setIfInBounds_toArray, List.set_cons_succ, List.set_cons_zero]) | ((with_reducible refine wv_val (d := 67) ?hd ?hw (.int .i64 ((r64 : Nat) : Int)) ?hr ?_); (case hd => rfl); (case hw => kernel_rfl); (case hr => intro w; exact run_mulK 64 rfl (by kernel_rfl) Hr64.out (by omega) w); simp only [Act.put, List.setIfInBounds_toArray, List.set_cons_succ, List.set_cons_zero]) | ((with_reducible refine wv_val (d := 68) ?hd ?hw (.int .i64 ((yk : Nat) : Int)) ?hr ?_); (case hd => rfl); (case hw => kernel_rfl); (case hr => intro w; exact run_addVZ rfl (by kernel_rfl) (by kernel_rfl) Hyk.out (by omega) w); simp only [Act.put, List.setIfInBounds_toArray, List.set_cons_succ, List.set_cons_zero]) | ((with_reducible refine wv_val (d := 70) ?hd ?hw (.int .i64 ((k : Nat) : Int)) ?hr ?_); (case hd => rfl); (case hw => kernel_rfl); (case hr => intro w; exact run_subZ 16 rfl (by kernel_rfl) Hk.out (by omega) w); simp only [Act.put, List.setIfInBounds_toArray, List.set_cons_succ, List.set_cons_zero]) | ((with_reducible refine wv_val (d := 73) ?hd ?hw (.int .i64 ((k : Nat) : Int)) ?hr ?_); (case hd => rfl); (case hw => kernel_rfl); (case hr => intro w; exact run_subZ 16 rfl (by kernel_rfl) Hk.out (by omega) w); simp only [Act.put, List.setIfInBounds_toArray, List.set_cons_succ, List.set_cons_zero]) | ((with_reducible refine wv_val (d := 49) ?hd ?hw (.int .i64 ((i1 : Nat) : Int)) ?hr ?_); (case hd => rfl); (case hw => kernel_rfl); (case hr => intro w; exact run_addZ 1 rfl (by kernel_rfl) Hi1.out (by omega) w); simp only [Act.put, List.setIfInBounds_toArray, List.set_cons_succ, List.set_cons_zero]))
                    go_roundg (gk - 1)
                    case measure => omega
                    case rel => exact ⟨i + 1, _, by omega, by omega, by first | (simp; done) | rw [← Hi1.out], OX, OD, EV2, BX2, HB⟩
                case neg =>
                  have him1i : ¬ (i1 : Int) < (m : Int) := by omega
                  have edn : dn = 0 := by
                    rw [hdn]
                    have : V / 256 ^ (i + 1) = 0 := Nat.div_eq_of_lt (Nat.lt_of_lt_of_le VM.out (Nat.pow_le_pow_right (by decide) (by omega)))
                    rw [this]
                  have eyq : yk = q := by rw [hyd, edn, hq]; omega
                  have KDn : Kept True := ⟨trivial⟩
                  clear hdi hdn hi1 hk hyk hyd edn hq
                  subst eyq
                  by_cases hk17 : k < 17
                  case pos =>
                    have hk17i : (k : Int) < 17 := by omega
                    obtain ⟨xk, hxk⟩ : ∃ x, X[k]? = some x := ⟨_, List.getElem?_eq_getElem (by rw [OX.len]; exact hk17)⟩
                    have hk_ := Hk.out
                    have hi1_ := Hi1.out
                    have xkB : xk ≤ 255 := by
                      have := BX.out k
                      rw [List.getD_eq_getElem?_getD, hxk, if_neg (by omega)] at this
                      exact this
                    obtain ⟨y5, hy5⟩ : ∃ y, y = 5 * yk := ⟨_, rfl⟩
                    obtain ⟨z, hz⟩ : ∃ z, z = xk + y5 := ⟨_, rfl⟩
                    have KXk : Kept _ := ⟨OX.cell hxk⟩
                    have Hy5 : Kept _ := ⟨hy5⟩
                    have Hz : Kept _ := ⟨hz⟩
                    have EV2 : Kept (val (X.set k z) = V % 1361129467683753853853498429727072845824 + 5 * (V / 1361129467683753853853498429727072845824 % 256 ^ min (i + 1 - 16) 17)) := ⟨by
                      have h1 := val_set X y5 k (by rw [OX.len]; exact hk17)
                      rw [List.getD_eq_getElem?_getD, hxk, Option.getD_some, ← hz] at h1
                      rw [h1, EV.out, show min (i - 16) 17 = k by omega, show min (i + 1 - 16) 17 = k + 1 by omega, mod_succ, ← Eyk.out, hy5, Nat.mul_add, Nat.mul_assoc, Nat.add_assoc]⟩
                    have BX2 : Kept (∀ j, (X.set k z).getD j 0 ≤ if j < i + 1 - 16 then 1600 else 255) := ⟨fun j => by
                      rw [List.getD_eq_getElem?_getD, List.getElem?_set]
                      split
                      · rename_i e
                        subst e
                        rw [if_pos (by rw [OX.len]; exact hk17), if_pos (by omega)]
                        show z ≤ 1600
                        omega
                      · have := BX.out j
                        rw [List.getD_eq_getElem?_getD] at this
                        split
                        · split at this <;> omega
                        · rw [if_neg (by omega)] at this
                          exact this⟩
                    have y5B : y5 ≤ 1275 := by omega
                    have zB : z < 2000 := by omega
                    clear hxk hy5 hz EV BX Eyk hk_ hi1_
                    go_wp2_with (first | ((with_reducible refine wv_val (d := 52) ?hd ?hw (.pointer (some ⟨g, i, none⟩)) ?hr ?_); (case hd => rfl); (case hw => kernel_rfl); (case hr => intro w; exact run_idxO (i := i) (l := m) rfl (by kernel_rfl) (by kernel_rfl) Try.underlying78 him sz_int w); simp only [Act.put, List.setIfInBounds_toArray, List.set_cons_succ, List.set_cons_zero]) | ((with_reducible refine wv_elem (d := 53) ?hd ?hw 3 ag_int (.tmp 52) ?ho (⟨g, i, none⟩) ?hx (.int .i64 ((di : Nat) : Int)) ?hc ?_); (case hd => rfl); (case hw => kernel_rfl); (case ho => rfl); (case hx => kernel_rfl); (case hc => exact KDi.out); simp only [Act.put, List.setIfInBounds_toArray, List.set_cons_succ, List.set_cons_zero]) | ((with_reducible refine wv_val (d := 54) ?hd ?hw (.int .i64 ((yk : Nat) : Int)) ?hr ?_); (case hd => rfl); (case hw => kernel_rfl); (case hr => intro w; exact run_quo4 rfl (by kernel_rfl) Hq.out (by omega) w); simp only [Act.put, List.setIfInBounds_toArray, List.set_cons_succ, List.set_cons_zero]) | ((with_reducible refine wv_val (d := 56) ?hd ?hw (.int .i64 ((i1 : Nat) : Int)) ?hr ?_); (case hd => rfl); (case hw => kernel_rfl); (case hr => intro w; exact run_addZ 1 rfl (by kernel_rfl) Hi1.out (by omega) w); simp only [Act.put, List.setIfInBounds_toArray, List.set_cons_succ, List.set_cons_zero]) | ((with_reducible refine wv_val (d := 70) ?hd ?hw (.int .i64 ((k : Nat) : Int)) ?hr ?_); (case hd => rfl); (case hw => kernel_rfl); (case hr => intro w; exact run_subZ 16 rfl (by kernel_rfl) Hk.out (by omega) w); simp only [Act.put, List.setIfInBounds_toArray, List.set_cons_succ, List.set_cons_zero]) | ((with_reducible refine wv_val (d := 73) ?hd ?hw (.int .i64 ((k : Nat) : Int)) ?hr ?_); (case hd => rfl); (case hw => kernel_rfl); (case hr => intro w; exact run_subZ 16 rfl (by kernel_rfl) Hk.out (by omega) w); simp only [Act.put, List.setIfInBounds_toArray, List.set_cons_succ, List.set_cons_zero]) | ((with_reducible refine wv_val (d := 78) ?hd ?hw (.pointer (some ⟨g6, k, none⟩)) ?hr ?_); (case hd => rfl); (case hw => kernel_rfl); (case hr => intro w; exact run_idxO (i := k) (l := 17) rfl (by kernel_rfl) (by kernel_rfl) Try.underlying78 hk17 sz_int w); simp only [Act.put, List.setIfInBounds_toArray, List.set_cons_succ, List.set_cons_zero]) | ((with_reducible refine wv_elem (d := 79) ?hd ?hw 3 ag_int (.tmp 78) ?ho (⟨g6, k, none⟩) ?hx (.int .i64 ((xk : Nat) : Int)) ?hc ?_); (case hd => rfl); (case hw => kernel_rfl); (case ho => rfl); (case hx => kernel_rfl); (case hc => exact KXk.out); simp only [Act.put, List.setIfInBounds_toArray, List.set_cons_succ, List.set_cons_zero]) | ((with_reducible refine wv_val (d := 81) ?hd ?hw (.int .i64 ((y5 : Nat) : Int)) ?hr ?_); (case hd => rfl); (case hw => kernel_rfl); (case hr => intro w; exact run_mulC 5 rfl (by kernel_rfl) Hy5.out (by omega) w); simp only [Act.put, List.setIfInBounds_toArray, List.set_cons_succ, List.set_cons_zero]) | ((with_reducible refine wv_val (d := 82) ?hd ?hw (.int .i64 ((z : Nat) : Int)) ?hr ?_); (case hd => rfl); (case hw => kernel_rfl); (case hr => intro w; exact run_addVZ rfl (by kernel_rfl) (by kernel_rfl) Hz.out (by omega) w); simp only [Act.put, List.setIfInBounds_toArray, List.set_cons_succ, List.set_cons_zero]) | ((with_reducible refine wv_val (d := 83) ?hd ?hw (.pointer (some ⟨g6, k, none⟩)) ?hr ?_); (case hd => rfl); (case hw => kernel_rfl); (case hr => intro w; exact run_idxO (i := k) (l := 17) rfl (by kernel_rfl) (by kernel_rfl) Try.underlying78 hk17 sz_int w); simp only [Act.put, List.setIfInBounds_toArray, List.set_cons_succ, List.set_cons_zero]) | (refine wl_setOI rfl (.tmp 83) (.tmp 82) rfl wz.heap.size g6 17 cap6 k z X rfl rfl OX hk17 ?_))
                    intro w4 OX4 P4
                    have OD4 := OD.put P4 (by omega)
                    have HB4 := HB.trans (P4.below (by omega))
                    clear OX OD HB P4 KXk Hy5 Hz KDi KDn
                    go_wp2_with (first | ((with_reducible refine wv_val (d := 49) ?hd ?hw (.int .i64 ((i1 : Nat) : Int)) ?hr ?_); (case hd => rfl); (case hw => kernel_rfl); (case hr => intro w; exact run_addZ 1 rfl (by kernel_rfl) Hi1.out (by omega) w); simp only [Act.put, List.setIfInBounds_toArray, List.set_cons_succ, List.set_cons_zero]))
                    go_roundg (gk - 1)
                    case measure => omega
                    case rel => exact ⟨i + 1, _, by omega, by omega, by first | (simp; done) | rw [← Hi1.out], OX4, OD4, EV2, BX2, HB4⟩
                  case neg =>
                    have hk17i : ¬ (k : Int) < 17 := by omega
                    have hk_ := Hk.out
                    have hi1_ := Hi1.out
                    have EV2 : Kept (val X = V % 1361129467683753853853498429727072845824 + 5 * (V / 1361129467683753853853498429727072845824 % 256 ^ min (i + 1 - 16) 17)) := ⟨by rw [EV.out, show min (i - 16) 17 = 17 by omega, show min (i + 1 - 16) 17 = 17 by omega]⟩
                    have BX2 : Kept (∀ j, X.getD j 0 ≤ if j < i + 1 - 16 then 1600 else 255) := ⟨fun j => by
                      have := BX.out j
                      split
                      · split at this <;> omega
                      · rw [if_neg (by omega)] at this
                        exact this⟩
                    clear EV BX Eyk hk_ hi1_
                    go_wp2_with (first | ((with_reducible refine wv_val (d := 52) ?hd ?hw (.pointer (some ⟨g, i, none⟩)) ?hr ?_); (case hd => rfl); (case hw => kernel_rfl); (case hr => intro w; exact run_idxO (i := i) (l := m) rfl (by kernel_rfl) (by kernel_rfl) Try.underlying78 him sz_int w); simp only [Act.put, List.setIfInBounds_toArray, List.set_cons_succ, List.set_cons_zero]) | ((with_reducible refine wv_elem (d := 53) ?hd ?hw 3 ag_int (.tmp 52) ?ho (⟨g, i, none⟩) ?hx (.int .i64 ((di : Nat) : Int)) ?hc ?_); (case hd => rfl); (case hw => kernel_rfl); (case ho => rfl); (case hx => kernel_rfl); (case hc => exact KDi.out); simp only [Act.put, List.setIfInBounds_toArray, List.set_cons_succ, List.set_cons_zero]) | ((with_reducible refine wv_val (d := 54) ?hd ?hw (.int .i64 ((yk : Nat) : Int)) ?hr ?_); (case hd => rfl); (case hw => kernel_rfl); (case hr => intro w; exact run_quo4 rfl (by kernel_rfl) Hq.out (by omega) w); simp only [Act.put, List.setIfInBounds_toArray, List.set_cons_succ, List.set_cons_zero]) | ((with_reducible refine wv_val (d := 56) ?hd ?hw (.int .i64 ((i1 : Nat) : Int)) ?hr ?_); (case hd => rfl); (case hw => kernel_rfl); (case hr => intro w; exact run_addZ 1 rfl (by kernel_rfl) Hi1.out (by omega) w); simp only [Act.put, List.setIfInBounds_toArray, List.set_cons_succ, List.set_cons_zero]) | ((with_reducible refine wv_val (d := 70) ?hd ?hw (.int .i64 ((k : Nat) : Int)) ?hr ?_); (case hd => rfl); (case hw => kernel_rfl); (case hr => intro w; exact run_subZ 16 rfl (by kernel_rfl) Hk.out (by omega) w); simp only [Act.put, List.setIfInBounds_toArray, List.set_cons_succ, List.set_cons_zero]) | ((with_reducible refine wv_val (d := 73) ?hd ?hw (.int .i64 ((k : Nat) : Int)) ?hr ?_); (case hd => rfl); (case hw => kernel_rfl); (case hr => intro w; exact run_subZ 16 rfl (by kernel_rfl) Hk.out (by omega) w); simp only [Act.put, List.setIfInBounds_toArray, List.set_cons_succ, List.set_cons_zero]) | ((with_reducible refine wv_val (d := 49) ?hd ?hw (.int .i64 ((i1 : Nat) : Int)) ?hr ?_); (case hd => rfl); (case hw => kernel_rfl); (case hr => intro w; exact run_addZ 1 rfl (by kernel_rfl) Hi1.out (by omega) w); simp only [Act.put, List.setIfInBounds_toArray, List.set_cons_succ, List.set_cons_zero]))
                    go_roundg (gk - 1)
                    case measure => omega
                    case rel => exact ⟨i + 1, _, by omega, by omega, by first | (simp; done) | rw [← Hi1.out], OX, OD, EV2, BX2, HB⟩
              case neg =>
                have himi : ¬ (i : Int) < (m : Int) := by omega
                have eV : val X = foldN V := by
                  rw [EV.out]
                  exact fold_end V m _ VM.out VB.out hm17 (by omega)
                have HM : ∀ j, X.getD j 0 ≤ 1099511627776 := fun j => by
                  have := BX.out j
                  split at this <;> omega
                have CC : Kept _ := ⟨carry6 X g6 17 cap6 17 wr OX.len (by decide) (by decide) (by decide) HM OX.holds⟩
                rw [eV] at CC
                clear EV BX HM eV
                go_wp2_with fail
                refine CC.out.mono ?_
                rintro e w5 ⟨g', cap', m', rfl, O5, h17', h70', hV5, hb5⟩
                have HB5 := HB.trans (hb5.mono HB.size)
                have O5' := O5.mono HB.size
                clear OX OD HB CC O5 hb5
                go_wp2_with fail
                go_roundg (foldN V)
                case measure => rw [← VK.out]; exact foldN_less V hbig
                case rel => exact ⟨foldN V, g', m', cap', ⟨rfl⟩, rfl, O5', h17', h70', ⟨hV5⟩, ⟨Nat.lt_trans (foldN_less V hbig) VB.out⟩, ⟨by rw [foldN_mod]; exact VP.out⟩, HB5⟩
end Go.Proofs.Ytpamcmhfimnfbaa.sh
