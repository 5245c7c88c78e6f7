/-
  TagBits, walked.
-/
import Derived.Test.YtfcinakpdnblfaaYJ
namespace Go.Proofs.Ytfcinakpdnblfaa.sh
open Go Go.RowKit
set_option linter.unusedVariables false
set_option linter.unusedSimpArgs false

/-- A byte of a key, with noise in the bits that are left out. -/
def updB (i k n : Nat) : Nat := if i < 16 then (if i % 4 = 3 then k ^^^ (n &&& 240) else if i = 4 ∨ i = 8 ∨ i = 12 then k ^^^ (n &&& 3) else k) else k
def bitsL (key noise : List Nat) : List Nat := (List.range 32).map fun i => updB i (key.getD i 0) (noise.getD i 0)
theorem bitsL_len (key noise : List Nat) : (bitsL key noise).length = 32 := by simp [bitsL]
theorem bitsL_get (key noise : List Nat) (i x y : Nat) (hi : i < 32) (hx : key[i]? = some x) (hy : noise[i]? = some y) : (bitsL key noise)[i]? = some (updB i x y) := by
  simp [bitsL, hi, List.getD_eq_getElem?_getD, hx, hy]
theorem updB_lt (i k n : Nat) (hk : k < 256) (hn : n < 256) : updB i k n < 256 := by
  have h1 : k ^^^ (n &&& 240) < 256 := Nat.xor_lt_two_pow (n := 8) hk (Nat.lt_of_le_of_lt Nat.and_le_left hn)
  have h2 : k ^^^ (n &&& 3) < 256 := Nat.xor_lt_two_pow (n := 8) hk (Nat.lt_of_le_of_lt Nat.and_le_left hn)
  unfold updB
  split
  · split
    · exact h1
    · split
      · exact h2
      · exact hk
  · exact hk
theorem bitsL_bytes {key noise : List Nat} (hk : Bytes key) (hn : Bytes noise) : Bytes (bitsL key noise) := bytes_of_all fun x hx => by
  simp only [bitsL, List.mem_map] at hx
  obtain ⟨i, _, rfl⟩ := hx
  exact updB_lt _ _ _ (getD_lt hk i) (getD_lt hn i)
theorem mask_at : ∀ i, i < 16 → (i % 4 = 3 → maskL.getD i 0 = 15) ∧ (i = 4 ∨ i = 8 ∨ i = 12 → maskL.getD i 0 = 252) := by decide
theorem updB_mask (i k n : Nat) (hi : i < 16) : updB i k n &&& maskL.getD i 0 = k &&& maskL.getD i 0 := by
  have hm := mask_at i hi
  unfold updB
  rw [if_pos hi]
  split
  · rename_i h
    rw [hm.1 h, Nat.and_xor_distrib_right, Nat.and_assoc, show (240 &&& 15 : Nat) = 0 by decide, Nat.and_zero, Nat.xor_zero]
  · split
    · rename_i h
      rw [hm.2 h, Nat.and_xor_distrib_right, Nat.and_assoc, show (3 &&& 252 : Nat) = 0 by decide, Nat.and_zero, Nat.xor_zero]
    · rfl
theorem clamp_get (key : List Nat) (h : key.length = 32) (i : Nat) : (clampL key)[i]? = if i < 16 then some (key.getD i 0 &&& maskL.getD i 0) else none := by
  unfold clampL
  rw [List.getElem?_zipWith]
  by_cases hi : i < 16
  · rw [if_pos hi, List.getElem?_take_of_lt hi, List.getElem?_eq_getElem (by omega), List.getElem?_eq_getElem (show i < maskL.length from hi), List.getD_eq_getElem?_getD, List.getD_eq_getElem?_getD, List.getElem?_eq_getElem (by omega), List.getElem?_eq_getElem (show i < maskL.length from hi)]
    rfl
  · rw [if_neg hi, List.getElem?_eq_none (by simp; omega)]
theorem bits_tag (key noise b : List Nat) (h : key.length = 32) (hn : noise.length = 32) : tagL (bitsL key noise) b = tagL key b := by
  have e1 : clampL (bitsL key noise) = clampL key := by
    apply List.ext_getElem?
    intro i
    rw [clamp_get _ (bitsL_len _ _), clamp_get _ h]
    by_cases hi : i < 16
    · rw [if_pos hi, if_pos hi, List.getD_eq_getElem?_getD, bitsL_get key noise i (key.getD i 0) (noise.getD i 0) (by omega) (by rw [List.getD_eq_getElem?_getD, List.getElem?_eq_getElem (by omega)]; rfl) (by rw [List.getD_eq_getElem?_getD, List.getElem?_eq_getElem (by omega)]; rfl), Option.getD_some, updB_mask i _ _ hi]
    · rw [if_neg hi, if_neg hi]
  have e2 : (bitsL key noise).drop 16 = key.drop 16 := by
    apply List.ext_getElem?
    intro i
    rw [List.getElem?_drop, List.getElem?_drop]
    by_cases hi : 16 + i < 32
    · rw [bitsL_get key noise (16 + i) (key[16 + i]) (noise[16 + i]) hi (List.getElem?_eq_getElem _) (List.getElem?_eq_getElem _), List.getElem?_eq_getElem (by omega)]
      unfold updB
      rw [if_neg (by omega)]
    · rw [List.getElem?_eq_none (by rw [bitsL_len]; omega), List.getElem?_eq_none (by omega)]
  unfold tagL rN sN
  rw [e1, e2]
theorem mix_same (L a : List Nat) (i : Nat) (h : L.length = a.length) (hi : L[i]? = a[i]?) : mix L a (i + 1) = mix L a i := by
  by_cases hl : i < a.length
  · have hx : L[i]? = some a[i] := by rw [hi]; exact List.getElem?_eq_getElem hl
    rw [← mix_set L a i a[i] h hx]
    apply List.ext_getElem?
    intro j
    rw [List.getElem?_set]
    split
    · rename_i e
      subst e
      rw [if_pos (by rw [mix_len L a i h]; exact hl), mix_get L a i h hl, List.getElem?_eq_getElem hl]
    · rfl
  · unfold mix
    rw [List.take_of_length_le (by omega), List.take_of_length_le (by omega), List.drop_of_length_le (by omega), List.drop_of_length_le (by omega)]
theorem bits_mix (key noise : List Nat) (h : key.length = 32) (hn : noise.length = 32) : ∀ j, j ≤ 16 → mix (bitsL key noise) key (16 + j) = mix (bitsL key noise) key 16
  | 0, _ => rfl
  | j + 1, hj => by
    rw [← Nat.add_assoc, mix_same _ _ _ (by rw [bitsL_len, h]), bits_mix key noise h hn j (by omega)]
    rw [bitsL_get key noise (16 + j) (key[16 + j]) (noise[16 + j]) (by omega) (List.getElem?_eq_getElem _) (List.getElem?_eq_getElem _), List.getElem?_eq_getElem (by omega)]
    unfold updB
    rw [if_neg (by omega)]
theorem run_and8C {o : Oper} {a : Act} {x : Operand} {m z : Nat} (c : Nat) (ho : o.op = .binOp .and 5 x (.const (.int .u8 (c : Int))) 5) (hx : a.eval x = .int .u8 (m : Int)) (hm : m < 256) (hc : c < 256) (hz : z = m &&& c) (w : World) : (execOp a.eval o).run Try.prog w = .ok (.value (.int .u8 (z : Int))) w := by
  have e3 : a.eval (.const (.int .u8 (c : Int))) = .int .u8 (c : Int) := rfl
  have h := u8_and_nat m c hm hc
  unfold execOp
  simp only [ho, hx, e3]
  rw [hz]
  simp [go_sem]
  exact h

theorem run_eqIF {o : Oper} {a : Act} {x : Operand} {i : Nat} (c : Nat) (ho : o.op = .binOp .eql 3 x (.const (.int .i64 (c : Int))) 3) (hx : a.eval x = .int .i64 (i : Int)) (h : i ≠ c) (w : World) : (execOp a.eval o).run Try.prog w = .ok (.value (.bool false)) w := by
  have e3 : a.eval (.const (.int .i64 (c : Int))) = .int .i64 (c : Int) := rfl
  unfold execOp
  simp only [ho, hx, e3]
  simp [go_sem]
  omega

set_option maxRecDepth 100000 in
set_option maxHeartbeats 4000000 in
theorem bits6 (key noise : List Nat) (v : Value) (b : List Nat) (w : World) (hk : key.length = 32) (hy : Bytes key) (hnl : noise.length = 32) (hyn : Bytes noise) (hv : BytesV v w b) (hyb : Bytes b) (hm : b.length ≤ maxLen) :
    Calls Try.prog 6 #[.agg (ints .u8 key), .agg (ints .u8 noise), v] w fun e w' => e = .returned (.bool true) ∧ Below w.heap.size w w' := by
  obtain ⟨L, hL⟩ : ∃ L, L = bitsL key noise := ⟨_, rfl⟩
  obtain ⟨TG, hTG⟩ : ∃ T, T = tagL key b := ⟨_, rfl⟩
  have LT : Kept (TG.length = 16) := ⟨by rw [hTG]; exact tagL_len _ _⟩
  have LL : Kept (L.length = 32) := ⟨by rw [hL]; exact bitsL_len _ _⟩
  have LK : Kept _ := ⟨hk⟩
  have HL : Kept (L.length = key.length) := ⟨by rw [LL.out, hk]⟩
  have LN : Kept _ := ⟨hnl⟩
  have YK : Kept _ := ⟨hy⟩
  have YN : Kept _ := ⟨hyn⟩
  have C1 : Kept (∀ w' v, BytesV v w' b → Calls Try.prog 10 #[.agg (ints .u8 key), v] w' fun e w2 => e = .returned (.agg (ints .u8 TG)) ∧ Below w'.heap.size w' w2) := ⟨fun w' v hv => by rw [hTG]; exact SumD key b v w' hk hy hyb hv⟩
  have C2 : Kept (∀ w' v, BytesV v w' b → Calls Try.prog 10 #[.agg (ints .u8 L), v] w' fun e w2 => e = .returned (.agg (ints .u8 TG)) ∧ Below w'.heap.size w' w2) := ⟨fun w' v hv => by
    rw [hTG, ← bits_tag key noise b hk hnl, ← hL]
    exact SumD L b v w' LL.out (by rw [hL]; exact bitsL_bytes hy hyn) hyb hv⟩
  have GL : Kept (∀ i x y, i < 32 → key[i]? = some x → noise[i]? = some y → L[i]? = some (updB i x y)) := ⟨fun i x y h1 h2 h3 => by rw [hL]; exact bitsL_get key noise i x y h1 h2 h3⟩
  have EM : Kept (mix L key 16 = L) := ⟨by
    rw [hL, ← bits_mix key noise hk hnl 16 (Nat.le_refl _), ← hL, show 16 + 16 = key.length by rw [hk]]
    exact mix_all L key HL.out⟩
  have KV : Kept _ := ⟨hv⟩
  obtain ⟨p, c, rfl, _, _⟩ := hv
  obtain ⟨n, hn⟩ : ∃ n, n = b.length := ⟨_, rfl⟩
  rw [← hn] at KV hm ⊢
  have A0 : Blk ((w.alloc (.cells (ints .u8 key) 22)).alloc (.cells (ints .u8 noise) 22)) w.heap.size 22 (ints .u8 key) := (blk_new w _ _).alloc _
  have A1 : Blk ((w.alloc (.cells (ints .u8 key) 22)).alloc (.cells (ints .u8 noise) 22)) (w.heap.size + 1) 22 (ints .u8 noise) := blk_top _ _ _ _ (by simp)
  have Q0 : Below w.heap.size w ((w.alloc (.cells (ints .u8 key) 22)).alloc (.cells (ints .u8 noise) 22)) := ((Below.refl _ _).alloc (Nat.le_refl _) _).alloc (by simp) _
  clear hL hTG hk hy hnl hyn hyb hn
  go_enter Try.func6, Try.ntmps6
  go_wp2_with fail
  refine (alive6 _).mono ?_
  rintro e w1 ⟨rfl, hb1⟩
  have B0 := A0.under hb1
  have B1 := A1.under hb1
  have Q1 := Q0.trans (hb1.mono Q0.size)
  clear A0 A1 Q0 hb1
  by_cases h1000 : n ≤ 1000
  case neg =>
    have hi : (1000 : Int) < (n : Int) := by omega
    go_wp2_with fail
    go_ret
    exact ⟨rfl, Q1⟩
  case pos =>
    have hi : ¬ (1000 : Int) < (n : Int) := by omega
    have sz1 : w.heap.size + 1 < w1.heap.size := B1.lt
    go_wp2_with (first | ((with_reducible refine wv_row (d := 14) ?hd ?hw 22 (.tmp 3) ?ho (w.heap.size) ?hx (t' := 22) (ints .u8 key) _ _ Try.underlying22 ?hs ?hg ?_); (case hd => rfl); (case hw => kernel_rfl); (case ho => rfl); (case hx => kernel_rfl); (case hs => rw [ints_size, LK.out]; exact t32_info); (case hg => exact B0); simp only [Act.put, List.setIfInBounds_toArray, List.set_cons_succ, List.set_cons_zero]) | (refine wl_store rfl 22 (.tmp 7) (.tmp 14) rfl w1.heap.size (ints .u8 key) rfl rfl _ (blk_new w1 _ _) (by rw [ints_size, LK.out]; exact t32_info) (by rw [ints_size, LK.out]; rfl) (ints_one _ _) ?_))
    intro w2 E7 P2
    have E0 := P2.blk (B0.alloc _) (by omega)
    have E1 := P2.blk (B1.alloc _) (by omega)
    have Q2 := (Q1.alloc Q1.size _).trans (P2.below (by omega))
    generalize hg7 : w1.heap.size = g7 at *
    clear B0 B1 Q1 P2 hg7
    go_wp2_with fail
    go_loopg [15] 16 (fun k s15 wr => ∃ i : Nat, i + k = 16 ∧ s15 = .int .i64 (i : Int) ∧ Below w.heap.size w wr ∧ Blk wr w.heap.size 22 (ints .u8 key) ∧ Blk wr (w.heap.size + 1) 22 (ints .u8 noise) ∧ Blk wr g7 22 (ints .u8 (mix L key i)))
    case atStart => exact ⟨0, by omega, rfl, Q2, E0, E1, by rw [mix_zero]; exact E7⟩
    case round =>
      obtain ⟨i, hik, rfl, HB, A0, A1, A7⟩ := hrel
      clear Q2 E0 E1 E7
      by_cases hi16 : i < 16
      case neg =>
        have hlt : ¬ ((i : Int) < 16) := by omega
        rw [show i = 16 by omega, EM.out] at A7
        have CS1 : Kept (∀ w', Below wr.heap.size wr w' → Calls Try.prog 10 [.agg (ints .u8 key), .slice p n c].toArray w' fun e w2 => e = .returned (.agg (ints .u8 TG)) ∧ Below w'.heap.size w' w2) := ⟨fun w' hb => C1.out w' _ (KV.out.under (HB.trans (hb.mono HB.size)))⟩
        have CS2 : Kept (∀ w', Below wr.heap.size wr w' → Calls Try.prog 10 [.agg (ints .u8 L), .slice p n c].toArray w' fun e w2 => e = .returned (.agg (ints .u8 TG)) ∧ Below w'.heap.size w' w2) := ⟨fun w' hb => C2.out w' _ (KV.out.under (HB.trans (hb.mono HB.size)))⟩
        clear C1 C2 GL EM
        go_wp2_with fail
        refine region_ownL wr 7 [(52, .agg (ints .u8 key)), (53, .slice p n c), (54, .agg (ints .u8 TG)), (55, .agg (ints .u8 L)), (56, .slice p n c), (57, .agg (ints .u8 TG)), (58, .bool true)] [] [] [] rfl (by kernel_rfl) (by kernel_rfl) (by kernel_rfl) (by kernel_rfl) (by kernel_rfl) (by kernel_rfl) (by kernel_rfl) (by kernel_rfl) (by kernel_rfl) (by kernel_rfl) (by kernel_rfl) ?hst1 ?hst2 (Below.refl _ _) (fun hA => ⟨ow_row hA (wants_none rfl) 52 (.agg (ints .u8 key)) (by kernel_rfl) rfl rfl rfl rfl (by kernel_rfl) 22 (.tmp 3) rfl (w.heap.size) (by kernel_rfl) 22 (ints .u8 key) 32 5 Try.underlying22 ((by rw [ints_size, LK.out]; exact t32_info)) (fun w1 hb => A0.under hb) rfl, ow_val hA (wants_none rfl) 53 (.slice p n c) (by kernel_rfl) rfl rfl rfl rfl (by kernel_rfl) (fun w => by kernel_rfl), ow_calld hA (wants_none rfl) 54 (.agg (ints .u8 TG)) (by kernel_rfl) rfl rfl rfl rfl (by kernel_rfl) 10 Try.f10 _ [.tmp 52, .tmp 53] _ [.agg (ints .u8 key), .slice p n c] rfl (by kernel_rfl) Try.func10 (by kernel_rfl) rfl (CS1.out), ow_row hA (wants_none rfl) 55 (.agg (ints .u8 L)) (by kernel_rfl) rfl rfl rfl rfl (by kernel_rfl) 22 (.tmp 7) rfl (g7) (by kernel_rfl) 22 (ints .u8 L) 32 5 Try.underlying22 ((by rw [ints_size, LL.out]; exact t32_info)) (fun w1 hb => A7.under hb) rfl, ow_val hA (wants_none rfl) 56 (.slice p n c) (by kernel_rfl) rfl rfl rfl rfl (by kernel_rfl) (fun w => by kernel_rfl), ow_calld hA (wants_none rfl) 57 (.agg (ints .u8 TG)) (by kernel_rfl) rfl rfl rfl rfl (by kernel_rfl) 10 Try.f10 _ [.tmp 55, .tmp 56] _ [.agg (ints .u8 L), .slice p n c] rfl (by kernel_rfl) Try.func10 (by kernel_rfl) rfl (CS2.out), ow_val hA (wants_none rfl) 58 (.bool true) (by kernel_rfl) rfl rfl rfl rfl (by kernel_rfl) (fun w => by rw [run_eql_row (TG) (TG) rfl (by kernel_rfl) (by kernel_rfl) LT.out LT.out Try.underlying25 Try.underlying5 sz_u8 ag_u8 eg16]; rw [decide_eq_true rfl]), trivial⟩) ?_
        case hst1 => intro q hq; cases hq
        case hst2 => intro q hq; cases hq
        intro fv w5 hf hD hb5
        simp only [putR, List.foldl_cons, List.foldl_nil, List.map_cons, List.map_nil, Act.put, List.setIfInBounds_toArray, List.set_cons_succ, List.set_cons_zero]
        go_wp2_with fail
        go_ret
        exact ⟨rfl, HB.trans (hb5.mono HB.size)⟩
      case pos =>
        have hlt : ((i : Int) < 16) := by omega
        have hil : i < 32 := by omega
        obtain ⟨x, hx⟩ : ∃ x, key[i]? = some x := ⟨_, List.getElem?_eq_getElem (by have := LK.out; omega)⟩
        obtain ⟨y, hy⟩ : ∃ y, noise[i]? = some y := ⟨_, List.getElem?_eq_getElem (by have := LN.out; omega)⟩
        have x8 : x < 256 := YK.out i x hx
        have y8 : y < 256 := YN.out i y hy
        have gl := GL.out i x y hil hx hy
        have gx : Kept ((ints .u8 (mix L key i))[i]? = some (.int .u8 (x : Int))) := ⟨ints_get (by rw [mix_get L key i HL.out (by rw [LK.out]; exact hil)]; exact hx)⟩
        have gy : Kept ((ints .u8 noise)[i]? = some (.int .u8 (y : Int))) := ⟨ints_get hy⟩
        have LM : Kept (i < (ints .u8 (mix L key i)).size) := ⟨by rw [ints_size, mix_len L key i HL.out, LK.out]; exact hil⟩
        unfold updB at gl
        rw [if_pos hi16] at gl
        obtain ⟨r, hr⟩ : ∃ r, r = i % 4 := ⟨_, rfl⟩
        rw [← hr] at gl
        have Hr : Kept _ := ⟨hr⟩
        have iB : i < 4611686018427387904 := by omega
        clear hr
        by_cases h3 : r = 3
        case pos =>
          subst h3
          rw [if_pos rfl] at gl
          obtain ⟨t, ht⟩ : ∃ t, t = y &&& 240 := ⟨_, rfl⟩
          obtain ⟨z, hz⟩ : ∃ z, z = x ^^^ t := ⟨_, rfl⟩
          have t8 : t < 256 := by rw [ht]; exact Nat.lt_of_le_of_lt Nat.and_le_left y8
          have gz : Kept (L[i]? = some z) := ⟨by rw [hz, ht]; exact gl⟩
          have Et : Kept _ := ⟨ht⟩
          have Ez : Kept _ := ⟨hz⟩
          clear gl ht hz hx hy
          go_wp2_with (first | ((with_reducible refine wv_val (d := 20) ?hd ?hw (.int .i64 3) ?hr ?_); (case hd => rfl); (case hw => kernel_rfl); (case hr => intro w; exact run_rem4 (z := 3) rfl (by kernel_rfl) Hr.out iB w); simp only [Act.put, List.setIfInBounds_toArray, List.set_cons_succ, List.set_cons_zero]))
          refine region_ownL wr 9 [(22, .int .i64 (i : Int)), (23, .pointer (some ⟨g7, i, none⟩)), (24, .int .u8 (x : Int)), (25, .int .i64 (i : Int)), (26, .pointer (some ⟨w.heap.size + 1, i, none⟩)), (27, .int .u8 (y : Int)), (28, .int .u8 (t : Int)), (29, .int .u8 (z : Int)), (30, .pointer (some ⟨g7, i, none⟩))] [] [] [] rfl (by kernel_rfl) (by kernel_rfl) (by kernel_rfl) (by kernel_rfl) (by kernel_rfl) (by kernel_rfl) (by kernel_rfl) (by kernel_rfl) (by kernel_rfl) (by kernel_rfl) (by kernel_rfl) ?hst1 ?hst2 (Below.refl _ _) (fun hA => ⟨ow_val hA (wants_none rfl) 22 (.int .i64 (i : Int)) (by kernel_rfl) rfl rfl rfl rfl (by kernel_rfl) (fun w => by kernel_rfl), ow_val hA (wants_none rfl) 23 (.pointer (some ⟨g7, i, none⟩)) (by kernel_rfl) rfl rfl rfl rfl (by kernel_rfl) (fun w => run_idx (i := i) rfl (by kernel_rfl) (by kernel_rfl) Try.underlying22 hil sz_u8 w), ow_elem hA (wants_none rfl) 24 (.int .u8 (x : Int)) (by kernel_rfl) rfl rfl rfl rfl (by kernel_rfl) 5 ag_u8 (.tmp 23) rfl (⟨g7, i, none⟩) (by kernel_rfl) (fun w1 hb => (A7.under hb).cell gx.out), ow_val hA (wants_none rfl) 25 (.int .i64 (i : Int)) (by kernel_rfl) rfl rfl rfl rfl (by kernel_rfl) (fun w => by kernel_rfl), ow_val hA (wants_none rfl) 26 (.pointer (some ⟨w.heap.size + 1, i, none⟩)) (by kernel_rfl) rfl rfl rfl rfl (by kernel_rfl) (fun w => run_idx (i := i) rfl (by kernel_rfl) (by kernel_rfl) Try.underlying22 hil sz_u8 w), ow_elem hA (wants_none rfl) 27 (.int .u8 (y : Int)) (by kernel_rfl) rfl rfl rfl rfl (by kernel_rfl) 5 ag_u8 (.tmp 26) rfl (⟨w.heap.size + 1, i, none⟩) (by kernel_rfl) (fun w1 hb => (A1.under hb).cell gy.out), ow_val hA (wants_none rfl) 28 (.int .u8 (t : Int)) (by kernel_rfl) rfl rfl rfl rfl (by kernel_rfl) (fun w => run_and8C 240 rfl (by kernel_rfl) y8 (by decide) Et.out w), ow_val hA (wants_none rfl) 29 (.int .u8 (z : Int)) (by kernel_rfl) rfl rfl rfl rfl (by kernel_rfl) (fun w => run_xorV rfl (by kernel_rfl) (by kernel_rfl) x8 t8 Ez.out w), ow_val hA (wants_none rfl) 30 (.pointer (some ⟨g7, i, none⟩)) (by kernel_rfl) rfl rfl rfl rfl (by kernel_rfl) (fun w => run_idx (i := i) rfl (by kernel_rfl) (by kernel_rfl) Try.underlying22 hil sz_u8 w), trivial⟩) ?_
          case hst1 => intro q hq; cases hq
          case hst2 => intro q hq; cases hq
          intro fv wt hf hD hwt
          simp only [putR, List.foldl_cons, List.foldl_nil, List.map_cons, List.map_nil, Act.put, List.setIfInBounds_toArray, List.set_cons_succ, List.set_cons_zero]
          have B0 := A0.under hwt
          have B1 := A1.under hwt
          have B7 := A7.under hwt
          have HB2 := HB.trans (hwt.mono HB.size)
          clear hf hD A0 A1 A7 HB hwt gx gy
          refine wl_setElem rfl 5 sz_u8 (.tmp 30) (.tmp 29) rfl g7 i .u8 (z : Int) (by kernel_rfl) (by kernel_rfl) _ B7 LM.out ?_
          intro w4 D7 P4
          rw [ints_set, mix_set L key i z HL.out gz.out] at D7
          have D0 := P4.blk B0 (by omega)
          have D1 := P4.blk B1 (by omega)
          have HB4 := HB2.trans (P4.below (by omega))
          clear B0 B1 B7 HB2 P4 gz
          go_wp2_with fail
          go_roundg (gk - 1)
          case measure => omega
          case rel => exact ⟨i + 1, by omega, by simp, HB4, D0, D1, D7⟩
        case neg =>
          rw [if_neg h3] at gl
          have h3i : ¬ (r : Int) = 3 := by omega
          by_cases h4 : i = 4 ∨ i = 8 ∨ i = 12
          case pos =>
            rw [if_pos h4] at gl
            obtain ⟨t, ht⟩ : ∃ t, t = y &&& 3 := ⟨_, rfl⟩
            obtain ⟨z, hz⟩ : ∃ z, z = x ^^^ t := ⟨_, rfl⟩
            have t8 : t < 256 := by rw [ht]; exact Nat.lt_of_le_of_lt Nat.and_le_left y8
            have gz : Kept (L[i]? = some z) := ⟨by rw [hz, ht]; exact gl⟩
            have Et : Kept _ := ⟨ht⟩
            have Ez : Kept _ := ⟨hz⟩
            clear gl ht hz hx hy
            rcases h4 with h4 | h4 | h4
            · subst h4
              go_wp2_with (first | ((with_reducible refine wv_val (d := 20) ?hd ?hw (.int .i64 (r : Int)) ?hr ?_); (case hd => rfl); (case hw => kernel_rfl); (case hr => intro w; exact run_rem4 (i := 4) rfl (by kernel_rfl) Hr.out iB w); simp only [Act.put, List.setIfInBounds_toArray, List.set_cons_succ, List.set_cons_zero]))
              refine region_ownL wr 9 [(42, .int .i64 (4 : Int)), (43, .pointer (some ⟨g7, 4, none⟩)), (44, .int .u8 (x : Int)), (45, .int .i64 (4 : Int)), (46, .pointer (some ⟨w.heap.size + 1, 4, none⟩)), (47, .int .u8 (y : Int)), (48, .int .u8 (t : Int)), (49, .int .u8 (z : Int)), (50, .pointer (some ⟨g7, 4, none⟩))] [] [] [] rfl (by kernel_rfl) (by kernel_rfl) (by kernel_rfl) (by kernel_rfl) (by kernel_rfl) (by kernel_rfl) (by kernel_rfl) (by kernel_rfl) (by kernel_rfl) (by kernel_rfl) (by kernel_rfl) ?hst1 ?hst2 (Below.refl _ _) (fun hA => ⟨ow_val hA (wants_none rfl) 42 (.int .i64 (4 : Int)) (by kernel_rfl) rfl rfl rfl rfl (by kernel_rfl) (fun w => by kernel_rfl), ow_val hA (wants_none rfl) 43 (.pointer (some ⟨g7, 4, none⟩)) (by kernel_rfl) rfl rfl rfl rfl (by kernel_rfl) (fun w => run_idx (i := 4) rfl (by kernel_rfl) (by kernel_rfl) Try.underlying22 hil sz_u8 w), ow_elem hA (wants_none rfl) 44 (.int .u8 (x : Int)) (by kernel_rfl) rfl rfl rfl rfl (by kernel_rfl) 5 ag_u8 (.tmp 43) rfl (⟨g7, 4, none⟩) (by kernel_rfl) (fun w1 hb => (A7.under hb).cell gx.out), ow_val hA (wants_none rfl) 45 (.int .i64 (4 : Int)) (by kernel_rfl) rfl rfl rfl rfl (by kernel_rfl) (fun w => by kernel_rfl), ow_val hA (wants_none rfl) 46 (.pointer (some ⟨w.heap.size + 1, 4, none⟩)) (by kernel_rfl) rfl rfl rfl rfl (by kernel_rfl) (fun w => run_idx (i := 4) rfl (by kernel_rfl) (by kernel_rfl) Try.underlying22 hil sz_u8 w), ow_elem hA (wants_none rfl) 47 (.int .u8 (y : Int)) (by kernel_rfl) rfl rfl rfl rfl (by kernel_rfl) 5 ag_u8 (.tmp 46) rfl (⟨w.heap.size + 1, 4, none⟩) (by kernel_rfl) (fun w1 hb => (A1.under hb).cell gy.out), ow_val hA (wants_none rfl) 48 (.int .u8 (t : Int)) (by kernel_rfl) rfl rfl rfl rfl (by kernel_rfl) (fun w => run_and8C 3 rfl (by kernel_rfl) y8 (by decide) Et.out w), ow_val hA (wants_none rfl) 49 (.int .u8 (z : Int)) (by kernel_rfl) rfl rfl rfl rfl (by kernel_rfl) (fun w => run_xorV rfl (by kernel_rfl) (by kernel_rfl) x8 t8 Ez.out w), ow_val hA (wants_none rfl) 50 (.pointer (some ⟨g7, 4, none⟩)) (by kernel_rfl) rfl rfl rfl rfl (by kernel_rfl) (fun w => run_idx (i := 4) rfl (by kernel_rfl) (by kernel_rfl) Try.underlying22 hil sz_u8 w), trivial⟩) ?_
              case hst1 => intro q hq; cases hq
              case hst2 => intro q hq; cases hq
              intro fv wt hf hD hwt
              simp only [putR, List.foldl_cons, List.foldl_nil, List.map_cons, List.map_nil, Act.put, List.setIfInBounds_toArray, List.set_cons_succ, List.set_cons_zero]
              have B0 := A0.under hwt
              have B1 := A1.under hwt
              have B7 := A7.under hwt
              have HB2 := HB.trans (hwt.mono HB.size)
              clear hf hD A0 A1 A7 HB hwt gx gy
              refine wl_setElem rfl 5 sz_u8 (.tmp 50) (.tmp 49) rfl g7 4 .u8 (z : Int) (by kernel_rfl) (by kernel_rfl) _ B7 LM.out ?_
              intro w4 D7 P4
              rw [ints_set, mix_set L key 4 z HL.out gz.out] at D7
              have D0 := P4.blk B0 (by omega)
              have D1 := P4.blk B1 (by omega)
              have HB4 := HB2.trans (P4.below (by omega))
              clear B0 B1 B7 HB2 P4 gz
              go_wp2_with fail
              go_roundg (gk - 1)
              case measure => omega
              case rel => exact ⟨4 + 1, by omega, by simp, HB4, D0, D1, D7⟩
            · subst h4
              go_wp2_with (first | ((with_reducible refine wv_val (d := 20) ?hd ?hw (.int .i64 (r : Int)) ?hr ?_); (case hd => rfl); (case hw => kernel_rfl); (case hr => intro w; exact run_rem4 (i := 8) rfl (by kernel_rfl) Hr.out iB w); simp only [Act.put, List.setIfInBounds_toArray, List.set_cons_succ, List.set_cons_zero]))
              refine region_ownL wr 9 [(42, .int .i64 (8 : Int)), (43, .pointer (some ⟨g7, 8, none⟩)), (44, .int .u8 (x : Int)), (45, .int .i64 (8 : Int)), (46, .pointer (some ⟨w.heap.size + 1, 8, none⟩)), (47, .int .u8 (y : Int)), (48, .int .u8 (t : Int)), (49, .int .u8 (z : Int)), (50, .pointer (some ⟨g7, 8, none⟩))] [] [] [] rfl (by kernel_rfl) (by kernel_rfl) (by kernel_rfl) (by kernel_rfl) (by kernel_rfl) (by kernel_rfl) (by kernel_rfl) (by kernel_rfl) (by kernel_rfl) (by kernel_rfl) (by kernel_rfl) ?hst1 ?hst2 (Below.refl _ _) (fun hA => ⟨ow_val hA (wants_none rfl) 42 (.int .i64 (8 : Int)) (by kernel_rfl) rfl rfl rfl rfl (by kernel_rfl) (fun w => by kernel_rfl), ow_val hA (wants_none rfl) 43 (.pointer (some ⟨g7, 8, none⟩)) (by kernel_rfl) rfl rfl rfl rfl (by kernel_rfl) (fun w => run_idx (i := 8) rfl (by kernel_rfl) (by kernel_rfl) Try.underlying22 hil sz_u8 w), ow_elem hA (wants_none rfl) 44 (.int .u8 (x : Int)) (by kernel_rfl) rfl rfl rfl rfl (by kernel_rfl) 5 ag_u8 (.tmp 43) rfl (⟨g7, 8, none⟩) (by kernel_rfl) (fun w1 hb => (A7.under hb).cell gx.out), ow_val hA (wants_none rfl) 45 (.int .i64 (8 : Int)) (by kernel_rfl) rfl rfl rfl rfl (by kernel_rfl) (fun w => by kernel_rfl), ow_val hA (wants_none rfl) 46 (.pointer (some ⟨w.heap.size + 1, 8, none⟩)) (by kernel_rfl) rfl rfl rfl rfl (by kernel_rfl) (fun w => run_idx (i := 8) rfl (by kernel_rfl) (by kernel_rfl) Try.underlying22 hil sz_u8 w), ow_elem hA (wants_none rfl) 47 (.int .u8 (y : Int)) (by kernel_rfl) rfl rfl rfl rfl (by kernel_rfl) 5 ag_u8 (.tmp 46) rfl (⟨w.heap.size + 1, 8, none⟩) (by kernel_rfl) (fun w1 hb => (A1.under hb).cell gy.out), ow_val hA (wants_none rfl) 48 (.int .u8 (t : Int)) (by kernel_rfl) rfl rfl rfl rfl (by kernel_rfl) (fun w => run_and8C 3 rfl (by kernel_rfl) y8 (by decide) Et.out w), ow_val hA (wants_none rfl) 49 (.int .u8 (z : Int)) (by kernel_rfl) rfl rfl rfl rfl (by kernel_rfl) (fun w => run_xorV rfl (by kernel_rfl) (by kernel_rfl) x8 t8 Ez.out w), ow_val hA (wants_none rfl) 50 (.pointer (some ⟨g7, 8, none⟩)) (by kernel_rfl) rfl rfl rfl rfl (by kernel_rfl) (fun w => run_idx (i := 8) rfl (by kernel_rfl) (by kernel_rfl) Try.underlying22 hil sz_u8 w), trivial⟩) ?_
              case hst1 => intro q hq; cases hq
              case hst2 => intro q hq; cases hq
              intro fv wt hf hD hwt
              simp only [putR, List.foldl_cons, List.foldl_nil, List.map_cons, List.map_nil, Act.put, List.setIfInBounds_toArray, List.set_cons_succ, List.set_cons_zero]
              have B0 := A0.under hwt
              have B1 := A1.under hwt
              have B7 := A7.under hwt
              have HB2 := HB.trans (hwt.mono HB.size)
              clear hf hD A0 A1 A7 HB hwt gx gy
              refine wl_setElem rfl 5 sz_u8 (.tmp 50) (.tmp 49) rfl g7 8 .u8 (z : Int) (by kernel_rfl) (by kernel_rfl) _ B7 LM.out ?_
              intro w4 D7 P4
              rw [ints_set, mix_set L key 8 z HL.out gz.out] at D7
              have D0 := P4.blk B0 (by omega)
              have D1 := P4.blk B1 (by omega)
              have HB4 := HB2.trans (P4.below (by omega))
              clear B0 B1 B7 HB2 P4 gz
              go_wp2_with fail
              go_roundg (gk - 1)
              case measure => omega
              case rel => exact ⟨8 + 1, by omega, by simp, HB4, D0, D1, D7⟩
            · subst h4
              go_wp2_with (first | ((with_reducible refine wv_val (d := 20) ?hd ?hw (.int .i64 (r : Int)) ?hr ?_); (case hd => rfl); (case hw => kernel_rfl); (case hr => intro w; exact run_rem4 (i := 12) rfl (by kernel_rfl) Hr.out iB w); simp only [Act.put, List.setIfInBounds_toArray, List.set_cons_succ, List.set_cons_zero]))
              refine region_ownL wr 9 [(42, .int .i64 (12 : Int)), (43, .pointer (some ⟨g7, 12, none⟩)), (44, .int .u8 (x : Int)), (45, .int .i64 (12 : Int)), (46, .pointer (some ⟨w.heap.size + 1, 12, none⟩)), (47, .int .u8 (y : Int)), (48, .int .u8 (t : Int)), (49, .int .u8 (z : Int)), (50, .pointer (some ⟨g7, 12, none⟩))] [] [] [] rfl (by kernel_rfl) (by kernel_rfl) (by kernel_rfl) (by kernel_rfl) (by kernel_rfl) (by kernel_rfl) (by kernel_rfl) (by kernel_rfl) (by kernel_rfl) (by kernel_rfl) (by kernel_rfl) ?hst1 ?hst2 (Below.refl _ _) (fun hA => ⟨ow_val hA (wants_none rfl) 42 (.int .i64 (12 : Int)) (by kernel_rfl) rfl rfl rfl rfl (by kernel_rfl) (fun w => by kernel_rfl), ow_val hA (wants_none rfl) 43 (.pointer (some ⟨g7, 12, none⟩)) (by kernel_rfl) rfl rfl rfl rfl (by kernel_rfl) (fun w => run_idx (i := 12) rfl (by kernel_rfl) (by kernel_rfl) Try.underlying22 hil sz_u8 w), ow_elem hA (wants_none rfl) 44 (.int .u8 (x : Int)) (by kernel_rfl) rfl rfl rfl rfl (by kernel_rfl) 5 ag_u8 (.tmp 43) rfl (⟨g7, 12, none⟩) (by kernel_rfl) (fun w1 hb => (A7.under hb).cell gx.out), ow_val hA (wants_none rfl) 45 (.int .i64 (12 : Int)) (by kernel_rfl) rfl rfl rfl rfl (by kernel_rfl) (fun w => by kernel_rfl), ow_val hA (wants_none rfl) 46 (.pointer (some ⟨w.heap.size + 1, 12, none⟩)) (by kernel_rfl) rfl rfl rfl rfl (by kernel_rfl) (fun w => run_idx (i := 12) rfl (by kernel_rfl) (by kernel_rfl) Try.underlying22 hil sz_u8 w), ow_elem hA (wants_none rfl) 47 (.int .u8 (y : Int)) (by kernel_rfl) rfl rfl rfl rfl (by kernel_rfl) 5 ag_u8 (.tmp 46) rfl (⟨w.heap.size + 1, 12, none⟩) (by kernel_rfl) (fun w1 hb => (A1.under hb).cell gy.out), ow_val hA (wants_none rfl) 48 (.int .u8 (t : Int)) (by kernel_rfl) rfl rfl rfl rfl (by kernel_rfl) (fun w => run_and8C 3 rfl (by kernel_rfl) y8 (by decide) Et.out w), ow_val hA (wants_none rfl) 49 (.int .u8 (z : Int)) (by kernel_rfl) rfl rfl rfl rfl (by kernel_rfl) (fun w => run_xorV rfl (by kernel_rfl) (by kernel_rfl) x8 t8 Ez.out w), ow_val hA (wants_none rfl) 50 (.pointer (some ⟨g7, 12, none⟩)) (by kernel_rfl) rfl rfl rfl rfl (by kernel_rfl) (fun w => run_idx (i := 12) rfl (by kernel_rfl) (by kernel_rfl) Try.underlying22 hil sz_u8 w), trivial⟩) ?_
              case hst1 => intro q hq; cases hq
              case hst2 => intro q hq; cases hq
              intro fv wt hf hD hwt
              simp only [putR, List.foldl_cons, List.foldl_nil, List.map_cons, List.map_nil, Act.put, List.setIfInBounds_toArray, List.set_cons_succ, List.set_cons_zero]
              have B0 := A0.under hwt
              have B1 := A1.under hwt
              have B7 := A7.under hwt
              have HB2 := HB.trans (hwt.mono HB.size)
              clear hf hD A0 A1 A7 HB hwt gx gy
              refine wl_setElem rfl 5 sz_u8 (.tmp 50) (.tmp 49) rfl g7 12 .u8 (z : Int) (by kernel_rfl) (by kernel_rfl) _ B7 LM.out ?_
              intro w4 D7 P4
              rw [ints_set, mix_set L key 12 z HL.out gz.out] at D7
              have D0 := P4.blk B0 (by omega)
              have D1 := P4.blk B1 (by omega)
              have HB4 := HB2.trans (P4.below (by omega))
              clear B0 B1 B7 HB2 P4 gz
              go_wp2_with fail
              go_roundg (gk - 1)
              case measure => omega
              case rel => exact ⟨12 + 1, by omega, by simp, HB4, D0, D1, D7⟩
          case neg =>
            rw [if_neg h4] at gl
            have i4 : i ≠ 4 := by omega
            have i8 : i ≠ 8 := by omega
            have i12 : i ≠ 12 := by omega
            have A7' : Blk wr g7 22 (ints .u8 (mix L key (i + 1))) := by rw [mix_same L key i HL.out (by rw [gl, hx])]; exact A7
            clear gl hx hy
            go_wp2_with (first | ((with_reducible refine wv_val (d := 20) ?hd ?hw (.int .i64 (r : Int)) ?hr ?_); (case hd => rfl); (case hw => kernel_rfl); (case hr => intro w; exact run_rem4 rfl (by kernel_rfl) Hr.out iB w); simp only [Act.put, List.setIfInBounds_toArray, List.set_cons_succ, List.set_cons_zero]) | ((with_reducible refine wv_val (d := 33) ?hd ?hw (.bool false) ?hr ?_); (case hd => rfl); (case hw => kernel_rfl); (case hr => intro w; exact run_eqIF 4 rfl (by kernel_rfl) i4 w); simp only [Act.put, List.setIfInBounds_toArray, List.set_cons_succ, List.set_cons_zero]) | ((with_reducible refine wv_val (d := 36) ?hd ?hw (.bool false) ?hr ?_); (case hd => rfl); (case hw => kernel_rfl); (case hr => intro w; exact run_eqIF 8 rfl (by kernel_rfl) i8 w); simp only [Act.put, List.setIfInBounds_toArray, List.set_cons_succ, List.set_cons_zero]) | ((with_reducible refine wv_val (d := 40) ?hd ?hw (.bool false) ?hr ?_); (case hd => rfl); (case hw => kernel_rfl); (case hr => intro w; exact run_eqIF 12 rfl (by kernel_rfl) i12 w); simp only [Act.put, List.setIfInBounds_toArray, List.set_cons_succ, List.set_cons_zero]))
            go_roundg (gk - 1)
            case measure => omega
            case rel => exact ⟨i + 1, by omega, by simp, HB, A0, A1, A7'⟩
end Go.Proofs.Ytfcinakpdnblfaa.sh
